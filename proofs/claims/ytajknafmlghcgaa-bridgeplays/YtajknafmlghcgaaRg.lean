/- The document's Known; SpoilInts. -/
import Derived.Test.YtajknafmlghcgaaRe
import Derived.Test.YtajknafmlghcgaaBi
import Derived.Deep.LoopGhost
import Derived.Laws.OwnMore
import Derived.Laws.AppendOwnNone
namespace Go.Proofs.Ytajknafmlghcgaa
open Go.RowKit Go.Maps
set_option maxRecDepth 100000
set_option linter.unusedVariables false
set_option linter.unusedSimpArgs false

/-- append of a list of numbers. -/
theorem wpList_appendR {w : World} {ops : Array Oper} {rest : List Oper} {o : Oper} {a : Act} {Q : Exit → Act → World → Prop} (hgd : o.guard = none) (s x : Operand)
    (ho : o.op = .call { callee := .builtin .append, args := #[s, x], argTypes := #[39, 39] }) (base : Nat) (v : Value) (zs ys : List Int) (ad : Option Addr) (m c : Nat) (hs : a.eval s = v) (hown : Ints w base v zs) (hm : m = ys.length) (hx : a.eval x = .slice ad m c) (hr : Row w ad ys) (hnil : ad = none → c = 0) (hbase : base ≤ w.heap.size) (hlen : zs.length + ys.length < 1000000)
    (h : ∀ v' w', Ints w' base v' (zs ++ ys) → Below base w w' → Turn (fun k => v.ownBlock = some k) w w' → wpList Try.prog ops Q rest (a.put o.dst v') w') : wpList Try.prog ops Q (o :: rest) a w := by
  subst hm
  obtain ⟨i0, hi, hz0, hz1, hz2⟩ := info_parts info3
  cases ad with
  | none =>
    have hy : ys = [] := by
      rcases hr with h | ⟨b, off, h, -⟩
      · exact h
      · cases h
    subst hy
    have hc := hnil rfl
    subst hc
    refine wpList_append_own_none hgd s x 39 ho base 3 i0 1 Try.underlying39 hi v zs.length (zs.map (Value.int .i64)) hs hown hx ?_
    exact h v w (by rw [List.append_nil]; exact hown) (Below.refl _ _) (Turn.refl _)
  | some ad =>
    have hnews : ∀ (j : Nat) u, (ys.map (Value.int .i64))[j]? = some u → w.cell? (ad.add j) = some u := by
      intro j u hu
      rw [List.getElem?_map, Option.map_eq_some_iff] at hu
      obtain ⟨y, hy, rfl⟩ := hu
      have hj := (List.getElem?_eq_some_iff.1 hy).1
      rcases hr with h | ⟨b, off, h, hc⟩
      · subst h; simp at hj
      · cases h
        rw [Addr.add_lit, hc j hj]
        simp [List.getD, hy]
    refine wpList_append_own _ hgd s x 39 ho base 3 i0 (.int .i64 0) 1 8 Try.underlying39 hi hz0 hz1 hz2 rfl (by decide) v zs.length (zs.map (Value.int .i64)) hs hown ad ys.length c (ys.map (Value.int .i64)) hx (by simp) hnews (ints_oneCell _ _) (by unfold maxLen; omega) (by omega) hbase ?_
    intro v' w' h1 h2 h3
    have hT : Turn (fun k => v.ownBlock = some k) w w' := Turn.of_grown h2 (fun j hj => Or.inl hj)
    refine h v' w' ?_ (hT.below hbase (fun k hk he => by have := own_ge hown k he; omega)) hT
    unfold Ints
    simpa using h1
theorem Ints.later {w x : World} {base : Nat} {v : Value} {zs : List Int} (h : Ints w base v zs) (hb : Below w.heap.size w x) : Ints x base v zs := h.turn (S := fun _ => False) (Turn.of_below hb) (fun _ _ h => h)
theorem row_take {w : World} {a : Option Addr} {zs : List Int} (h : Row w a zs) (k : Nat) : Row w a (zs.take k) := by
  rcases h with h | ⟨b, off, h, hc⟩
  · subst h; exact Or.inl (by simp)
  · refine Or.inr ⟨b, off, h, fun j hj => ?_⟩
    rw [List.length_take] at hj
    rw [hc j (by omega)]
    simp [List.getD, List.getElem?_take, show j < k by omega]
theorem row_drop {w : World} {b off : Nat} {zs : List Int} (h : Row w (some ⟨b, off, none⟩) zs) (k : Nat) : Row w (some ⟨b, off + k, none⟩) (zs.drop k) := by
  rcases h with h | ⟨b', off', h, hc⟩
  · subst h; exact Or.inl (by simp)
  · cases h
    refine Or.inr ⟨b, off + k, rfl, fun j hj => ?_⟩
    rw [List.length_drop] at hj
    have := hc (k + j) (by omega)
    rw [← Nat.add_assoc] at this
    rw [this]
    simp [List.getD, List.getElem?_drop]
theorem fold_snoc {L : List En} {k : Nat} {e : En} {ag now : Int} (he : L[k]? = some e) (hf : now < e.2.2 + ag) : rknownL ag now (L.take (k + 1)) = insS e.1 (rknownL ag now (L.take k)) := by
  unfold rknownL
  rw [takeE_snoc he, List.filter_append, List.map_append, List.foldl_append]
  simp [hf]
theorem fold_skip {L : List En} {k : Nat} {e : En} {ag now : Int} (he : L[k]? = some e) (hf : ¬ now < e.2.2 + ag) : rknownL ag now (L.take (k + 1)) = rknownL ag now (L.take k) := by
  unfold rknownL
  rw [takeE_snoc he, List.filter_append]
  simp [hf]
theorem rknown_len {L : List En} {k : Nat} {ag now : Int} : (rknownL ag now (L.take k)).length ≤ L.length := by
  unfold rknownL
  rw [(fold_perm _ _).length_eq, List.append_nil, List.length_map]
  refine Nat.le_trans (List.length_filter_le _ _) ?_
  rw [List.length_take]; omega
set_option maxHeartbeats 4000000 in
theorem rknown_any (B base : Nat) (po ag ro la : Int) (now : Int) (v : Value) (l : List En) (w : World) (hB : At w B (rbV po ag ro la v)) (hL : HR w base v l) (hn : l.length < 5000) (hok : ∀ e ∈ l, okE e) (hg0 : 1 ≤ ag) (hg1 : ag ≤ 1048576) :
    Calls Try.prog 20 #[.pointer (some ⟨B, 0, none⟩), .int .i64 now] w fun e w' => ∃ u, e = .returned u ∧ Ints w' w.heap.size u (rknownL ag now l) ∧ Below w.heap.size w w' := by
  obtain ⟨a0, cap0, rfl⟩ := hL.shape
  go_enter Try.func20, Try.ntmps20
  go_wp2
  go_loopg [5, 6] l.length (fun g out c wr => ∃ (k : Nat) (u : Value), u = out ∧ k ≤ l.length ∧ g = l.length - k ∧ c = .int .i64 (k : Int) ∧ Ints wr w.heap.size u (rknownL ag now (l.take k)) ∧ Below w.heap.size w wr)
  case atStart => exact ⟨0, _, rfl, Nat.zero_le _, rfl, rfl, Ints.nil _ _, Below.refl _ _⟩
  case round =>
    obtain ⟨k, u, rfl, hk, rfl, rfl, hI, hb⟩ := hrel
    have hB1 := hB.later hb
    have c4 : wr.cell? ⟨B, 4, none⟩ = some (.slice a0 l.length cap0) := (hB1.2 4 _ rfl).1
    by_cases hlt : k < l.length
    · obtain ⟨e, he⟩ : ∃ e, l[k]? = some e := ⟨_, List.getElem?_eq_getElem hlt⟩
      obtain ⟨g, cap, hv, hg, hr⟩ := hL.cells he
      cases hv
      have hoe := (hok e (List.mem_of_getElem? he)).2
      have hstep := @fold_snoc l k e ag now he
      have hskip := @fold_skip l k e ag now he
      have hzl := @rknown_len l k ag now
      obtain ⟨ea, ep, et⟩ := e
      have hkl : (k : Int) < (l.length : Int) := by omega
      have r0 : wr.cell? ⟨g, k * 3, none⟩ = some (.int .i64 ea) := later hb (hr 0 _ rfl)
      have r1 : wr.cell? ⟨g, k * 3 + 1, none⟩ = some (.int .i64 ep) := later hb (hr 1 _ rfl)
      have r2 : wr.cell? ⟨g, k * 3 + 2, none⟩ = some (.int .i64 et) := later hb (hr 2 _ rfl)
      have HS : Hid (now < et + ag → rknownL ag now (l.take (k + 1)) = insS ea (rknownL ag now (l.take k))) := hstep
      have HK : Hid (¬ now < et + ag → rknownL ag now (l.take (k + 1)) = rknownL ag now (l.take k)) := hskip
      clear hstep hskip
      go_wp2_with fail
      refine (rfresh_any B po ag ro la _ ea ep et now wr hB1 hoe hg0 hg1).mono ?_
      rintro e w2 ⟨rfl, hb2⟩
      have hb3 := bt hb hb2
      have hI2 := hI.later hb2
      replace c4 := later hb2 c4
      replace r0 := later hb2 r0
      have hBw : B < w.heap.size := hB.1
      clear hI r1 r2 hB1
      generalize hzs : rknownL ag now (l.take k) = zs at *
      by_cases hf : now < et + ag
      · have HS' : Hid (rknownL ag now (l.take (k + 1)) = insS ea zs) := HS.out hf
        rw [decide_eq_true hf]
        obtain ⟨au, cu, rfl, hrow⟩ := hI2.row
        have hcu : au = none → cu = 0 := by
          intro h
          rcases hI2.2 with ⟨h2, -⟩ | ⟨g2, cap2, cur2, h2, -⟩
          · injection h2
          · rw [h] at h2; cases h2
        have hcz : zs.length ≤ cu := by
          rcases hI2.2 with ⟨h2, h0⟩ | ⟨g2, cap2, cur2, h2, -, -, h3, -⟩
          · omega
          · injection h2 with e1 e2 e3; omega
        have hau : ∀ x, au = some x → ∃ g2, x = ⟨g2, 0, none⟩ := by
          intro x h
          rcases hI2.2 with ⟨h2, h0⟩ | ⟨g2, cap2, cur2, h2, -⟩
          · rw [h] at h2; cases h2
          · rw [h] at h2; cases h2; exact ⟨g2, rfl⟩
        go_wp2
        go_loopg [7] zs.length (fun q c wi => ∃ j : Nat, j ≤ zs.length ∧ q = zs.length - j ∧ c = .int .i64 (j : Int) ∧ Hid (∀ i, i < j → zs.getD i 0 < ea) ∧ Below w2.heap.size w2 wi)
        case atStart => exact ⟨0, Nat.zero_le _, rfl, rfl, fun i hi => by omega, Below.refl _ _⟩
        case round =>
          obtain ⟨j, hj, rfl, rfl, hA, hbi⟩ := hrel
          have cc4 := later hbi c4
          have rr0 := later hbi r0
          by_cases hjl : j < zs.length
          · obtain ⟨b, off, rfl, hc⟩ : ∃ b off, au = some ⟨b, off, none⟩ ∧ ∀ j, j < zs.length → w2.cell? ⟨b, off + j, none⟩ = some (.int .i64 (zs.getD j 0)) := by
              rcases hrow with h | h
              · subst h; simp at hjl
              · exact h
            have gz := later hbi (hc j hjl)
            have hjz : (j : Int) < (zs.length : Int) := by omega
            clear hc
            obtain ⟨z, hz⟩ : ∃ z, zs.getD j 0 = z := ⟨_, rfl⟩
            rw [hz] at gz
            have HZ : Hid (zs.getD j 0 = z) := hz
            clear hz
            by_cases hlz : z < ea
            · go_upto_region 7 with fail
              go_quiet (fail)
              go_wp2
              go_roundg (zs.length - (j + 1))
              case measure => omega
              case rel => exact ⟨j + 1, by omega, rfl, by simp, fun i hi => by
                by_cases e : i = j
                · subst e; rw [HZ.out]; exact hlz
                · exact hA.out i (by omega), below_drewN hbi _⟩
            · have HE : Hid (insS ea zs = zs.take j ++ [ea] ++ zs.drop j) := insS_at ea zs j hj hA.out (Or.inr (by rw [HZ.out]; exact hlz))
              go_upto_region 7 with fail
              go_quiet (fail)
              go_upto_region 10 with fail
              clear cc4 rr0
              have hbw := bt hb3 (below_drewN hbi nq)
              have hIw : Ints (wr.drewN nq) w.heap.size (.slice (some ⟨b, off, none⟩) zs.length cu) zs := hI2.later (below_drewN hbi nq)
              have rowj : Row (wr.drewN nq) (some ⟨b, off, none⟩) zs := hrow.later (below_drewN hbi nq)
              have c4w := later (below_drewN hbi nq) c4
              have r0w := later (below_drewN hbi nq) r0
              clear hbi
              generalize wr.drewN nq = wj at *
              go_upto_region 11 with (first
                | (at_builtin; refine wpList_appendR rfl _ _ rfl wj.heap.size (.slice none 0 0) [] (List.take j zs) (some ⟨b, off, none⟩) j cu rfl (Ints.nil _ _) (by simp; try omega) rfl (row_take rowj j) (fun h => by cases h <;> rfl) (Nat.le_refl _) (by simp <;> omega) ?_; intro v5 w5 hI5 hb5 ht5)
                | go_in)
              have c5 := later hb5 c4w
              have r5 := later hb5 r0w
              have hs5 := hb5.size
              go_upto_region 12 with (first
                | (at_builtin; refine wpList_append1 rfl _ _ rfl wj.heap.size v5 ([] ++ List.take j zs) ea rfl hI5 rfl hs5 (by simp <;> omega) ?_; intro v6 w6 hI6 hb6 ht6)
                | go_in)
              have hb56 : Below wj.heap.size wj w6 := hb5.trans hb6
              have row6 := rowj.later hb56
              have hs6 := hb56.size
              go_wp2_with (first
                | (at_builtin; refine wpList_appendR rfl _ _ rfl wj.heap.size v6 ([] ++ List.take j zs ++ [ea]) (List.drop j zs) (some ⟨b, off + j, none⟩) _ _ rfl hI6 (by simp <;> omega) rfl (row_drop row6 j) (fun h => by cases h <;> rfl) hs6 (by simp <;> omega) ?_; intro v7 w7 hI7 hb7 ht7)
                | go_in)
              go_roundg (l.length - (k + 1))
              case measure => omega
              case rel => exact ⟨k + 1, _, rfl, by omega, rfl, by simp, by rw [HS'.out, HE.out]; exact hI7.below hbw.size, (bt hbw (hb56.trans hb7))⟩
          · have hje : j = zs.length := by omega
            have HE : Hid (insS ea zs = zs.take j ++ [ea] ++ zs.drop j) := insS_at ea zs j hj hA.out (Or.inl hje)
            cases au with
            | none =>
              have hz0 : zs = [] := by
                rcases hrow with h | ⟨b, off, h, -⟩
                · exact h
                · cases h
              subst hz0
              have hc0 := hcu rfl
              subst hc0
              simp at hje
              subst hje
              go_upto_region 7 with fail
              go_quiet (fail)
              go_upto_region 10 with fail
              clear cc4 rr0
              have hbw := bt hb3 (below_drewN hbi nq)
              have hIw : Ints (wr.drewN nq) w.heap.size (.slice none ([] : List Int).length 0) ([] : List Int) := hI2.later (below_drewN hbi nq)
              have rowj : Row (wr.drewN nq) none ([] : List Int) := hrow.later (below_drewN hbi nq)
              have c4w := later (below_drewN hbi nq) c4
              have r0w := later (below_drewN hbi nq) r0
              clear hbi
              generalize wr.drewN nq = wj at *
              go_upto_region 11 with (first
                | (at_builtin; refine wpList_appendR rfl _ _ rfl wj.heap.size (.slice none 0 0) [] (List.take 0 ([] : List Int)) none 0 0 rfl (Ints.nil _ _) (by simp; try omega) rfl (row_take rowj 0) (fun h => by cases h <;> rfl) (Nat.le_refl _) (by simp <;> omega) ?_; intro v5 w5 hI5 hb5 ht5)
                | go_in)
              have c5 := later hb5 c4w
              have r5 := later hb5 r0w
              have hs5 := hb5.size
              go_upto_region 12 with (first
                | (at_builtin; refine wpList_append1 rfl _ _ rfl wj.heap.size v5 ([] ++ List.take 0 ([] : List Int)) ea rfl hI5 rfl hs5 (by simp <;> omega) ?_; intro v6 w6 hI6 hb6 ht6)
                | go_in)
              have hb56 : Below wj.heap.size wj w6 := hb5.trans hb6
              have row6 := rowj.later hb56
              have hs6 := hb56.size
              go_wp2_with (first
                | (at_builtin; refine wpList_appendR rfl _ _ rfl wj.heap.size v6 ([] ++ List.take 0 ([] : List Int) ++ [ea]) (List.drop 0 ([] : List Int)) none _ _ rfl hI6 (by simp <;> omega) rfl (Or.inl (by simp)) (fun h => by cases h <;> rfl) hs6 (by simp <;> omega) ?_; intro v7 w7 hI7 hb7 ht7)
                | go_in)
              go_roundg (l.length - (k + 1))
              case measure => omega
              case rel => exact ⟨k + 1, _, rfl, by omega, rfl, by simp, by rw [HS'.out, HE.out]; exact hI7.below hbw.size, (bt hbw (hb56.trans hb7))⟩
            | some x =>
              obtain ⟨b, rfl⟩ := hau x rfl
              clear hje
              rcases Nat.lt_or_ge j cu with hcj | hcj
              · have hjz : ¬ (j : Int) < (zs.length : Int) := by omega
                go_upto_region 7 with fail
                go_quiet (fail)
                go_upto_region 10 with fail
                clear cc4 rr0
                have hbw := bt hb3 (below_drewN hbi nq)
                have hIw : Ints (wr.drewN nq) w.heap.size (.slice (some ⟨b, 0, none⟩) zs.length cu) zs := hI2.later (below_drewN hbi nq)
                have rowj : Row (wr.drewN nq) (some ⟨b, 0, none⟩) zs := hrow.later (below_drewN hbi nq)
                have c4w := later (below_drewN hbi nq) c4
                have r0w := later (below_drewN hbi nq) r0
                clear hbi
                generalize wr.drewN nq = wj at *
                go_upto_region 11 with (first
                  | (at_builtin; refine wpList_appendR rfl _ _ rfl wj.heap.size (.slice none 0 0) [] (List.take j zs) (some ⟨b, 0, none⟩) j cu rfl (Ints.nil _ _) (by simp; try omega) rfl (row_take rowj j) (fun h => by cases h <;> rfl) (Nat.le_refl _) (by simp <;> omega) ?_; intro v5 w5 hI5 hb5 ht5)
                  | go_in)
                have c5 := later hb5 c4w
                have r5 := later hb5 r0w
                have hs5 := hb5.size
                go_upto_region 12 with (first
                  | (at_builtin; refine wpList_append1 rfl _ _ rfl wj.heap.size v5 ([] ++ List.take j zs) ea rfl hI5 rfl hs5 (by simp <;> omega) ?_; intro v6 w6 hI6 hb6 ht6)
                  | go_in)
                have hb56 : Below wj.heap.size wj w6 := hb5.trans hb6
                have row6 := rowj.later hb56
                have hs6 := hb56.size
                go_wp2_with (first
                  | (at_builtin; refine wpList_appendR rfl _ _ rfl wj.heap.size v6 ([] ++ List.take j zs ++ [ea]) (List.drop j zs) (some ⟨b, j, none⟩) _ _ rfl hI6 (by simp <;> omega) rfl (by simpa using row_drop row6 j) (fun h => by cases h <;> rfl) hs6 (by simp <;> omega) ?_; intro v7 w7 hI7 hb7 ht7)
                  | go_in)
                go_roundg (l.length - (k + 1))
                case measure => omega
                case rel => exact ⟨k + 1, _, rfl, by omega, rfl, by simp, by rw [HS'.out, HE.out]; exact hI7.below hbw.size, (bt hbw (hb56.trans hb7))⟩
              · have hjz : ¬ (j : Int) < (zs.length : Int) := by omega
                obtain rfl : j = cu := by omega
                go_upto_region 7 with fail
                go_quiet (fail)
                go_upto_region 10 with fail
                clear cc4 rr0
                have hbw := bt hb3 (below_drewN hbi nq)
                have hIw : Ints (wr.drewN nq) w.heap.size (.slice (some ⟨b, 0, none⟩) zs.length j) zs := hI2.later (below_drewN hbi nq)
                have rowj : Row (wr.drewN nq) (some ⟨b, 0, none⟩) zs := hrow.later (below_drewN hbi nq)
                have c4w := later (below_drewN hbi nq) c4
                have r0w := later (below_drewN hbi nq) r0
                clear hbi
                generalize wr.drewN nq = wj at *
                go_upto_region 11 with (first
                  | (at_builtin; refine wpList_appendR rfl _ _ rfl wj.heap.size (.slice none 0 0) [] (List.take j zs) (some ⟨b, 0, none⟩) j j rfl (Ints.nil _ _) (by simp; try omega) rfl (row_take rowj j) (fun h => by cases h <;> rfl) (Nat.le_refl _) (by simp <;> omega) ?_; intro v5 w5 hI5 hb5 ht5)
                  | go_in)
                have c5 := later hb5 c4w
                have r5 := later hb5 r0w
                have hs5 := hb5.size
                go_upto_region 12 with (first
                  | (at_builtin; refine wpList_append1 rfl _ _ rfl wj.heap.size v5 ([] ++ List.take j zs) ea rfl hI5 rfl hs5 (by simp <;> omega) ?_; intro v6 w6 hI6 hb6 ht6)
                  | go_in)
                have hb56 : Below wj.heap.size wj w6 := hb5.trans hb6
                have row6 := rowj.later hb56
                have hs6 := hb56.size
                go_wp2_with (first
                  | (at_builtin; refine wpList_appendR rfl _ _ rfl wj.heap.size v6 ([] ++ List.take j zs ++ [ea]) (List.drop j zs) (some ⟨b, 0, none⟩) _ _ rfl hI6 (by simp <;> omega) rfl (Or.inl (by rw [List.drop_eq_nil_iff]; omega)) (fun h => by cases h <;> rfl) hs6 (by simp <;> omega) ?_; intro v7 w7 hI7 hb7 ht7)
                  | go_in)
                go_roundg (l.length - (k + 1))
                case measure => omega
                case rel => exact ⟨k + 1, _, rfl, by omega, rfl, by simp, by rw [HS'.out, HE.out]; exact hI7.below hbw.size, (bt hbw (hb56.trans hb7))⟩
      · have HK' : Hid (rknownL ag now (l.take (k + 1)) = zs) := HK.out (by omega)
        rw [decide_eq_false hf]
        go_wp2
        go_roundg (l.length - (k + 1))
        case measure => omega
        case rel => exact ⟨k + 1, _, rfl, by omega, rfl, by simp, by rw [HK'.out]; exact hI2, hb3⟩
    · have hkl : k = l.length := by omega
      subst hkl
      rw [List.take_length] at hI
      go_wp2
      go_ret
      exact ⟨_, rfl, hI, hb⟩
end Go.Proofs.Ytajknafmlghcgaa
