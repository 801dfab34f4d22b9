/- Apart. -/
import Derived.Test.YtkclookpdngkoaaDRc
namespace Go.Proofs.Ytkclookpdngkoaa.S
open Go.RowKit Go.Maps Go.Lib
set_option maxRecDepth 100000
set_option linter.unusedVariables false
set_option linter.unusedSimpArgs false


abbrev Rg := Int × Int
/-- A list of ranges that is read. -/
def RR (w : World) (v : Value) (rs : List Rg) : Prop := ∃ a c, v = .slice a rs.length c ∧ ∀ i r, rs[i]? = some r → ∃ b off, a = some ⟨b, off, none⟩ ∧ Kd w b 43 ∧ w.cell? ⟨b, off + i * 2, none⟩ = some (.int .i64 r.1) ∧ w.cell? ⟨b, off + i * 2 + 1, none⟩ = some (.int .i64 r.2)
theorem RR.keep {ts : List TypeId} {R : Bk} {w w' : World} {v : Value} {rs : List Rg} (h : RR w v rs) (ht : TY ts R w w') (hn : 43 ∉ ts) : RR w' v rs := by
  obtain ⟨a, c, h1, h2⟩ := h
  refine ⟨a, c, h1, fun i r hr => ?_⟩
  obtain ⟨b, off, k1, k2, k3, k4⟩ := h2 i r hr
  have e := ht.kd k2 hn
  exact ⟨b, off, k1, k2.turn ht (Or.inl hn), (World.cell?_of_block (a := ⟨b, off + i * 2, none⟩) e).trans k3, (World.cell?_of_block (a := ⟨b, off + i * 2 + 1, none⟩) e).trans k4⟩
theorem RR.later {w w' : World} {v : Value} {rs : List Rg} (h : RR w v rs) (hb : Below w.heap.size w w') : RR w' v rs := h.keep (ts := []) (R := fun _ => False) (TY.of_below hb) (by simp)
def okI (Q : Qu) (r : Rg) (k : Nat) : Prop := placeB Q r.1 = true ∧ placeB Q r.2 = true ∧ offN Q r.1 ≤ k ∧ k < offN Q r.2
/-- The parts behind these ranges. -/
def AI (Q : Qu) (rs : List Rg) (L : List Pt) : Prop := PsOk Q.sent L ∧ ∀ k, inP L k ↔ inP Q.ps k ∨ ∃ r ∈ rs, okI Q r k
theorem AI.nil {Q : Qu} (h : Q.Fine) : AI Q [] Q.ps := ⟨h.ok, fun k => by simp⟩
theorem AI.skip {Q : Qu} {rs : List Rg} {L : List Pt} (h : AI Q rs L) (r : Rg) (hn : ∀ k, ¬ okI Q r k) : AI Q (rs ++ [r]) L := by
  refine ⟨h.1, fun k => (h.2 k).trans ⟨?_, ?_⟩⟩
  · rintro (h1 | ⟨x, hx, h1⟩)
    · exact Or.inl h1
    · exact Or.inr ⟨x, List.mem_append_left _ hx, h1⟩
  · rintro (h1 | ⟨x, hx, h1⟩)
    · exact Or.inl h1
    · rcases List.mem_append.1 hx with hx | hx
      · exact Or.inr ⟨x, hx, h1⟩
      · obtain rfl := List.mem_singleton.1 hx
        exact absurd h1 (hn k)
theorem AI.put {Q : Qu} {rs : List Rg} {L L' : List Pt} (h : AI Q rs L) (r : Rg) (h1 : placeB Q r.1 = true) (h2 : placeB Q r.2 = true) (hL : PsOk Q.sent L') (hk : ∀ k, inP L' k ↔ inP L k ∨ offN Q r.1 ≤ k ∧ k < offN Q r.2) : AI Q (rs ++ [r]) L' := by
  refine ⟨hL, fun k => (hk k).trans ⟨?_, ?_⟩⟩
  · rintro (h3 | h3)
    · rcases (h.2 k).1 h3 with h4 | ⟨x, hx, h4⟩
      · exact Or.inl h4
      · exact Or.inr ⟨x, List.mem_append_left _ hx, h4⟩
    · exact Or.inr ⟨r, List.mem_append_right _ (List.mem_singleton.2 rfl), h1, h2, h3⟩
  · rintro (h3 | ⟨x, hx, h3⟩)
    · exact Or.inl ((h.2 k).2 (Or.inl h3))
    · rcases List.mem_append.1 hx with hx | hx
      · exact Or.inl ((h.2 k).2 (Or.inr ⟨x, hx, h3⟩))
      · obtain rfl := List.mem_singleton.1 hx
        exact Or.inr h3.2.2
def sumP (L : List Pt) : Nat := (L.map fun e => e.2 - e.1).sum
theorem sumP_le {n : Nat} {ps : List Pt} (h : PsOk n ps) : sumP ps ≤ n := by
  suffices ∀ (l : List Pt) (m : Nat), l.Pairwise (fun x y => x.2 < y.1) → (∀ e ∈ l, m ≤ e.1 ∧ e.1 < e.2 ∧ e.2 ≤ n) → m + sumP l ≤ max m n by
    have := this ps 0 h.1 (fun e he => ⟨Nat.zero_le _, h.2 e he⟩)
    omega
  intro l
  induction l with
  | nil => intro m _ _; simp [sumP]; omega
  | cons x r ih =>
    intro m hp hb
    have hx := hb x (List.mem_cons_self ..)
    have hp' := List.pairwise_cons.1 hp
    have := ih (x.2) hp'.2 (fun e he => ⟨by have := hp'.1 e he; omega, (hb e (List.mem_cons_of_mem _ he)).2⟩)
    have e : sumP (x :: r) = (x.2 - x.1) + sumP r := by simp [sumP]
    omega
theorem sumP_snoc (L : List Pt) (e : Pt) : sumP (L ++ [e]) = sumP L + (e.2 - e.1) := by simp [sumP]
theorem psOk_take {n : Nat} {ps : List Pt} (h : PsOk n ps) (i : Nat) : PsOk n (ps.take i) := ⟨h.1.sublist (List.take_sublist _ _), fun e he => h.2 e (List.mem_of_mem_take he)⟩
theorem take_snocR {rs : List Rg} {i : Nat} {r : Rg} (he : rs[i]? = some r) : rs.take (i + 1) = rs.take i ++ [r] := by
  rw [List.take_add_one, he]
  rfl
set_option maxHeartbeats 4000000 in
theorem apart_any {w : World} {R : Bk} {q : Nat} {Q : Qu} {vb vp v : Value} {rs : List Rg} (h : QX w R q Q vb vp) (hf : Q.Fine) (hR : UpR R w) (hr : RR w v rs) (hn : rs.length ≤ 100000) :
    Calls Try.prog 17 #[PQ q, v] w fun e w' => ∃ L vp', e = .returned (.int .i64 (sumP L : Int)) ∧ AI Q rs L ∧ QX w' R q { Q with ps := L } vb vp' ∧ TK R w w' := by
  have HF : Hid Q.Fine := hf
  have HR : Hid (RR w v rs) := hr
  have HX : Hid (QX w R q Q vb vp) := h
  have hs6 : Q.sent ≤ 65536 := by have := hf.sn; have := hf.ln; have := hf.r1; omega
  obtain ⟨a, c, rfl, -⟩ := hr
  clear hf h
  go_enter Try.func17, Try.ntmps17
  go_wp2
  go_loopw [16] (fun s16 W => ∃ (i : Nat) (L : List Pt) (vp' : Value), i ≤ rs.length ∧ s16 = .int .i64 (i : Int) ∧ Hid (AI Q (rs.take i) L ∧ QX W R q { Q with ps := L } vb vp' ∧ TK R w W)) (fun s16 _ => rs.length - (RowKit.intOf s16).toNat)
  case atStart => exact ⟨0, Q.ps, vp, Nat.zero_le _, rfl, AI.nil HF.out, HX.out, TY.refl _⟩
  case round =>
    obtain ⟨i, L, vp', hin, rfl, HI⟩ := hrel
    obtain ⟨hAI, hX, hT⟩ := HI.out
    have hfL : ({ Q with ps := L } : Qu).Fine := ⟨HF.out.r0, HF.out.r1, HF.out.l0, HF.out.l1, HF.out.ln, HF.out.sn, hAI.1⟩
    by_cases hlt : i < rs.length
    · obtain ⟨r, hrr⟩ : ∃ r, rs[i]? = some r := ⟨_, List.getElem?_eq_getElem hlt⟩
      obtain ⟨a1, c1, hv, hcells⟩ := HR.out.keep hT (by decide)
      cases hv
      obtain ⟨b, off, rfl, hkb, r0, r1⟩ := hcells i r hrr
      have hltI : (i : Int) < (rs.length : Int) := by omega
      have HRR : Hid (rs[i]? = some r) := hrr
      have hbox := bel1 wr (.cells #[.int .i64 r.1, .int .i64 r.2] 43)
      have hA := At.box wr #[.int .i64 r.1, .int .i64 r.2] 43
      have hX1 := hX.later hbox
      obtain ⟨B1, hB1⟩ : ∃ x, x = placeB Q r.1 := ⟨_, rfl⟩
      obtain ⟨B2, hB2⟩ : ∃ x, x = placeB Q r.2 := ⟨_, rfl⟩
      obtain ⟨d1, hd1⟩ : ∃ x, x = distV Q.left r.1 := ⟨_, rfl⟩
      obtain ⟨d2, hd2⟩ : ∃ x, x = distV Q.left r.2 := ⟨_, rfl⟩
      have HB1 : Hid (B1 = placeB Q r.1 ∧ d1 = distV Q.left r.1) := ⟨hB1, hd1⟩
      have HB2 : Hid (B2 = placeB Q r.2 ∧ d2 = distV Q.left r.2) := ⟨hB2, hd2⟩
      have hp1 : Calls Try.prog 27 #[PQ q, .int .i64 r.1] (wr.alloc (.cells #[.int .i64 r.1, .int .i64 r.2] 43)) fun e w' => e = .returned (.tuple #[.int .i64 d1, .bool B1]) ∧ Below (wr.alloc (.cells #[.int .i64 r.1, .int .i64 r.2] 43)).heap.size (wr.alloc (.cells #[.int .i64 r.1, .int .i64 r.2] 43)) w' := by rw [hB1, hd1]; exact place_any hX1 hfL r.1
      clear hB1 hd1
      have HTk : Hid (TK R w wr) := hT
      have HAI : Hid (AI Q (rs.take i) L) := hAI
      clear hcells hrr HI hT hAI hX
      go_upto_region 4 with fail
      have ew : wr.alloc (Obj.cells #[Value.int .i64 r.1, Value.int .i64 r.2] 43) = wr.alloc (.cells #[.int .i64 r.1, .int .i64 r.2] 43) := rfl
      generalize hw1 : wr.alloc (.cells #[.int .i64 r.1, .int .i64 r.2] 43) = w1 at *
      clear ew
      generalize wr.heap.size = zb at hA ⊢
      have x0 := (hA.2 0 _ rfl).1
      go_wp2_with fail
      refine hp1.mono ?_
      rintro e w2 ⟨rfl, hb2⟩
      have hX2 := hX1.later hb2
      have x1 := ((hA.later hb2).2 1 _ rfl).1
      have hp2 : Calls Try.prog 27 #[PQ q, .int .i64 r.2] w2 fun e w' => e = .returned (.tuple #[.int .i64 d2, .bool B2]) ∧ Below w2.heap.size w2 w' := by rw [hB2, hd2]; exact place_any hX2 hfL r.2
      clear hB2 hd2
      go_wp2_with fail
      refine hp2.mono ?_
      rintro e w3 ⟨rfl, hb3⟩
      have hX3 := hX2.later hb3
      have HT3 : Hid (TK R w w3) := ((HTk.out.later (by rw [← hw1] at *; exact bel1 _ _)).later hb2).later hb3
      have hskip : (∀ k, ¬ okI Q r k) → ∃ (i' : Nat) (L' : List Pt) (vp'' : Value), i' ≤ rs.length ∧ Value.int .i64 ((i : Int) + 1) = .int .i64 (i' : Int) ∧ Hid (AI Q (rs.take i') L' ∧ QX w3 R q { Q with ps := L' } vb vp'' ∧ TK R w w3) := fun hno => ⟨i + 1, L, vp', by omega, by first | rfl | simp, by rw [take_snocR HRR.out]; exact HAI.out.skip r hno, hX3, HT3.out⟩
      have HSK : Hid ((∀ k, ¬ okI Q r k) → ∃ (i' : Nat) (L' : List Pt) (vp'' : Value), i' ≤ rs.length ∧ Value.int .i64 ((i : Int) + 1) = .int .i64 (i' : Int) ∧ Hid (AI Q (rs.take i') L' ∧ QX w3 R q { Q with ps := L' } vb vp'' ∧ TK R w w3)) := hskip
      clear hskip
      cases B1 with
      | false =>
        go_wp2
        go_roundw
        case rel => exact HSK.out (fun k hk => by have := HB1.out.1; rw [hk.1] at this; cases this)
        case measure => simp [RowKit.intOf]; omega
      | true =>
        cases B2 with
        | false =>
          go_wp2
          go_roundw
          case rel => exact HSK.out (fun k hk => by have := HB2.out.1; rw [hk.2.1] at this; cases this)
          case measure => simp [RowKit.intOf]; omega
        | true =>
          have hq1 := placeB_t HB1.out.1.symm
          have hq2 := placeB_t HB2.out.1.symm
          have e1 : d1 = (offN Q r.1 : Int) := HB1.out.2.trans (distV_is HF.out hq1.1)
          have e2 : d2 = (offN Q r.2 : Int) := HB2.out.2.trans (distV_is HF.out hq2.1)
          by_cases hdd : offN Q r.1 < offN Q r.2
          · have hcw := with_any (offN Q r.1, offN Q r.2) hX3.po (hR.up HT3.out.size) HAI.out.1 hs6 hdd hq2.2
            subst e1 e2
            have HK1 : Hid (placeB Q r.1 = true ∧ placeB Q r.2 = true) := ⟨HB1.out.1.symm, HB2.out.1.symm⟩
            clear HB1 HB2
            dsimp only at hcw
            generalize ho1 : offN Q r.1 = o1 at *
            generalize ho2 : offN Q r.2 = o2 at *
            have HO : Hid (offN Q r.1 = o1 ∧ offN Q r.2 = o2) := ⟨ho1, ho2⟩
            clear ho1 ho2
            have hoI : (o1 : Int) < (o2 : Int) := by omega
            have c4 := (hX3.at5.2 4 _ rfl).1
            go_wp2_with fail
            refine hcw.mono ?_
            rintro e w4 ⟨v4, L4, rfl, hP4, hok4, hin4, ht4⟩
            have hne : ∀ k, vp'.ownBlock = some k → k ≠ q := fun k hk e => by subst e; exact absurd ((row_kd hX3.po k hk).2.one hX3.kd) (by decide)
            have hA4 := hX3.at5.turn ht4 (fun e => hne q e rfl)
            have hk4 : Kd w4 q 53 := by obtain ⟨cc, fz, hk⟩ := hX3.kd; exact ⟨cc, fz, (ht4.block q hX3.at5.1 (fun e => hne q e rfl)).trans hk⟩
            have hB4 : BO w4 R vb Q.bs := row_turn hX3.bo ht4 (fun k hk e => absurd ((row_kd hX3.bo k hk).2.one (row_kd hX3.po k e).2) (by decide))
            have htk4 : TK R w3 w4 := ht4.mono (fun k hk => by obtain ⟨p1, p2⟩ := row_kd hX3.po k hk; exact ⟨p1, 58, by decide, p2⟩)
            obtain ⟨a4, b4, e4, -⟩ := hP4.shape
            subst e4
            have HAI4 : Hid (AI Q (rs.take (i + 1)) L4) := by
              show AI _ _ _
              rw [take_snocR HRR.out]
              refine HAI.out.put r HK1.out.1 HK1.out.2 hok4 (fun k => ?_)
              rw [HO.out.1, HO.out.2]
              exact hin4 k
            generalize L4.length = n4 at hP4 ⊢
            clear c4 hcw
            obtain ⟨c4, f4⟩ := hA4.2 4 _ rfl
            have HX4 : Hid (QX (w4.setCell ⟨q, 4, none⟩ (.slice a4 n4 b4)) R q { Q with ps := L4 } vb (.slice a4 n4 b4) ∧ TK R w (w4.setCell ⟨q, 4, none⟩ (.slice a4 n4 b4))) := ⟨⟨hA4.set 4 _, hk4.set _ _, HX.out.ge, row_set hB4 hk4 (by decide) _ _, row_set hP4 hk4 (by decide) _ _⟩, HT3.out.trans (htk4.trans (TY.set hk4 (by decide) HX.out.ge _ _))⟩
            clear hA4 hB4 htk4 hk4 ht4 hin4 hok4
            go_wp2
            go_roundw
            case rel => exact ⟨i + 1, L4, _, by omega, by first | rfl | simp, HAI4.out, HX4.out.1, HX4.out.2⟩
            case measure => simp [RowKit.intOf]; omega
          · subst e1 e2
            have hoI : ¬ (offN Q r.1 : Int) < (offN Q r.2 : Int) := by omega
            go_wp2
            go_roundw
            case rel => exact HSK.out (fun k hk => hdd (by have := hk.2.2; omega))
            case measure => simp [RowKit.intOf]; omega
    · obtain rfl : i = rs.length := by omega
      have hltI : ¬ (rs.length : Int) < (rs.length : Int) := by omega
      rw [List.take_length] at hAI
      have HAI : Hid (AI Q rs L) := hAI
      have HTk : Hid (TK R w wr) := hT
      have HXL : Hid (QX wr R q { Q with ps := L } vb vp') := hX
      have hP := hX.po
      dsimp only at hP
      obtain ⟨a5, c5, rfl, h50, h5c, -⟩ := hP.shape
      have c4 := (hX.at5.2 4 _ rfl).1
      have hll : L.length ≤ 65536 := by have := psOk_len hAI.1; omega
      obtain ⟨wq, hwq⟩ : ∃ x, x = wr := ⟨_, rfl⟩
      have HP : Hid (PO wq R (.slice a5 L.length c5) L) := by rw [hwq]; exact hP
      rw [← hwq] at HTk HXL
      clear HI hAI hT hX hP h50
      go_wp2
      go_loopw [11, 60] (fun s11 s60 W => ∃ i : Nat, i ≤ L.length ∧ s60 = .int .i64 (i : Int) ∧ s11 = .int .i64 (sumP (L.take i) : Int) ∧ Hid (Below wq.heap.size wq W)) (fun _ s60 _ => L.length - (RowKit.intOf s60).toNat)
      case atStart => exact ⟨0, Nat.zero_le _, rfl, by simp [sumP], by rw [hwq]; exact Below.refl _ _⟩
      case round =>
        clear hwq c4
        obtain ⟨i, hin, rfl, rfl, HBB⟩ := hrel
        have hsi := sumP_le (psOk_take HAI.out.1 i)
        by_cases hlt : i < L.length
        · obtain ⟨e, he⟩ : ∃ e, L[i]? = some e := ⟨_, List.getElem?_eq_getElem hlt⟩
          have hrl := row_later HP.out HBB.out
          obtain ⟨g, c', cur, hv, -, hbk, -⟩ := PO.real hrl (fun e => by rw [e] at hlt; cases hlt)
          injection hv with e1 e2 e3
          subst e1 e3
          obtain ⟨r0, r1⟩ := PO.cell hrl he
          have hltI2 : (i : Int) < (L.length : Int) := by omega
          have hee := HAI.out.1.2 e (List.mem_of_getElem? he)
          have HS : Hid ((sumP (L.take i) : Int) + ((e.2 : Int) - (e.1 : Int)) = (sumP (L.take (i + 1)) : Int)) := by
            show _ = _
            rw [take_snoc he, sumP_snoc]
            omega
          have hsI : (sumP (L.take i) : Int) ≤ 65536 := by omega
          have hb5 := bel1 wr (.cells #[.int .i64 (e.1 : Int), .int .i64 (e.2 : Int)] 58)
          have HB5 : Hid (Below wq.heap.size wq (wr.alloc (.cells #[.int .i64 (e.1 : Int), .int .i64 (e.2 : Int)] 58))) := bt HBB.out hb5
          have hea : (e.1 : Int) ≤ 65536 := by omega
          have heb : (e.2 : Int) ≤ 65536 := by omega
          generalize sumP (L.take i) = sm at *
          clear hrl hbk he hb5
          go_wp2
          go_roundw
          case rel => exact ⟨i + 1, by omega, by first | rfl | simp, by rw [← HS.out], HB5⟩
          case measure => simp [RowKit.intOf]; omega
        · obtain rfl : i = L.length := by omega
          have hltI2 : ¬ (L.length : Int) < (L.length : Int) := by omega
          go_wp2
          go_ret
          exact ⟨L, by first | rfl | (rw [List.take_length]) | simp, HAI.out, ⟨_, HXL.out.later HBB.out⟩, HTk.out.later HBB.out⟩
end Go.Proofs.Ytkclookpdngkoaa.S
