/- gather, endLine, New, Over. -/
import Derived.Test.YtadmpdeegnppjaaGreatDoorAj
namespace Go.Proofs.YtadmpdeegnppjaaGreatDoor
open Go.RowKit Go.Maps Go.Shelf Go.Lib
set_option maxRecDepth 100000
set_option linter.unusedVariables false
set_option linter.unusedSimpArgs false


theorem B_take (p : By) (n : Nat) : (B p).extract 0 n = B (p.take n) := by
  unfold B
  rw [ByteArray.extract_mk]
  simp
theorem withV_gr {A : Bk} {n : Nat} {x : Value} (h : ∀ k, x.ownBlock = some k → A k ∨ n ≤ k) : Gr n A (fun k => A k ∨ x.ownBlock = some k) := fun k hk => hk.elim Or.inl (h k)
section
variable {w : World} {A : Bk} {b M : Nat} {v : Value} {s : St}
/-- Behind the append: the line's cell is stored. -/
theorem gath_fin (h : SY w A b M v s) (hE : Env w) (lg : Bool) {w1 w2 : World} {v' : Value} {p : By} (hA1 : At w1 b #[.map (some M), v, .bool lg, .bool s.over]) (t1 : Turn (fun k => k = b) w w1) (hbo : BO w2 0 v' (s.line ++ p)) (hg : w1.grownBy w2 v.ownBlock) (hown : v'.ownBlock = v.ownBlock ∨ v'.ownBlock = some w1.heap.size) :
    ∃ A', SY (w2.setCell ⟨b, 1, none⟩ v') A' b M v' ⟨s.m, s.line ++ p, lg, s.over⟩ ∧ Turn A w (w2.setCell ⟨b, 1, none⟩ v') ∧ Gr w.heap.size A A' := by
  have hs1 := t1.size
  have t2 : Turn (fun j => v.ownBlock = some j) w1 w2 := Turn.of_grown hg (fun j hj => Or.inl hj)
  have hs2 := t2.size
  have hbl := hA1.1
  have hMl := h.vm.lt
  have hvo : ∀ k, v.ownBlock = some k → A k ∧ k ≠ b ∧ k ≠ M := h.inv
  have hnew : ∀ k, v'.ownBlock = some k → k ≠ b ∧ k ≠ M ∧ (A k ∨ w.heap.size ≤ k) ∧ k < w2.heap.size := fun k hk => by
    have hlt := hbo.lt hk
    rcases hown with e | e
    · rw [e] at hk
      have := hvo k hk
      exact ⟨this.2.1, this.2.2, Or.inl this.1, hlt⟩
    · rw [e] at hk
      injection hk with hk
      exact ⟨by omega, by omega, Or.inr (by omega), hlt⟩
  have t3 := turn_set w2 b 1 v'
  refine ⟨fun k => A k ∨ v'.ownBlock = some k, ⟨?_, ?_, ?_, Or.inl h.inb, Or.inl h.inM, fun k hk => ⟨Or.inr hk, (hnew k hk).1, (hnew k hk).2.1⟩, h.ne, ?_, ?_⟩, ?_, withV_gr (fun k hk => (hnew k hk).2.2.1)⟩
  · exact (hA1.turn t2 (fun e => (hvo b e).2.1 rfl)).set 1 v'
  · exact ((h.vm.turn t1 (fun e => h.ne e.symm)).turn t2 (fun e => (hvo M e).2.2 rfl)).turn t3 (fun e => h.ne e.symm)
  · exact hbo.turn t3 (fun k hk e => (hnew k hk).1 e)
  · intro k hk
    rw [World.size_setCell]
    rcases hk with hk | hk
    · have := h.lw k hk; omega
    · exact (hnew k hk).2.2.2
  · intro k hk
    rcases hk with hk | hk
    · exact h.lo k hk
    · rcases (hnew k hk).2.2.1 with e | e
      · exact h.lo k e
      · have := hE.big; omega
  · exact ((t1.mono (fun k hk => by rw [hk]; exact h.inb)).trans (t2.mono (fun k hk => (hvo k hk).1))).trans (t3.mono (fun k hk => by rw [hk]; exact h.inb))
set_option maxHeartbeats 2000000 in
theorem gather_any (h : SY w A b M v s) (hE : Env w) (hl : s.line.length ≤ 256) (p : By) (hp : p.length ≤ 1000000) :
    Calls Tryz.prog 20 #[PB b, .string (B p)] w fun e w' => e = .returned (.tuple #[]) ∧ ∃ A' v', SY w' A' b M v' (gath s p) ∧ Turn A w w' ∧ Gr w.heap.size A A' := by
  obtain ⟨hlt, ⟨c0, c1, c2, c3⟩, ⟨f0, f1, f2, f3⟩⟩ := h.at_.four
  obtain ⟨a, cap, hv, -, -, -⟩ := h.bo.shape
  have hsz : (B p).size = p.length := B_size p
  have hln : (0 : Int) ≤ (s.line.length : Int) ∧ (s.line.length : Int) ≤ 256 := by omega
  obtain ⟨hln0, hln1⟩ := hln
  by_cases hc : 256 - s.line.length < p.length
  · have t1 := turn_set w b 2 (.bool true)
    have hA1 : At (w.setCell ⟨b, 2, none⟩ (.bool true)) b #[.map (some M), v, .bool true, .bool s.over] := h.at_.set 2 (.bool true)
    have hbo1 := h.bo.turn t1 (fun k hk e => (h.inv k hk).2.1 e)
    have hbk : (B (p.take (256 - s.line.length))).size = 256 - s.line.length := by rw [B_size, List.length_take]; omega
    obtain ⟨v', w2, hr, hbo, hg, hown⟩ := apps hbo1 (B (p.take (256 - s.line.length))) (by rw [hbk]; omega) 41
    rw [B_list] at hbo
    obtain ⟨A', r1, r2, r3⟩ := gath_fin h hE true hA1 t1 hbo hg hown
    have hst : gath s p = ⟨s.m, s.line ++ p.take (256 - s.line.length), true, s.over⟩ := by
      unfold gath; rw [decide_eq_true hc]; simp
    rw [hst]
    have HF : Hid (∃ A' v2, SY (w2.setCell ⟨b, 1, none⟩ v') A' b M v2 ⟨s.m, s.line ++ p.take (256 - s.line.length), true, s.over⟩ ∧ Turn A w (w2.setCell ⟨b, 1, none⟩ v') ∧ Gr w.heap.size A A') := (⟨A', v', r1, r2, r3⟩ : ∃ A' v2, _)
    obtain ⟨a', n', k', hv'⟩ : ∃ a n k, v' = .slice a n k := by obtain ⟨a, k, e, -⟩ := hbo.shape; exact ⟨a, _, k, e⟩
    have hbl : b < w2.heap.size := by have := hA1.1; have := hg.size; omega
    have hA2 := (hA1.turn (Turn.of_grown (S := fun j => v.ownBlock = some j) hg (fun j hj => Or.inl hj)) (fun e => (h.inv b e).2.1 rfl))
    obtain ⟨-, ⟨-, d1, -, -⟩, ⟨-, g1, -, -⟩⟩ := hA2.four
    subst hv'
    have hgt : (256 - (s.line.length : Int)) < ((B p).size : Int) := by rw [hsz]; omega
    have HX : Hid ((B p).extract 0 (256 - s.line.length) = B (p.take (256 - s.line.length))) := B_take p _
    have hle : (0 : Int) ≤ 256 - (s.line.length : Int) := by omega
    have hle2 : (256 - (s.line.length : Int)) ≤ ((B p).size : Int) := by omega
    subst hv
    clear h hE hbo1 hbo hg hown r1 r2 r3 hst hA1 hA2 t1 hc hbk
    go_enter Tryz.func20, Tryz.ntmps20
    go_upto_region 4 with fail
    go_wp2_with (at_builtin; rw [HX.out]; refine wpList_appE rfl _ _ rfl rfl rfl hr ?_)
    go_wp2
    go_end0
    exact ⟨rfl, HF.out⟩
  · obtain ⟨v', w2, hr, hbo, hg, hown⟩ := apps h.bo (B p) (by rw [hsz]; omega) 41
    rw [B_list] at hbo
    obtain ⟨A', r1, r2, r3⟩ := gath_fin h hE s.long h.at_ (Turn.refl w) hbo hg hown
    have hst : gath s p = ⟨s.m, s.line ++ p, s.long, s.over⟩ := by
      unfold gath; rw [decide_eq_false hc, List.take_of_length_le (by omega)]; simp
    rw [hst]
    have HF : Hid (∃ A' v2, SY (w2.setCell ⟨b, 1, none⟩ v') A' b M v2 ⟨s.m, s.line ++ p, s.long, s.over⟩ ∧ Turn A w (w2.setCell ⟨b, 1, none⟩ v') ∧ Gr w.heap.size A A') := (⟨A', v', r1, r2, r3⟩ : ∃ A' v2, _)
    obtain ⟨a', n', k', hv'⟩ : ∃ a n k, v' = .slice a n k := by obtain ⟨a, k, e, -⟩ := hbo.shape; exact ⟨a, _, k, e⟩
    have hbl : b < w2.heap.size := by have := hg.size; omega
    have hA2 := (h.at_.turn (Turn.of_grown (S := fun j => v.ownBlock = some j) hg (fun j hj => Or.inl hj)) (fun e => (h.inv b e).2.1 rfl))
    obtain ⟨-, ⟨-, d1, -, -⟩, ⟨-, g1, -, -⟩⟩ := hA2.four
    subst hv'
    have hgt : ¬ (256 - (s.line.length : Int)) < ((B p).size : Int) := by rw [hsz]; omega
    subst hv
    clear h hE hbo hg hown r1 r2 r3 hst hA2 hc
    go_enter Tryz.func20, Tryz.ntmps20
    go_upto_region 4 with fail
    go_wp2_with (at_builtin; refine wpList_appE rfl _ _ rfl rfl rfl hr ?_)
    go_wp2
    go_end0
    obtain ⟨A', v2, h1, h2, h3⟩ := HF.out
    first | exact ⟨rfl, A', v2, h1, h2, h3⟩ | exact ⟨rfl, A', ⟨v2, h1⟩, h2, h3⟩
theorem over_any (h : SY w A b M v s) : Calls Tryz.prog 11 #[PB b] w fun e w' => e = .returned (.bool s.over) ∧ w' = w := by
  obtain ⟨hlt, ⟨c0, c1, c2, c3⟩, -⟩ := h.at_.four
  clear h
  go_enter Tryz.func11, Tryz.ntmps11
  go_wp2
  go_ret
  exact ⟨rfl, rfl⟩
theorem new_any (hE : Env w) : Calls Tryz.prog 5 #[] w fun e w' => ∃ b A, e = .returned (PB b) ∧ SX w' A b st0 ∧ Below w.heap.size w w' ∧ ∀ k, A k → w.heap.size ≤ k := by
  have hbg := hE.big
  have hfin : ∃ A, SX ((w.alloc (.map #[] 0)).alloc (.cells #[.map (some w.heap.size), .slice none 0 0, .bool false, .bool false] 43)) A (w.heap.size + 1) st0 ∧ ∀ k, A k → w.heap.size ≤ k := by
    refine ⟨fun k => k = w.heap.size ∨ k = w.heap.size + 1, ⟨w.heap.size, .slice none 0 0, ⟨At.box2 w _ _ _, (VS.made w).later (bel1 _ _), BO.nil _ _, Or.inr rfl, Or.inl rfl, (fun k hk => by cases hk), by omega, ?_, ?_⟩⟩, ?_⟩
    · intro k hk
      rw [World.size_alloc, World.size_alloc]
      omega
    · intro k hk
      omega
    · intro k hk
      omega
  have HF : Hid _ := hfin
  have hb2 : Below w.heap.size w ((w.alloc (.map #[] 0)).alloc (.cells #[.map (some w.heap.size), .slice none 0 0, .bool false, .bool false] 43)) := bt (bel1 w _) (bel1 _ _)
  have HB : Hid _ := hb2
  clear hfin hE hbg hb2
  have hmm := @run_makeMap Tryz.prog
  go_enter Tryz.func5, Tryz.ntmps5
  go_wp2
  go_ret
  obtain ⟨A, h1, h2⟩ := HF.out
  exact ⟨_, A, rfl, h1, HB.out, h2⟩
set_option maxHeartbeats 2000000 in
theorem end_any (h : SY w A b M v s) (hE : Env w) (hO : Ok s) (ho : s.over = false) :
    Calls Tryz.prog 22 #[PB b] w fun e w' => e = .returned (.string (B (endF s).1)) ∧ ∃ v', SY w' A b M v' (endF s).2 ∧ Turn A w w' := by
  obtain ⟨hlt, ⟨c0, c1, c2, c3⟩, ⟨f0, f1, f2, f3⟩⟩ := h.at_.four
  have hcv : (convert 41 9 v).run Tryz.prog w.drew = .ok (.string (B s.line)) w.drew := (h.bo.later (w' := w.drew) ⟨rfl, rfl, rfl, Nat.le_refl _, fun _ _ => rfl⟩).text
  obtain ⟨v', hsl, hbo', hown⟩ := h.bo.cut0
  have hfin : SY ((w.drew.setCell ⟨b, 1, none⟩ v').setCell ⟨b, 2, none⟩ (.bool false)) A b M v' ⟨s.m, [], false, s.over⟩ ∧ Turn A w ((w.drew.setCell ⟨b, 1, none⟩ v').setCell ⟨b, 2, none⟩ (.bool false)) := by
    have hd : Below w.heap.size w w.drew := ⟨rfl, rfl, rfl, Nat.le_refl _, fun _ _ => rfl⟩
    have hY := h.later hd
    have t1 := turn_set w.drew b 1 v'
    have t2 := turn_set (w.drew.setCell ⟨b, 1, none⟩ v') b 2 (.bool false)
    have tt := t1.trans t2
    refine ⟨⟨(hY.at_.set 1 v').set 2 (.bool false), hY.vm.turn tt (fun e => hY.ne e.symm), ?_, hY.inb, hY.inM, (fun k hk => hY.inv k (by rw [← hown]; exact hk)), hY.ne, hY.lw.size tt.size, hY.lo⟩, (Turn.of_below hd).trans (tt.mono (fun k hk => by rw [hk]; exact hY.inb))⟩
    exact ((hbo'.later hd).turn tt (fun k hk e => (hY.inv k (by rw [← hown]; exact hk)).2.1 e))
  have hE2 : Env ((w.drew.setCell ⟨b, 1, none⟩ v').setCell ⟨b, 2, none⟩ (.bool false)) := hE.turn hfin.2 h.lo
  obtain ⟨a, n, cap, hv⟩ : ∃ a n k, v = .slice a n k := by obtain ⟨a, k, e, -⟩ := h.bo.shape; exact ⟨a, _, k, e⟩
  obtain ⟨a', n', cap', hv'⟩ : ∃ a n k, v' = .slice a n k := by obtain ⟨a, k, e, -⟩ := hbo'.shape; exact ⟨a, _, k, e⟩
  have HF : Hid _ := hfin
  have HE : Hid _ := hE2
  have HO := hO.toM
  have hll := hO.line
  have hO' : Hid (Ok s) := hO
  have ho' : Hid (s.over = false) := ho
  clear hfin hE2 hE h hbo' hown hO ho
  cases hlg : s.long with
  | true =>
    have he : endF s = (bBAD, ⟨s.m, [], false, s.over⟩) := if_pos hlg
    rw [he]
    rw [hlg] at c2
    clear he hlg
    subst hv hv'
    go_enter Tryz.func22, Tryz.ntmps22
    go_upto_region 1 with fail
    go_region
    all_goals
      go_wp2
      go_ret
      exact ⟨rfl, _, HF.out⟩
  | false =>
    have he : endF s = ((ansF s.m s.line).1, ⟨(ansF s.m s.line).2.1, [], false, (ansF s.m s.line).2.2⟩) := if_neg (by rw [hlg]; exact Bool.false_ne_true)
    rw [he]
    rw [hlg] at c2
    clear he hlg
    have hans := answer_any HF.out.1 HE.out HO ho'.out s.line hll
    simp only at hans
    subst hv hv'
    generalize hq : ansF s.m s.line = q at hans ⊢
    clear hq
    go_enter Tryz.func22, Tryz.ntmps22
    go_upto_region 1 with fail
    go_region
    all_goals
      go_wp2_with fail
      refine hans.mono ?_
      rintro e w5 ⟨rfl, h5, t5⟩
      go_wp2
      go_ret
      exact ⟨rfl, _, h5, HF.out.2.trans t5⟩
end
end Go.Proofs.YtadmpdeegnppjaaGreatDoor
