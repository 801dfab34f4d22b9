/- read in two words; answer, a way a command. -/
import Derived.Test.YtadmpdeegnppjaaGreatDoorAi
namespace Go.Proofs.YtadmpdeegnppjaaGreatDoor
open Go.RowKit Go.Maps Go.Shelf Go.Lib
set_option maxRecDepth 100000
set_option linter.unusedVariables false
set_option linter.unusedSimpArgs false


section
variable {w : World} {A : Bk} {b M : Nat} {v : Value} {s : St}
def ReadN (line : By) (w : World) : Prop := Calls Tryz.prog 44 #[.string (B line)] w fun e w' => (∃ x y z : ByteArray, e = .returned (.tuple #[.agg #[.string x, .string y, .string z], .bool false])) ∧ Below w.heap.size w w'
def ReadS (line vb k t : By) (w : World) : Prop := Calls Tryz.prog 44 #[.string (B line)] w fun e w' => e = .returned (.tuple #[.agg #[.string (B vb), .string (B k), .string (B t)], .bool true]) ∧ Below w.heap.size w w'
theorem read_n (hE : Env w) (line : By) (hl : line.length ≤ 1000000) (hr : readF line = none) : ReadN line w := by
  obtain ⟨p, r, m, hc⟩ : ∃ p r m, cutC 32 line = (p, r, m) := ⟨_, _, _, rfl⟩
  obtain ⟨n, t, m2, hc2⟩ : ∃ p q m, cutC 32 r = (p, q, m) := ⟨_, _, _, rfl⟩
  unfold readF at hr
  rw [hc] at hr
  simp only [hc2] at hr
  unfold ReadN
  have fin : ∀ (x y z : By) (q : Bool), q = false → Calls Tryz.prog 44 #[.string (B line)] w (fun e w' => e = .returned (.tuple #[.agg #[.string (B x), .string (B y), .string (B z)], .bool q]) ∧ Below w.heap.size w w') → Calls Tryz.prog 44 #[.string (B line)] w fun e w' => (∃ x y z : ByteArray, e = .returned (.tuple #[.agg #[.string x, .string y, .string z], .bool false])) ∧ Below w.heap.size w w' := by
    intro x y z q hq h
    subst hq
    exact h.mono (fun e w' h => ⟨⟨_, _, _, h.1⟩, h.2⟩)
  by_cases h0 : p = cPUT
  · rw [if_pos (Or.inl h0)] at hr
    cases m2 with
    | false => exact fin p n t _ rfl (read_g1f_put hE line p r m hc hl h0 n t hc2)
    | true => exact fin p n t _ (by cases hq : okName n <;> simp [hq] at hr ⊢) (read_g1t_put hE line p r m hc hl h0 n t hc2)
  by_cases h1 : p = cAPP
  · rw [if_pos (Or.inr (Or.inl h1))] at hr
    cases m2 with
    | false => exact fin p n t _ rfl (read_g1f_app hE line p r m hc hl h1 n t hc2)
    | true => exact fin p n t _ (by cases hq : okName n <;> simp [hq] at hr ⊢) (read_g1t_app hE line p r m hc hl h1 n t hc2)
  by_cases h2 : p = cADD
  · rw [if_pos (Or.inr (Or.inr h2))] at hr
    cases m2 with
    | false => exact fin p n t _ rfl (read_g1f_add hE line p r m hc hl h2 n t hc2)
    | true => exact fin p n t _ (by cases hq : okName n <;> simp [hq] at hr ⊢) (read_g1t_add hE line p r m hc hl h2 n t hc2)
  rw [if_neg (by simp only [h0, h1, h2, or_self, not_false_eq_true])] at hr
  by_cases h3 : p = cGET
  · rw [if_pos (Or.inl h3)] at hr
    exact fin p r [] _ (by cases hq : okName r <;> simp [hq] at hr ⊢) (read_g2_get hE line p r m hc hl h3)
  by_cases h4 : p = cDEL
  · rw [if_pos (Or.inr h4)] at hr
    exact fin p r [] _ (by cases hq : okName r <;> simp [hq] at hr ⊢) (read_g2_del hE line p r m hc hl h4)
  rw [if_neg (by simp only [h3, h4, or_self, not_false_eq_true])] at hr
  by_cases h5 : p = cLIST
  · rw [if_pos (Or.inl h5)] at hr
    exact fin p r [] _ (by cases m <;> simp at hr ⊢) (read_g3_list hE line p r m hc hl h5)
  by_cases h6 : p = cCOUNT
  · rw [if_pos (Or.inr (Or.inl h6))] at hr
    exact fin p r [] _ (by cases m <;> simp at hr ⊢) (read_g3_count hE line p r m hc hl h6)
  by_cases h7 : p = cQUIT
  · rw [if_pos (Or.inr (Or.inr h7))] at hr
    exact fin p r [] _ (by cases m <;> simp at hr ⊢) (read_g3_quit hE line p r m hc hl h7)
  exact fin p r [] _ rfl (read_g0 hE line p r m hc hl h0 h1 h2 h3 h4 h5 h6 h7)
theorem read_s (hE : Env w) (line vb k t : By) (hl : line.length ≤ 1000000) (hr : readF line = some (vb, k, t)) : ReadS line vb k t w := by
  obtain ⟨p, r, m, hc⟩ : ∃ p r m, cutC 32 line = (p, r, m) := ⟨_, _, _, rfl⟩
  obtain ⟨n, t', m2, hc2⟩ : ∃ p q m, cutC 32 r = (p, q, m) := ⟨_, _, _, rfl⟩
  unfold readF at hr
  have hr0 : m = false → r = [] := fun e => by have := cut_none 32 line; rw [hc] at this; exact (this e).2.1
  rw [hc] at hr
  simp only [hc2] at hr
  unfold ReadS
  have fin : ∀ (x y z : By) (q : Bool), q = true → x = vb → y = k → z = t → Calls Tryz.prog 44 #[.string (B line)] w (fun e w' => e = .returned (.tuple #[.agg #[.string (B x), .string (B y), .string (B z)], .bool q]) ∧ Below w.heap.size w w') → Calls Tryz.prog 44 #[.string (B line)] w fun e w' => e = .returned (.tuple #[.agg #[.string (B vb), .string (B k), .string (B t)], .bool true]) ∧ Below w.heap.size w w' := by
    intro x y z q hq e1 e2 e3 h
    subst hq e1 e2 e3
    exact h
  have g1 : (m2 = true ∧ okName n = true) → some (p, n, t') = some (vb, k, t) → m2 = true ∧ okName n = true ∧ p = vb ∧ n = k ∧ t' = t := fun h e => by
    simp only [Option.some.injEq, Prod.mk.injEq] at e
    exact ⟨h.1, h.2, e.1, e.2.1, e.2.2⟩
  by_cases h0 : p = cPUT
  · rw [if_pos (Or.inl h0)] at hr
    split at hr
    · rename_i hq
      obtain ⟨rfl, k1, k2, k3, k4⟩ := g1 hq hr
      exact fin p n t' _ k1 k2 k3 k4 (read_g1t_put hE line p r m hc hl h0 n t' hc2)
    · cases hr
  by_cases h1 : p = cAPP
  · rw [if_pos (Or.inr (Or.inl h1))] at hr
    split at hr
    · rename_i hq
      obtain ⟨rfl, k1, k2, k3, k4⟩ := g1 hq hr
      exact fin p n t' _ k1 k2 k3 k4 (read_g1t_app hE line p r m hc hl h1 n t' hc2)
    · cases hr
  by_cases h2 : p = cADD
  · rw [if_pos (Or.inr (Or.inr h2))] at hr
    split at hr
    · rename_i hq
      obtain ⟨rfl, k1, k2, k3, k4⟩ := g1 hq hr
      exact fin p n t' _ k1 k2 k3 k4 (read_g1t_add hE line p r m hc hl h2 n t' hc2)
    · cases hr
  rw [if_neg (by simp only [h0, h1, h2, or_self, not_false_eq_true])] at hr
  by_cases h3 : p = cGET
  · rw [if_pos (Or.inl h3)] at hr
    split at hr
    · rename_i hq
      simp only [Option.some.injEq, Prod.mk.injEq] at hr
      exact fin p r [] _ hq hr.1 hr.2.1 hr.2.2 (read_g2_get hE line p r m hc hl h3)
    · cases hr
  by_cases h4 : p = cDEL
  · rw [if_pos (Or.inr h4)] at hr
    split at hr
    · rename_i hq
      simp only [Option.some.injEq, Prod.mk.injEq] at hr
      exact fin p r [] _ hq hr.1 hr.2.1 hr.2.2 (read_g2_del hE line p r m hc hl h4)
    · cases hr
  rw [if_neg (by simp only [h3, h4, or_self, not_false_eq_true])] at hr
  by_cases h5 : p = cLIST
  · rw [if_pos (Or.inl h5)] at hr
    cases m with
    | true => simp at hr
    | false =>
      simp only [Bool.false_eq_true, if_false, Option.some.injEq, Prod.mk.injEq] at hr
      exact fin p r [] _ rfl hr.1 ((hr0 rfl).trans hr.2.1) hr.2.2 (read_g3_list hE line p r false hc hl h5)
  by_cases h6 : p = cCOUNT
  · rw [if_pos (Or.inr (Or.inl h6))] at hr
    cases m with
    | true => simp at hr
    | false =>
      simp only [Bool.false_eq_true, if_false, Option.some.injEq, Prod.mk.injEq] at hr
      exact fin p r [] _ rfl hr.1 ((hr0 rfl).trans hr.2.1) hr.2.2 (read_g3_count hE line p r false hc hl h6)
  by_cases h7 : p = cQUIT
  · rw [if_pos (Or.inr (Or.inr h7))] at hr
    cases m with
    | true => simp at hr
    | false =>
      simp only [Bool.false_eq_true, if_false, Option.some.injEq, Prod.mk.injEq] at hr
      exact fin p r [] _ rfl hr.1 ((hr0 rfl).trans hr.2.1) hr.2.2 (read_g3_quit hE line p r false hc hl h7)
  rw [if_neg (by simp only [h5, h6, h7, or_self, not_false_eq_true])] at hr
  cases hr
set_option maxHeartbeats 2000000 in
theorem ans_put (h : SY w A b M v s) (hE : Env w) (hO : OkM s.m) (line vb k t : By) (hrd : ReadS line vb k t w) (hv : vb = cPUT) (hk : k.length ≤ 32) (ht : t.length ≤ 1000000) :
    Calls Tryz.prog 31 #[PB b, .string (B line)] w fun e w' => e = .returned (.string (B ((keepF s.m k t bOK).1))) ∧ SY w' A b M v ⟨(keepF s.m k t bOK).2, s.line, s.long, s.over⟩ ∧ Turn A w w' := by
  have e0 : ((B vb).toList == cPUT) = true := B_q hv
  clear hv
  unfold ReadS at hrd
  have HF : Hid (SY w A b M v s) := h
  have HE : Hid (Env w) := hE
  have HO : Hid (OkM s.m) := hO
  clear h hE hO
  go_enter Tryz.func31, Tryz.ntmps31
  go_wp2_with fail
  refine hrd.mono ?_
  rintro e w1 ⟨rfl, hb1⟩
  clear hrd
  have hq : ∀ o, Below w.heap.size w (w1.alloc o) := fun o => bt hb1 (bel1 w1 o)
  have HQ : Hid _ := hq
  go_wp2_with fail
  refine (keep_any (HF.out.later (HQ.out _)) HO.out k t bOK hk).mono ?_
  rintro e w2 ⟨rfl, h2, t2⟩
  go_wp2
  go_ret
  exact ⟨rfl, h2, (Turn.of_below (HQ.out _)).trans t2⟩
set_option maxHeartbeats 2000000 in
theorem ans_del (h : SY w A b M v s) (hE : Env w) (hO : OkM s.m) (line vb k t : By) (hrd : ReadS line vb k t w) (hv : vb = cDEL) (hk : k.length ≤ 32) (ht : t.length ≤ 1000000) :
    Calls Tryz.prog 31 #[PB b, .string (B line)] w fun e w' => e = .returned (.string (B ((dropF s.m k).1))) ∧ SY w' A b M v ⟨(dropF s.m k).2, s.line, s.long, s.over⟩ ∧ Turn A w w' := by
  have e0 : ((B vb).toList == cPUT) = false := B_nq (by subst hv; decide)
  have e1 : ((B vb).toList == cGET) = false := B_nq (by subst hv; decide)
  have e2 : ((B vb).toList == cDEL) = true := B_q hv
  clear hv
  unfold ReadS at hrd
  have HF : Hid (SY w A b M v s) := h
  have HE : Hid (Env w) := hE
  have HO : Hid (OkM s.m) := hO
  clear h hE hO
  go_enter Tryz.func31, Tryz.ntmps31
  go_wp2_with fail
  refine hrd.mono ?_
  rintro e w1 ⟨rfl, hb1⟩
  clear hrd
  have hq : ∀ o, Below w.heap.size w (w1.alloc o) := fun o => bt hb1 (bel1 w1 o)
  have HQ : Hid _ := hq
  go_wp2_with fail
  refine (drop_any (HF.out.later (HQ.out _)) HO.out k hk).mono ?_
  rintro e w2 ⟨rfl, h2, t2⟩
  go_wp2
  go_ret
  exact ⟨rfl, h2, (Turn.of_below (HQ.out _)).trans t2⟩
set_option maxHeartbeats 2000000 in
theorem ans_add (h : SY w A b M v s) (hE : Env w) (hO : OkM s.m) (line vb k t : By) (hrd : ReadS line vb k t w) (hv : vb = cADD) (hk : k.length ≤ 32) (ht : t.length ≤ 1000000) :
    Calls Tryz.prog 31 #[PB b, .string (B line)] w fun e w' => e = .returned (.string (B ((addF s.m k t).1))) ∧ SY w' A b M v ⟨(addF s.m k t).2, s.line, s.long, s.over⟩ ∧ Turn A w w' := by
  have e0 : ((B vb).toList == cPUT) = false := B_nq (by subst hv; decide)
  have e1 : ((B vb).toList == cGET) = false := B_nq (by subst hv; decide)
  have e2 : ((B vb).toList == cDEL) = false := B_nq (by subst hv; decide)
  have e3 : ((B vb).toList == cLIST) = false := B_nq (by subst hv; decide)
  have e4 : ((B vb).toList == cCOUNT) = false := B_nq (by subst hv; decide)
  have e5 : ((B vb).toList == cADD) = true := B_q hv
  clear hv
  unfold ReadS at hrd
  have HF : Hid (SY w A b M v s) := h
  have HE : Hid (Env w) := hE
  have HO : Hid (OkM s.m) := hO
  clear h hE hO
  go_enter Tryz.func31, Tryz.ntmps31
  go_wp2_with fail
  refine hrd.mono ?_
  rintro e w1 ⟨rfl, hb1⟩
  clear hrd
  have hq : ∀ o, Below w.heap.size w (w1.alloc o) := fun o => bt hb1 (bel1 w1 o)
  have HQ : Hid _ := hq
  go_wp2_with fail
  refine (add_any (HF.out.later (HQ.out _)) (HE.out.later (HQ.out _)) HO.out k t hk ht).mono ?_
  rintro e w2 ⟨rfl, h2, t2⟩
  go_wp2
  go_ret
  exact ⟨rfl, h2, (Turn.of_below (HQ.out _)).trans t2⟩
set_option maxHeartbeats 2000000 in
theorem ans_app (h : SY w A b M v s) (hE : Env w) (hO : OkM s.m) (line vb k t : By) (hrd : ReadS line vb k t w) (hv : vb = cAPP) (hk : k.length ≤ 32) (ht : t.length ≤ 1000000) :
    Calls Tryz.prog 31 #[PB b, .string (B line)] w fun e w' => e = .returned (.string (B ((growF s.m k t).1))) ∧ SY w' A b M v ⟨(growF s.m k t).2, s.line, s.long, s.over⟩ ∧ Turn A w w' := by
  have e0 : ((B vb).toList == cPUT) = false := B_nq (by subst hv; decide)
  have e1 : ((B vb).toList == cGET) = false := B_nq (by subst hv; decide)
  have e2 : ((B vb).toList == cDEL) = false := B_nq (by subst hv; decide)
  have e3 : ((B vb).toList == cLIST) = false := B_nq (by subst hv; decide)
  have e4 : ((B vb).toList == cCOUNT) = false := B_nq (by subst hv; decide)
  have e5 : ((B vb).toList == cADD) = false := B_nq (by subst hv; decide)
  have e6 : ((B vb).toList == cAPP) = true := B_q hv
  clear hv
  unfold ReadS at hrd
  have HF : Hid (SY w A b M v s) := h
  have HE : Hid (Env w) := hE
  have HO : Hid (OkM s.m) := hO
  clear h hE hO
  go_enter Tryz.func31, Tryz.ntmps31
  go_wp2_with fail
  refine hrd.mono ?_
  rintro e w1 ⟨rfl, hb1⟩
  clear hrd
  have hq : ∀ o, Below w.heap.size w (w1.alloc o) := fun o => bt hb1 (bel1 w1 o)
  have HQ : Hid _ := hq
  go_wp2_with fail
  refine (grow_any (HF.out.later (HQ.out _)) (HE.out.later (HQ.out _)) HO.out k t hk ht).mono ?_
  rintro e w2 ⟨rfl, h2, t2⟩
  go_wp2
  go_ret
  exact ⟨rfl, h2, (Turn.of_below (HQ.out _)).trans t2⟩
set_option maxHeartbeats 2000000 in
theorem ans_get (h : SY w A b M v s) (hE : Env w) (hO : OkM s.m) (line vb k t : By) (hrd : ReadS line vb k t w) (hv : vb = cGET) (hk : k.length ≤ 32) (ht : t.length ≤ 1000000) :
    Calls Tryz.prog 31 #[PB b, .string (B line)] w fun e w' => e = .returned (.string (B (getF s.m k))) ∧ SY w' A b M v ⟨s.m, s.line, s.long, s.over⟩ ∧ Turn A w w' := by
  have e0 : ((B vb).toList == cPUT) = false := B_nq (by subst hv; decide)
  have e1 : ((B vb).toList == cGET) = true := B_q hv
  clear hv
  unfold ReadS at hrd
  have HF : Hid (SY w A b M v s) := h
  have HE : Hid (Env w) := hE
  have HO : Hid (OkM s.m) := hO
  clear h hE hO
  go_enter Tryz.func31, Tryz.ntmps31
  go_wp2_with fail
  refine hrd.mono ?_
  rintro e w1 ⟨rfl, hb1⟩
  clear hrd
  have hq : ∀ o, Below w.heap.size w (w1.alloc o) := fun o => bt hb1 (bel1 w1 o)
  have HQ : Hid _ := hq
  go_wp2_with fail
  refine (get_any (HF.out.later (HQ.out _)) HO.out k hk).mono ?_
  rintro e w2 ⟨rfl, hb2⟩
  go_wp2
  go_ret
  exact ⟨rfl, HF.out.later (bt (HQ.out _) hb2), Turn.of_below (bt (HQ.out _) hb2)⟩
set_option maxHeartbeats 2000000 in
theorem ans_count (h : SY w A b M v s) (hE : Env w) (hO : OkM s.m) (line vb k t : By) (hrd : ReadS line vb k t w) (hv : vb = cCOUNT) (hk : k.length ≤ 32) (ht : t.length ≤ 1000000) :
    Calls Tryz.prog 31 #[PB b, .string (B line)] w fun e w' => e = .returned (.string (B (bCOUNT ++ Go.Lib.itoa (s.m.length : Int)))) ∧ SY w' A b M v ⟨s.m, s.line, s.long, s.over⟩ ∧ Turn A w w' := by
  have e0 : ((B vb).toList == cPUT) = false := B_nq (by subst hv; decide)
  have e1 : ((B vb).toList == cGET) = false := B_nq (by subst hv; decide)
  have e2 : ((B vb).toList == cDEL) = false := B_nq (by subst hv; decide)
  have e3 : ((B vb).toList == cLIST) = false := B_nq (by subst hv; decide)
  have e4 : ((B vb).toList == cCOUNT) = true := B_q hv
  clear hv
  unfold ReadS at hrd
  have HF : Hid (SY w A b M v s) := h
  have HE : Hid (Env w) := hE
  have HO : Hid (OkM s.m) := hO
  clear h hE hO
  go_enter Tryz.func31, Tryz.ntmps31
  go_wp2_with fail
  refine hrd.mono ?_
  rintro e w1 ⟨rfl, hb1⟩
  clear hrd
  have hq : ∀ o, Below w.heap.size w (w1.alloc o) := fun o => bt hb1 (bel1 w1 o)
  have HQ : Hid _ := hq
  have hlen : ∀ o, (Builtin.len_ #[40] 3 #[.map (some M)]).run Tryz.prog (w1.alloc o) = .ok (.int .i64 s.m.length) (w1.alloc o) := fun o => (HF.out.vm.later (HQ.out o)).len Tryz.underlying40 3
  obtain ⟨hlt, ⟨c0, -, -, -⟩, -⟩ := (HF.out.later hb1).at_.four
  have hn := HO.out.size
  go_wp2_with fail
  refine (counted_any (HE.out.later (HQ.out _)) (s.m.length : Int) (by omega) (by omega)).mono ?_
  rintro e w2 ⟨rfl, hb2⟩
  go_wp2
  go_ret
  exact ⟨rfl, HF.out.later (bt (HQ.out _) hb2), Turn.of_below (bt (HQ.out _) hb2)⟩
set_option maxHeartbeats 2000000 in
theorem ans_list (h : SY w A b M v s) (hE : Env w) (hO : OkM s.m) (line vb k t : By) (hrd : ReadS line vb k t w) (hv : vb = cLIST) (hk : k.length ≤ 32) (ht : t.length ≤ 1000000) :
    Calls Tryz.prog 31 #[PB b, .string (B line)] w fun e w' => e = .returned (.string (B (listF s.m))) ∧ SY w' A b M v ⟨s.m, s.line, s.long, s.over⟩ ∧ Turn A w w' := by
  have e0 : ((B vb).toList == cPUT) = false := B_nq (by subst hv; decide)
  have e1 : ((B vb).toList == cGET) = false := B_nq (by subst hv; decide)
  have e2 : ((B vb).toList == cDEL) = false := B_nq (by subst hv; decide)
  have e3 : ((B vb).toList == cLIST) = true := B_q hv
  clear hv
  unfold ReadS at hrd
  have HF : Hid (SY w A b M v s) := h
  have HE : Hid (Env w) := hE
  have HO : Hid (OkM s.m) := hO
  clear h hE hO
  go_enter Tryz.func31, Tryz.ntmps31
  go_wp2_with fail
  refine hrd.mono ?_
  rintro e w1 ⟨rfl, hb1⟩
  clear hrd
  have hq : ∀ o, Below w.heap.size w (w1.alloc o) := fun o => bt hb1 (bel1 w1 o)
  have HQ : Hid _ := hq
  have hq2 : ∀ o o', Below w.heap.size w ((w1.alloc o).alloc o') := fun o o' => bt (HQ.out o) (bel1 _ o')
  have HQ2 : Hid _ := hq2
  clear hq2
  have hlz := list_len HO.out
  have hkn := HO.out.size
  have hso : ∀ o, SO ((w1.alloc o).alloc (.cells #[.string (B cLIST)] 9)) 0 (.slice (some ⟨w1.heap.size + 1, 0, none⟩) 1 1) [cLIST] := fun o => by
    have := World.ownsRow_lit (w1.alloc o) (base := 0) (e := 9) (size := 1) #[.string (B cLIST)] 1 (Nat.zero_le _) (by unfold maxLen; omega) rfl
    rw [World.size_alloc] at this
    exact this
  have HSO : Hid _ := hso
  clear hso
  go_wp2_with fail
  refine (names_any (HF.out.later (HQ2.out _ _)) HO.out).mono ?_
  rintro e w2 ⟨y, rfl, hy, hb2⟩
  obtain ⟨v', w3, hr3, hso3, hg3, hown3⟩ := apps_str ((HSO.out _).later hb2) (hy.low (Nat.zero_le _)) (by simp; omega) 22
  have hb3 := bt (HQ2.out _ _) hb2
  have hw3 : Below w.heap.size w w3 := hb3.trans ((Turn.of_grown (S := fun j => j = w1.heap.size + 1) hg3 (fun j hj => Or.inl (by injection hj with hj; exact hj.symm))).below hb3.size (fun k hk e => by have := hb1.size; omega))
  have HJ : Hid _ := And.intro hso3 hw3
  clear hso3 hw3 hg3 hown3 hb3
  go_wp2_with (at_builtin; refine wpList_appE rfl _ _ rfl rfl rfl hr3 ?_)
  go_wp2_with fail
  have hj := join_call HJ.out.1 (by rw [show ([cLIST] ++ List.map (fun x => x.fst) s.m) = cLIST :: s.m.map (·.1) from rfl, join_list]; omega) (by simp; omega)
  rw [show ([cLIST] ++ List.map (fun x => x.fst) s.m) = cLIST :: s.m.map (·.1) from rfl, join_list] at hj
  refine hj.mono ?_
  rintro e w4 ⟨rfl, hb4⟩
  go_wp2
  go_ret
  exact ⟨rfl, HF.out.later (HJ.out.2.trans (hb4.mono HJ.out.2.size)), Turn.of_below (HJ.out.2.trans (hb4.mono HJ.out.2.size))⟩
set_option maxHeartbeats 2000000 in
theorem ans_quit (h : SY w A b M v s) (hE : Env w) (hO : OkM s.m) (line vb k t : By) (hrd : ReadS line vb k t w) (hv : vb = cQUIT) (hk : k.length ≤ 32) (ht : t.length ≤ 1000000) :
    Calls Tryz.prog 31 #[PB b, .string (B line)] w fun e w' => e = .returned (.string (B bBYE)) ∧ SY w' A b M v ⟨s.m, s.line, s.long, true⟩ ∧ Turn A w w' := by
  have e0 : ((B vb).toList == cPUT) = false := B_nq (by subst hv; decide)
  have e1 : ((B vb).toList == cGET) = false := B_nq (by subst hv; decide)
  have e2 : ((B vb).toList == cDEL) = false := B_nq (by subst hv; decide)
  have e3 : ((B vb).toList == cLIST) = false := B_nq (by subst hv; decide)
  have e4 : ((B vb).toList == cCOUNT) = false := B_nq (by subst hv; decide)
  have e5 : ((B vb).toList == cADD) = false := B_nq (by subst hv; decide)
  have e6 : ((B vb).toList == cAPP) = false := B_nq (by subst hv; decide)
  have e7 : ((B vb).toList == cQUIT) = true := B_q hv
  clear hv
  unfold ReadS at hrd
  have HF : Hid (SY w A b M v s) := h
  have HE : Hid (Env w) := hE
  have HO : Hid (OkM s.m) := hO
  clear h hE hO
  go_enter Tryz.func31, Tryz.ntmps31
  go_wp2_with fail
  refine hrd.mono ?_
  rintro e w1 ⟨rfl, hb1⟩
  clear hrd
  have hq : ∀ o, Below w.heap.size w (w1.alloc o) := fun o => bt hb1 (bel1 w1 o)
  have HQ : Hid _ := hq
  have hA := fun o => (HF.out.later (HQ.out o))
  obtain ⟨hlt, ⟨-, -, -, c3⟩, ⟨-, -, -, f3⟩⟩ := (HF.out.later hb1).at_.four
  have hfin : ∀ o, SY ((w1.setCell ⟨b, 3, none⟩ (.bool true)).alloc o) A b M v ⟨s.m, s.line, s.long, true⟩ ∧ Turn A w ((w1.setCell ⟨b, 3, none⟩ (.bool true)).alloc o) := fun o => by
    have hY := HF.out.later hb1
    have ht := turn_set w1 b 3 (.bool true)
    have hb := bel1 (w1.setCell ⟨b, 3, none⟩ (.bool true)) o
    have h2 : SY (w1.setCell ⟨b, 3, none⟩ (.bool true)) A b M v ⟨s.m, s.line, s.long, true⟩ := ⟨hY.at_.set 3 (.bool true), hY.vm.turn ht (fun e => hY.ne e.symm), hY.bo.turn ht (fun k hk e => (hY.inv k hk).2.1 e), hY.inb, hY.inM, hY.inv, hY.ne, hY.lw.size ht.size, hY.lo⟩
    exact ⟨h2.later hb, ((Turn.of_below hb1).trans (ht.mono (fun k hk => by rw [hk]; exact hY.inb))).later hb⟩
  have HG : Hid _ := hfin
  clear hfin hA
  go_wp2
  go_ret
  exact ⟨rfl, HG.out _⟩
set_option maxHeartbeats 2000000 in
theorem ans_none (h : SY w A b M v s) (line : By) (hrd : ReadN line w) :
    Calls Tryz.prog 31 #[PB b, .string (B line)] w fun e w' => e = .returned (.string (B bBAD)) ∧ SY w' A b M v s ∧ Turn A w w' := by
  unfold ReadN at hrd
  have HF : Hid (SY w A b M v s) := h
  clear h
  go_enter Tryz.func31, Tryz.ntmps31
  go_wp2_with fail
  refine hrd.mono ?_
  rintro e w1 ⟨⟨x, y, z, rfl⟩, hb1⟩
  clear hrd
  have hq : ∀ o, Below w.heap.size w (w1.alloc o) := fun o => bt hb1 (bel1 w1 o)
  have HQ : Hid _ := hq
  clear hq
  go_wp2
  go_ret
  exact ⟨rfl, HF.out.later (HQ.out _), Turn.of_below (HQ.out _)⟩
theorem read_verb {line vb k t : By} (h : readF line = some (vb, k, t)) : vb = cPUT ∨ vb = cAPP ∨ vb = cADD ∨ vb = cGET ∨ vb = cDEL ∨ vb = cLIST ∨ vb = cCOUNT ∨ vb = cQUIT := by
  unfold readF at h
  simp only at h
  split at h
  · rename_i hp
    split at h
    · cases h
      rcases hp with hp | hp | hp <;> simp [hp]
    · cases h
  · split at h
    · rename_i hp
      split at h
      · cases h
        rcases hp with hp | hp <;> simp [hp]
      · cases h
    · split at h
      · rename_i hp
        split at h
        · cases h
        · cases h
          rcases hp with hp | hp | hp <;> simp [hp]
      · cases h
/-- answer: what a whole line is answered. -/
theorem answer_any (h : SY w A b M v s) (hE : Env w) (hO : OkM s.m) (ho : s.over = false) (line : By) (hl : line.length ≤ 256) :
    Calls Tryz.prog 31 #[PB b, .string (B line)] w fun e w' => e = .returned (.string (B (ansF s.m line).1)) ∧ SY w' A b M v ⟨(ansF s.m line).2.1, s.line, s.long, (ansF s.m line).2.2⟩ ∧ Turn A w w' := by
  cases hr : readF line with
  | none =>
    have e : ansF s.m line = (bBAD, s.m, false) := by unfold ansF; rw [hr]
    rw [e]
    refine (ans_none h line (read_n hE line (by omega) hr)).mono ?_
    rintro e w' ⟨h1, h2, h3⟩
    exact ⟨h1, by rw [← ho]; exact h2, h3⟩
  | some x =>
    obtain ⟨vb, k, t⟩ := x
    obtain ⟨hk, ht⟩ := read_ok hr
    have hrd := read_s hE line vb k t (by omega) hr
    have ht' : t.length ≤ 1000000 := by omega
    rcases read_verb hr with e | e | e | e | e | e | e | e
    · have q : ansF s.m line = ((keepF s.m k t bOK).1, (keepF s.m k t bOK).2, false) := by unfold ansF; rw [hr]; subst e; rfl
      rw [q, ← ho]
      exact ans_put h hE hO line vb k t hrd e hk ht'
    · have q : ansF s.m line = ((growF s.m k t).1, (growF s.m k t).2, false) := by unfold ansF; rw [hr]; subst e; rfl
      rw [q, ← ho]
      exact ans_app h hE hO line vb k t hrd e hk ht'
    · have q : ansF s.m line = ((addF s.m k t).1, (addF s.m k t).2, false) := by unfold ansF; rw [hr]; subst e; rfl
      rw [q, ← ho]
      exact ans_add h hE hO line vb k t hrd e hk ht'
    · have q : ansF s.m line = (getF s.m k, s.m, false) := by unfold ansF; rw [hr]; subst e; rfl
      rw [q, ← ho]
      exact ans_get h hE hO line vb k t hrd e hk ht'
    · have q : ansF s.m line = ((dropF s.m k).1, (dropF s.m k).2, false) := by unfold ansF; rw [hr]; subst e; rfl
      rw [q, ← ho]
      exact ans_del h hE hO line vb k t hrd e hk ht'
    · have q : ansF s.m line = (listF s.m, s.m, false) := by unfold ansF; rw [hr]; subst e; rfl
      rw [q, ← ho]
      exact ans_list h hE hO line vb k t hrd e hk ht'
    · have q : ansF s.m line = (bCOUNT ++ Go.Lib.itoa (s.m.length : Int), s.m, false) := by unfold ansF; rw [hr]; subst e; rfl
      rw [q, ← ho]
      exact ans_count h hE hO line vb k t hrd e hk ht'
    · have q : ansF s.m line = (bBYE, s.m, true) := by unfold ansF; rw [hr]; subst e; rfl
      rw [q]
      exact ans_quit h hE hO line vb k t hrd e hk ht'
end
end Go.Proofs.YtadmpdeegnppjaaGreatDoor
