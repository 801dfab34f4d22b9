/- Acked. -/
import Derived.Test.YtkkinnbmlghniaaPc
import Derived.Test.YtkkinnbmlghniaaPd
namespace Go.Proofs.Ytkkinnbmlghniaa
open Go.RowKit
set_option maxRecDepth 100000
set_option linter.unusedVariables false
set_option linter.unusedSimpArgs false


def growE (m n : Int) (s : Vs) : Vs := if s.wi < s.th then { s with wi := bnd m (s.wi + min n m) } else if s.ga + n < s.wi then { s with ga := s.ga + n } else { s with ga := s.ga + n - s.wi, wi := bnd m (s.wi + m) }
theorem grow_any {B L G : Nat} {m : Int} {s : Vs} {w : World} (n : Int) (h : VY w B L G m s) (hf : s.Fine m) (n0 : 0 ≤ n) (n1 : n ≤ 1048576) :
    Calls Try.prog 27 #[.pointer (some ⟨B, 0, none⟩), .int .i64 n] w fun e w' => e = .returned (.tuple #[]) ∧ VY w' B L G m (growE m n s) ∧ Turn (fun k => k = B) w w' := by
  unfold growE
  by_cases h1 : s.wi < s.th
  · rw [if_pos h1]; exact grow_a n h hf n0 n1 h1
  · rw [if_neg h1]
    by_cases h2 : s.ga + n < s.wi
    · rw [if_pos h2]; exact grow_c n h hf n0 n1 (by omega) h2
    · rw [if_neg h2]; exact grow_b n h hf n0 n1 (by omega) (by omega)
def backB (up : Int) (s : Vs) : Bool := s.me && !reB (up % 4294967296) s.up
def ackE (m n up : Int) (s : Vs) : Vs := if backB up s = true then { s with wi := bnd m (mendV m (amt n) s.wi) } else if s.me = true then { s with wi := bnd m s.th, sa := 0, me := false, up := 0 } else growE m (amt n) { s with sa := 0 }
theorem growE_fine {m n : Int} {s : Vs} (h : s.Fine m) (n0 : 0 ≤ n) (n1 : n ≤ 1048576) (g : s.ga ≤ 500000000000) : (growE m n s).Fine m := by
  have ⟨m0, m1, w0, w1, t0, t1, s0, s1, g0, g1, u0, u1⟩ := h
  have h3 := fun n => bnd_ok (n := n) m1
  unfold growE
  split
  · exact ⟨m0, m1, (h3 _).1, (h3 _).2, t0, t1, s0, s1, g0, g1, u0, u1⟩
  · split
    · exact ⟨m0, m1, w0, w1, t0, t1, s0, s1, by show 0 ≤ s.ga + n; omega, by show s.ga + n ≤ 1000000000000; omega, u0, u1⟩
    · exact ⟨m0, m1, (h3 _).1, (h3 _).2, t0, t1, s0, s1, by show 0 ≤ s.ga + n - s.wi; omega, by show s.ga + n - s.wi ≤ 1000000000000; omega, u0, u1⟩
theorem ackE_fine {m n up : Int} {s : Vs} (h : s.Fine m) (g : s.ga ≤ 500000000000) : (ackE m n up s).Fine m := by
  have ⟨m0, m1, w0, w1, t0, t1, s0, s1, g0, g1, u0, u1⟩ := h
  have h3 := fun n => bnd_ok (n := n) m1
  unfold ackE
  split
  · exact ⟨m0, m1, (h3 _).1, (h3 _).2, t0, t1, s0, s1, g0, g1, u0, u1⟩
  · split
    · exact ⟨m0, m1, (h3 _).1, (h3 _).2, t0, t1, by show (0 : Int) ≤ 0; omega, by show (0 : Int) ≤ 1048576; omega, g0, g1, by show (0 : Int) ≤ 0; omega, by show (0 : Int) ≤ 4294967295; omega⟩
    · exact growE_fine ⟨m0, m1, w0, w1, t0, t1, by show (0 : Int) ≤ 0; omega, by show (0 : Int) ≤ 1048576; omega, g0, g1, u0, u1⟩ (amt_ok n).1 (amt_ok n).2 g
theorem acked_any {B L G : Nat} {m : Int} {s : Vs} {w : World} (n up : Int) (h : VY w B L G m s) (hf : s.Fine m) :
    Calls Try.prog 17 #[.pointer (some ⟨B, 0, none⟩), .int .i64 n, .int .i64 up] w fun e w' => e = .returned (.bool (backB up s)) ∧ VY w' B L G m (ackE m n up s) ∧ Turn (fun k => k = B) w w' := by
  have hFi := hf
  obtain ⟨m0, m1, l0, l1, t0, t1, s0, s1, g0, g1, u0, u1⟩ := hf
  have ham := amount_any n w
  obtain ⟨a0, a1⟩ := amt_ok n
  obtain ⟨⟨-, -, -, -, -, -, c6, c7⟩, -⟩ := h.b.eight
  cases hme : s.me with
  | false =>
    have HB : Hid (backB up s = false) := by show _ = _; unfold backB; rw [hme]; rfl
    have HE : Hid (ackE m n up s = growE m (amt n) { s with sa := 0 }) := by
      show _ = _
      unfold ackE
      rw [if_neg (by rw [HB.out]; decide), if_neg (by rw [hme]; decide)]
    rw [hme] at c6
    have hm6 : ∀ W, Below w.heap.size w W → VY W B L G m s := fun W hW => h.later hW
    have HM : Hid (s.me = false) := hme
    clear hme c7
    generalize amt n = a at *
    go_enter Try.func17, Try.ntmps17
    go_wp2_with fail
    refine ham.mono ?_
    rintro e w1 ⟨rfl, rfl⟩
    go_upto_region 2 with fail
    go_quiet (fail)
    have h2 := h.drewN nq
    have ht : Turn (fun k => k = B) w1 (w1.drewN nq) := (Turn.refl w1).later (below_drewN (Below.refl _ _) nq)
    clear c6 h hm6
    generalize w1.drewN nq = wd at *
    have h3 := h2.set4 0
    have ht3 := ht.trans (turn_set wd B 4 (.int .i64 0))
    obtain ⟨⟨-, -, -, -, c4, -⟩, -, -, -, -, f4, -⟩ := h2.b.eight
    have c6 := (h3.b.2 6 _ rfl).1
    rw [HM.out] at c6
    have hF3 : ({ s with sa := 0 } : Vs).Fine m := ⟨m0, m1, l0, l1, t0, t1, by show (0 : Int) ≤ 0; omega, by show (0 : Int) ≤ 1048576; omega, g0, g1, u0, u1⟩
    go_upto_region 10 with fail
    clear h2 ht c4 f4 c6
    generalize wd.setCell ⟨B, 4, none⟩ (.int .i64 0) = w3 at *
    go_wp2_with fail
    refine (grow_any a h3 hF3 a0 a1).mono ?_
    rintro e w4 ⟨rfl, h4, ht4⟩
    go_wp2
    go_ret
    rw [HB.out, HE.out]
    exact ⟨rfl, h4, ht3.trans ht4⟩
  | true =>
    have hnu := number_any up
    have hre := reaches_any (up % 4294967296) s.up
    have hbk : backB up s = !reB (up % 4294967296) s.up := by unfold backB; rw [hme]; rfl
    rw [hme] at c6
    cases hrb : reB (up % 4294967296) s.up with
    | false =>
      have HB : Hid (backB up s = true) := by show _ = _; rw [hbk, hrb]; rfl
      have HE : Hid (ackE m n up s = { s with wi := bnd m (mendV m (amt n) s.wi) }) := by
        show _ = _
        unfold ackE
        rw [if_pos HB.out]
      rw [hrb] at hre
      clear hbk hrb hme
      generalize amt n = a at *
      generalize up % 4294967296 = u at *
      have d6 : w.drew.cell? ⟨B, 6, none⟩ = some (.bool true) := c6
      have d7 : w.drew.cell? ⟨B, 7, none⟩ = some (.int .i64 s.up) := c7
      clear c6 c7
      go_enter Try.func17, Try.ntmps17
      go_wp2_with fail
      refine ham.mono ?_
      rintro e w1 ⟨rfl, rfl⟩
      go_upto_region 2 with fail
      refine wp_region_held_drew (S := (fun W => Below w1.heap.size w1 W)) (by kernel_rfl) ?_ (fun hHeld => ?_)
      · first | exact (Below.refl _ _).drew | assumption
      refine wpAnyH_take (i := 0) (oi := ({ dst := some 9, op := Go.Op.move (Go.Operand.tmp 0), type := 23, pos := "cong.go:44", after := #[], guard := none } : Go.Oper)) (v := .pointer (some ⟨B, 0, none⟩)) rfl (by kernel_rfl) (by kernel_rfl) (by kernel_rfl) (fun _ _ _ h => h) (Or.inl ⟨by rfl, ?_⟩) (by assumption) ?_
      · intro wx hSw
        try dsimp only at hSw
        have u6 := later hSw d6
        have u7 := later hSw d7
        go_simp
        try with_reducible rfl
      try simp only [Act.put, List.setIfInBounds_toArray, List.set_cons_zero, List.set_cons_succ]
      refine wpAnyH_take (i := 1) (oi := ({ dst := some 10, op := Go.Op.nilCheck (Go.Operand.tmp 9), type := 0, pos := "cong.go:44", after := #[{ on := 0, ground := Go.Ground.data }], guard := none } : Go.Oper)) (v := .pointer (some ⟨B, 0, none⟩)) rfl (by kernel_rfl) (by kernel_rfl) (by kernel_rfl) (fun _ _ _ h => h) (Or.inl ⟨by rfl, ?_⟩) (by assumption) ?_
      · intro wx hSw
        try dsimp only at hSw
        have u6 := later hSw d6
        have u7 := later hSw d7
        go_simp
        try with_reducible rfl
      try simp only [Act.put, List.setIfInBounds_toArray, List.set_cons_zero, List.set_cons_succ]
      refine wpAnyH_take (i := 2) (oi := ({ dst := some 11, op := Go.Op.fieldAddr 49 (Go.Operand.tmp 10) 6, type := 0, pos := "cong.go:44", after := #[{ on := 1, ground := Go.Ground.data }], guard := none } : Go.Oper)) (v := .pointer (some ⟨B, 6, none⟩)) rfl (by kernel_rfl) (by kernel_rfl) (by kernel_rfl) (fun _ _ _ h => h) (Or.inl ⟨by rfl, ?_⟩) (by assumption) ?_
      · intro wx hSw
        try dsimp only at hSw
        have u6 := later hSw d6
        have u7 := later hSw d7
        go_simp
        try with_reducible rfl
      try simp only [Act.put, List.setIfInBounds_toArray, List.set_cons_zero, List.set_cons_succ]
      refine wpAnyH_take (i := 3) (oi := ({ dst := some 12, op := Go.Op.load 4 (Go.Operand.tmp 11), type := 4, pos := "cong.go:44", after := #[{ on := 2, ground := Go.Ground.data }], guard := none } : Go.Oper)) (v := .bool true) rfl (by kernel_rfl) (by kernel_rfl) (by kernel_rfl) (fun _ _ _ h => h) (Or.inl ⟨by rfl, ?_⟩) (by assumption) ?_
      · intro wx hSw
        try dsimp only at hSw
        have u6 := later hSw d6
        have u7 := later hSw d7
        go_simp
        try with_reducible rfl
      try simp only [Act.put, List.setIfInBounds_toArray, List.set_cons_zero, List.set_cons_succ]
      refine wpAnyH_take (i := 4) (oi := ({ dst := some 13, op := Go.Op.move (Go.Operand.tmp 12), type := 4, pos := "cong.go:44", after := #[{ on := 3, ground := Go.Ground.data }], guard := none } : Go.Oper)) (v := .bool true) rfl (by kernel_rfl) (by kernel_rfl) (by kernel_rfl) (fun _ _ _ h => h) (Or.inl ⟨by rfl, ?_⟩) (by assumption) ?_
      · intro wx hSw
        try dsimp only at hSw
        have u6 := later hSw d6
        have u7 := later hSw d7
        go_simp
        try with_reducible rfl
      try simp only [Act.put, List.setIfInBounds_toArray, List.set_cons_zero, List.set_cons_succ]
      refine wpAnyH_take (i := 5) (oi := ({ dst := some 14, op := Go.Op.move (Go.Operand.tmp 2), type := 3, pos := "cong.go:44", after := #[{ on := 4, ground := Go.Ground.guard }], guard := some (4, true) } : Go.Oper)) (v := .int .i64 up) rfl (by kernel_rfl) (by kernel_rfl) (by kernel_rfl) (fun _ _ _ h => h) (Or.inl ⟨by rfl, ?_⟩) (by assumption) ?_
      · intro wx hSw
        try dsimp only at hSw
        have u6 := later hSw d6
        have u7 := later hSw d7
        go_simp
        try with_reducible rfl
      try simp only [Act.put, List.setIfInBounds_toArray, List.set_cons_zero, List.set_cons_succ]
      refine wpAnyH_take (i := 7) (oi := ({ dst := some 16, op := Go.Op.move (Go.Operand.tmp 0), type := 23, pos := "cong.go:44", after := #[{ on := 4, ground := Go.Ground.guard }], guard := some (4, true) } : Go.Oper)) (v := .pointer (some ⟨B, 0, none⟩)) rfl (by kernel_rfl) (by kernel_rfl) (by kernel_rfl) (fun _ _ _ h => h) (Or.inl ⟨by rfl, ?_⟩) (by assumption) ?_
      · intro wx hSw
        try dsimp only at hSw
        have u6 := later hSw d6
        have u7 := later hSw d7
        go_simp
        try with_reducible rfl
      try simp only [Act.put, List.setIfInBounds_toArray, List.set_cons_zero, List.set_cons_succ]
      refine wpAnyH_take (i := 8) (oi := ({ dst := some 17, op := Go.Op.nilCheck (Go.Operand.tmp 16), type := 0, pos := "cong.go:44", after := #[{ on := 7, ground := Go.Ground.data }, { on := 4, ground := Go.Ground.guard }], guard := some (4, true) } : Go.Oper)) (v := .pointer (some ⟨B, 0, none⟩)) rfl (by kernel_rfl) (by kernel_rfl) (by kernel_rfl) (fun _ _ _ h => h) (Or.inl ⟨by rfl, ?_⟩) (by assumption) ?_
      · intro wx hSw
        try dsimp only at hSw
        have u6 := later hSw d6
        have u7 := later hSw d7
        go_simp
        try with_reducible rfl
      try simp only [Act.put, List.setIfInBounds_toArray, List.set_cons_zero, List.set_cons_succ]
      refine wpAnyH_take (i := 9) (oi := ({ dst := some 18, op := Go.Op.fieldAddr 49 (Go.Operand.tmp 17) 7, type := 0, pos := "cong.go:44", after := #[{ on := 8, ground := Go.Ground.data }, { on := 4, ground := Go.Ground.guard }], guard := some (4, true) } : Go.Oper)) (v := .pointer (some ⟨B, 7, none⟩)) rfl (by kernel_rfl) (by kernel_rfl) (by kernel_rfl) (fun _ _ _ h => h) (Or.inl ⟨by rfl, ?_⟩) (by assumption) ?_
      · intro wx hSw
        try dsimp only at hSw
        have u6 := later hSw d6
        have u7 := later hSw d7
        go_simp
        try with_reducible rfl
      try simp only [Act.put, List.setIfInBounds_toArray, List.set_cons_zero, List.set_cons_succ]
      refine wpAnyH_take (i := 10) (oi := ({ dst := some 19, op := Go.Op.load 3 (Go.Operand.tmp 18), type := 3, pos := "cong.go:44", after := #[{ on := 9, ground := Go.Ground.data }, { on := 4, ground := Go.Ground.guard }], guard := some (4, true) } : Go.Oper)) (v := .int .i64 s.up) rfl (by kernel_rfl) (by kernel_rfl) (by kernel_rfl) (fun _ _ _ h => h) (Or.inl ⟨by rfl, ?_⟩) (by assumption) ?_
      · intro wx hSw
        try dsimp only at hSw
        have u6 := later hSw d6
        have u7 := later hSw d7
        go_simp
        try with_reducible rfl
      try simp only [Act.put, List.setIfInBounds_toArray, List.set_cons_zero, List.set_cons_succ]
      refine wpAnyH_ready (rs := [6]) (by kernel_rfl) (by simp) ?_
      refine AllReadyH.cons (o := ({ dst := some 15, op := Go.Op.call { callee := Go.Callee.value (Go.Operand.func 23), args := #[Go.Operand.tmp 14], argTypes := #[3] }, type := 3, pos := "cong.go:44", after := #[{ on := 5, ground := Go.Ground.data }, { on := 4, ground := Go.Ground.chain }, { on := 4, ground := Go.Ground.guard }], guard := some (4, true) } : Go.Oper)) rfl (fun K hK => ?_) AllReadyH.nil
      go_simp
      refine (hnu _).mono ?_
      rintro e wk ⟨rfl, rfl⟩
      refine hK.out _ _ hHeld (fun hHeld => ?_)
      clear hK K
      try simp only [Act.put, List.setIfInBounds_toArray, List.set_cons_zero, List.set_cons_succ]
      refine wpAnyH_ready (rs := [11]) (by kernel_rfl) (by simp) ?_
      refine AllReadyH.cons (o := ({ dst := some 20, op := Go.Op.call { callee := Go.Callee.value (Go.Operand.func 25), args := #[Go.Operand.tmp 15, Go.Operand.tmp 19], argTypes := #[3, 3] }, type := 4, pos := "cong.go:44", after := #[{ on := 6, ground := Go.Ground.data }, { on := 10, ground := Go.Ground.data }, { on := 6, ground := Go.Ground.chain }, { on := 4, ground := Go.Ground.guard }], guard := some (4, true) } : Go.Oper)) rfl (fun K hK => ?_) AllReadyH.nil
      go_simp
      refine (hre _).mono ?_
      rintro e wk ⟨rfl, rfl⟩
      refine hK.out _ _ hHeld (fun hHeld => ?_)
      clear hK K
      try simp only [Act.put, List.setIfInBounds_toArray, List.set_cons_zero, List.set_cons_succ]
      refine wpAnyH_take (i := 12) (oi := ({ dst := some 21, op := Go.Op.unOp Go.UnOp.not 4 (Go.Operand.tmp 20), type := 4, pos := "cong.go:44", after := #[{ on := 11, ground := Go.Ground.data }, { on := 4, ground := Go.Ground.guard }], guard := some (4, true) } : Go.Oper)) (v := .bool true) rfl (by kernel_rfl) (by kernel_rfl) (by kernel_rfl) (fun _ _ _ h => h) (Or.inl ⟨by rfl, ?_⟩) (by assumption) ?_
      · intro wx hSw
        try dsimp only at hSw
        have u6 := later hSw d6
        have u7 := later hSw d7
        go_simp
        try with_reducible rfl
      try simp only [Act.put, List.setIfInBounds_toArray, List.set_cons_zero, List.set_cons_succ]
      refine wpAnyH_take (i := 13) (oi := ({ dst := some 22, op := Go.Op.pick (Go.Operand.tmp 13) (Go.Operand.tmp 21) (Go.Operand.const (Go.Value.bool false)), type := 4, pos := "cong.go:44", after := #[{ on := 4, ground := Go.Ground.data }, { on := 12, ground := Go.Ground.data }], guard := none } : Go.Oper)) (v := .bool true) rfl (by kernel_rfl) (by kernel_rfl) (by kernel_rfl) (fun _ _ _ h => h) (Or.inl ⟨by rfl, ?_⟩) (by assumption) ?_
      · intro wx hSw
        try dsimp only at hSw
        have u6 := later hSw d6
        have u7 := later hSw d7
        go_simp
        try with_reducible rfl
      try simp only [Act.put, List.setIfInBounds_toArray, List.set_cons_zero, List.set_cons_succ]
      refine wpAnyH_done (by kernel_rfl) ?_ _
      have h2 := h.later (w := w1) (x := w1.drew) (Below.refl _ _).drew
      clear d6 d7 h hHeld
      go_wp2_with fail
      refine (mend_any a h2 hFi a0 a1).mono ?_
      rintro e w4 ⟨rfl, h4, ht4⟩
      go_wp2
      go_ret
      rw [HB.out, HE.out]
      exact ⟨rfl, h4, ((Turn.refl w1).drew).trans ht4⟩
    | true =>
      have HB : Hid (backB up s = false) := by show _ = _; rw [hbk, hrb]; rfl
      have HE : Hid (ackE m n up s = { s with wi := bnd m s.th, sa := 0, me := false, up := 0 }) := by
        show _ = _
        unfold ackE
        rw [if_neg (by rw [HB.out]; decide), if_pos hme]
      rw [hrb] at hre
      have HM : Hid (s.me = true) := hme
      clear hbk hrb hme
      generalize amt n = a at *
      generalize up % 4294967296 = u at *
      have d6 : w.drew.cell? ⟨B, 6, none⟩ = some (.bool true) := c6
      have d7 : w.drew.cell? ⟨B, 7, none⟩ = some (.int .i64 s.up) := c7
      clear c6 c7
      go_enter Try.func17, Try.ntmps17
      go_wp2_with fail
      refine ham.mono ?_
      rintro e w1 ⟨rfl, rfl⟩
      go_upto_region 2 with fail
      refine wp_region_held_drew (S := (fun W => Below w1.heap.size w1 W)) (by kernel_rfl) ?_ (fun hHeld => ?_)
      · first | exact (Below.refl _ _).drew | assumption
      refine wpAnyH_take (i := 0) (oi := ({ dst := some 9, op := Go.Op.move (Go.Operand.tmp 0), type := 23, pos := "cong.go:44", after := #[], guard := none } : Go.Oper)) (v := .pointer (some ⟨B, 0, none⟩)) rfl (by kernel_rfl) (by kernel_rfl) (by kernel_rfl) (fun _ _ _ h => h) (Or.inl ⟨by rfl, ?_⟩) (by assumption) ?_
      · intro wx hSw
        try dsimp only at hSw
        have u6 := later hSw d6
        have u7 := later hSw d7
        go_simp
        try with_reducible rfl
      try simp only [Act.put, List.setIfInBounds_toArray, List.set_cons_zero, List.set_cons_succ]
      refine wpAnyH_take (i := 1) (oi := ({ dst := some 10, op := Go.Op.nilCheck (Go.Operand.tmp 9), type := 0, pos := "cong.go:44", after := #[{ on := 0, ground := Go.Ground.data }], guard := none } : Go.Oper)) (v := .pointer (some ⟨B, 0, none⟩)) rfl (by kernel_rfl) (by kernel_rfl) (by kernel_rfl) (fun _ _ _ h => h) (Or.inl ⟨by rfl, ?_⟩) (by assumption) ?_
      · intro wx hSw
        try dsimp only at hSw
        have u6 := later hSw d6
        have u7 := later hSw d7
        go_simp
        try with_reducible rfl
      try simp only [Act.put, List.setIfInBounds_toArray, List.set_cons_zero, List.set_cons_succ]
      refine wpAnyH_take (i := 2) (oi := ({ dst := some 11, op := Go.Op.fieldAddr 49 (Go.Operand.tmp 10) 6, type := 0, pos := "cong.go:44", after := #[{ on := 1, ground := Go.Ground.data }], guard := none } : Go.Oper)) (v := .pointer (some ⟨B, 6, none⟩)) rfl (by kernel_rfl) (by kernel_rfl) (by kernel_rfl) (fun _ _ _ h => h) (Or.inl ⟨by rfl, ?_⟩) (by assumption) ?_
      · intro wx hSw
        try dsimp only at hSw
        have u6 := later hSw d6
        have u7 := later hSw d7
        go_simp
        try with_reducible rfl
      try simp only [Act.put, List.setIfInBounds_toArray, List.set_cons_zero, List.set_cons_succ]
      refine wpAnyH_take (i := 3) (oi := ({ dst := some 12, op := Go.Op.load 4 (Go.Operand.tmp 11), type := 4, pos := "cong.go:44", after := #[{ on := 2, ground := Go.Ground.data }], guard := none } : Go.Oper)) (v := .bool true) rfl (by kernel_rfl) (by kernel_rfl) (by kernel_rfl) (fun _ _ _ h => h) (Or.inl ⟨by rfl, ?_⟩) (by assumption) ?_
      · intro wx hSw
        try dsimp only at hSw
        have u6 := later hSw d6
        have u7 := later hSw d7
        go_simp
        try with_reducible rfl
      try simp only [Act.put, List.setIfInBounds_toArray, List.set_cons_zero, List.set_cons_succ]
      refine wpAnyH_take (i := 4) (oi := ({ dst := some 13, op := Go.Op.move (Go.Operand.tmp 12), type := 4, pos := "cong.go:44", after := #[{ on := 3, ground := Go.Ground.data }], guard := none } : Go.Oper)) (v := .bool true) rfl (by kernel_rfl) (by kernel_rfl) (by kernel_rfl) (fun _ _ _ h => h) (Or.inl ⟨by rfl, ?_⟩) (by assumption) ?_
      · intro wx hSw
        try dsimp only at hSw
        have u6 := later hSw d6
        have u7 := later hSw d7
        go_simp
        try with_reducible rfl
      try simp only [Act.put, List.setIfInBounds_toArray, List.set_cons_zero, List.set_cons_succ]
      refine wpAnyH_take (i := 5) (oi := ({ dst := some 14, op := Go.Op.move (Go.Operand.tmp 2), type := 3, pos := "cong.go:44", after := #[{ on := 4, ground := Go.Ground.guard }], guard := some (4, true) } : Go.Oper)) (v := .int .i64 up) rfl (by kernel_rfl) (by kernel_rfl) (by kernel_rfl) (fun _ _ _ h => h) (Or.inl ⟨by rfl, ?_⟩) (by assumption) ?_
      · intro wx hSw
        try dsimp only at hSw
        have u6 := later hSw d6
        have u7 := later hSw d7
        go_simp
        try with_reducible rfl
      try simp only [Act.put, List.setIfInBounds_toArray, List.set_cons_zero, List.set_cons_succ]
      refine wpAnyH_take (i := 7) (oi := ({ dst := some 16, op := Go.Op.move (Go.Operand.tmp 0), type := 23, pos := "cong.go:44", after := #[{ on := 4, ground := Go.Ground.guard }], guard := some (4, true) } : Go.Oper)) (v := .pointer (some ⟨B, 0, none⟩)) rfl (by kernel_rfl) (by kernel_rfl) (by kernel_rfl) (fun _ _ _ h => h) (Or.inl ⟨by rfl, ?_⟩) (by assumption) ?_
      · intro wx hSw
        try dsimp only at hSw
        have u6 := later hSw d6
        have u7 := later hSw d7
        go_simp
        try with_reducible rfl
      try simp only [Act.put, List.setIfInBounds_toArray, List.set_cons_zero, List.set_cons_succ]
      refine wpAnyH_take (i := 8) (oi := ({ dst := some 17, op := Go.Op.nilCheck (Go.Operand.tmp 16), type := 0, pos := "cong.go:44", after := #[{ on := 7, ground := Go.Ground.data }, { on := 4, ground := Go.Ground.guard }], guard := some (4, true) } : Go.Oper)) (v := .pointer (some ⟨B, 0, none⟩)) rfl (by kernel_rfl) (by kernel_rfl) (by kernel_rfl) (fun _ _ _ h => h) (Or.inl ⟨by rfl, ?_⟩) (by assumption) ?_
      · intro wx hSw
        try dsimp only at hSw
        have u6 := later hSw d6
        have u7 := later hSw d7
        go_simp
        try with_reducible rfl
      try simp only [Act.put, List.setIfInBounds_toArray, List.set_cons_zero, List.set_cons_succ]
      refine wpAnyH_take (i := 9) (oi := ({ dst := some 18, op := Go.Op.fieldAddr 49 (Go.Operand.tmp 17) 7, type := 0, pos := "cong.go:44", after := #[{ on := 8, ground := Go.Ground.data }, { on := 4, ground := Go.Ground.guard }], guard := some (4, true) } : Go.Oper)) (v := .pointer (some ⟨B, 7, none⟩)) rfl (by kernel_rfl) (by kernel_rfl) (by kernel_rfl) (fun _ _ _ h => h) (Or.inl ⟨by rfl, ?_⟩) (by assumption) ?_
      · intro wx hSw
        try dsimp only at hSw
        have u6 := later hSw d6
        have u7 := later hSw d7
        go_simp
        try with_reducible rfl
      try simp only [Act.put, List.setIfInBounds_toArray, List.set_cons_zero, List.set_cons_succ]
      refine wpAnyH_take (i := 10) (oi := ({ dst := some 19, op := Go.Op.load 3 (Go.Operand.tmp 18), type := 3, pos := "cong.go:44", after := #[{ on := 9, ground := Go.Ground.data }, { on := 4, ground := Go.Ground.guard }], guard := some (4, true) } : Go.Oper)) (v := .int .i64 s.up) rfl (by kernel_rfl) (by kernel_rfl) (by kernel_rfl) (fun _ _ _ h => h) (Or.inl ⟨by rfl, ?_⟩) (by assumption) ?_
      · intro wx hSw
        try dsimp only at hSw
        have u6 := later hSw d6
        have u7 := later hSw d7
        go_simp
        try with_reducible rfl
      try simp only [Act.put, List.setIfInBounds_toArray, List.set_cons_zero, List.set_cons_succ]
      refine wpAnyH_ready (rs := [6]) (by kernel_rfl) (by simp) ?_
      refine AllReadyH.cons (o := ({ dst := some 15, op := Go.Op.call { callee := Go.Callee.value (Go.Operand.func 23), args := #[Go.Operand.tmp 14], argTypes := #[3] }, type := 3, pos := "cong.go:44", after := #[{ on := 5, ground := Go.Ground.data }, { on := 4, ground := Go.Ground.chain }, { on := 4, ground := Go.Ground.guard }], guard := some (4, true) } : Go.Oper)) rfl (fun K hK => ?_) AllReadyH.nil
      go_simp
      refine (hnu _).mono ?_
      rintro e wk ⟨rfl, rfl⟩
      refine hK.out _ _ hHeld (fun hHeld => ?_)
      clear hK K
      try simp only [Act.put, List.setIfInBounds_toArray, List.set_cons_zero, List.set_cons_succ]
      refine wpAnyH_ready (rs := [11]) (by kernel_rfl) (by simp) ?_
      refine AllReadyH.cons (o := ({ dst := some 20, op := Go.Op.call { callee := Go.Callee.value (Go.Operand.func 25), args := #[Go.Operand.tmp 15, Go.Operand.tmp 19], argTypes := #[3, 3] }, type := 4, pos := "cong.go:44", after := #[{ on := 6, ground := Go.Ground.data }, { on := 10, ground := Go.Ground.data }, { on := 6, ground := Go.Ground.chain }, { on := 4, ground := Go.Ground.guard }], guard := some (4, true) } : Go.Oper)) rfl (fun K hK => ?_) AllReadyH.nil
      go_simp
      refine (hre _).mono ?_
      rintro e wk ⟨rfl, rfl⟩
      refine hK.out _ _ hHeld (fun hHeld => ?_)
      clear hK K
      try simp only [Act.put, List.setIfInBounds_toArray, List.set_cons_zero, List.set_cons_succ]
      refine wpAnyH_take (i := 12) (oi := ({ dst := some 21, op := Go.Op.unOp Go.UnOp.not 4 (Go.Operand.tmp 20), type := 4, pos := "cong.go:44", after := #[{ on := 11, ground := Go.Ground.data }, { on := 4, ground := Go.Ground.guard }], guard := some (4, true) } : Go.Oper)) (v := .bool false) rfl (by kernel_rfl) (by kernel_rfl) (by kernel_rfl) (fun _ _ _ h => h) (Or.inl ⟨by rfl, ?_⟩) (by assumption) ?_
      · intro wx hSw
        try dsimp only at hSw
        have u6 := later hSw d6
        have u7 := later hSw d7
        go_simp
        try with_reducible rfl
      try simp only [Act.put, List.setIfInBounds_toArray, List.set_cons_zero, List.set_cons_succ]
      refine wpAnyH_take (i := 13) (oi := ({ dst := some 22, op := Go.Op.pick (Go.Operand.tmp 13) (Go.Operand.tmp 21) (Go.Operand.const (Go.Value.bool false)), type := 4, pos := "cong.go:44", after := #[{ on := 4, ground := Go.Ground.data }, { on := 12, ground := Go.Ground.data }], guard := none } : Go.Oper)) (v := .bool false) rfl (by kernel_rfl) (by kernel_rfl) (by kernel_rfl) (fun _ _ _ h => h) (Or.inl ⟨by rfl, ?_⟩) (by assumption) ?_
      · intro wx hSw
        try dsimp only at hSw
        have u6 := later hSw d6
        have u7 := later hSw d7
        go_simp
        try with_reducible rfl
      try simp only [Act.put, List.setIfInBounds_toArray, List.set_cons_zero, List.set_cons_succ]
      refine wpAnyH_done (by kernel_rfl) ?_ _
      have h2 := h.later (w := w1) (x := w1.drew) (Below.refl _ _).drew
      have ht : Turn (fun k => k = B) w1 w1.drew := (Turn.refl w1).drew
      clear d6 d7 h hHeld
      generalize w1.drew = wd at *
      have h3 := h2.set4 0
      have ht3 := ht.trans (turn_set wd B 4 (.int .i64 0))
      obtain ⟨⟨-, -, -, -, c4, -⟩, -, -, -, -, f4, -⟩ := h2.b.eight
      have c6 := (h3.b.2 6 _ rfl).1
      rw [HM.out] at c6
      go_upto_region 7 with fail
      clear h2 ht c4 f4 c6
      generalize wd.setCell ⟨B, 4, none⟩ (.int .i64 0) = w3 at *
      have hb := fun W hW => bound_any (n := s.th) (w := W) (h3.l.later hW) (h3.g.later hW)
      have h0 : w3.drew.cell? ⟨B, 1, none⟩ = some (.func (.func 28) #[] #[.pointer (some ⟨L, 0, none⟩), .pointer (some ⟨G, 0, none⟩)]) := (h3.b.2 1 _ rfl).1
      have h1 : w3.drew.cell? ⟨B, 3, none⟩ = some (.int .i64 s.th) := (h3.b.2 3 _ rfl).1
      have k1 : w3.drew.cell? ⟨B, 2, none⟩ = some (.int .i64 s.wi) := (h3.b.2 2 _ rfl).1
      have k2 : w3.drew.frozen? ⟨B, 2, none⟩ = false := (h3.b.2 2 _ rfl).2
      have hbw : Below w3.heap.size w3 w3.drew := (Below.refl _ _).drew
      refine wp_region_held_drew (S := (fun W => W.cell? ⟨B, 1, none⟩ = some (.func (.func 28) #[] #[.pointer (some ⟨L, 0, none⟩), .pointer (some ⟨G, 0, none⟩)]) ∧ W.cell? ⟨B, 3, none⟩ = some (.int .i64 s.th))) (by kernel_rfl) ?_ (fun hHeld => ?_)
      · first | exact ⟨h0, h1⟩ | assumption
      refine wpAnyH_take (i := 0) (oi := ({ dst := some 33, op := Go.Op.move (Go.Operand.tmp 0), type := 23, pos := "cong.go:50", after := #[], guard := none } : Go.Oper)) (v := .pointer (some ⟨B, 0, none⟩)) rfl (by kernel_rfl) (by kernel_rfl) (by kernel_rfl) (fun _ _ _ h => h) (Or.inl ⟨by rfl, ?_⟩) (by assumption) ?_
      · intro wx hSw
        try dsimp only at hSw
        obtain ⟨u0, u1⟩ := hSw
        go_simp
        try with_reducible rfl
      try simp only [Act.put, List.setIfInBounds_toArray, List.set_cons_zero, List.set_cons_succ]
      refine wpAnyH_take (i := 1) (oi := ({ dst := some 34, op := Go.Op.move (Go.Operand.tmp 0), type := 23, pos := "cong.go:50", after := #[], guard := none } : Go.Oper)) (v := .pointer (some ⟨B, 0, none⟩)) rfl (by kernel_rfl) (by kernel_rfl) (by kernel_rfl) (fun _ _ _ h => h) (Or.inl ⟨by rfl, ?_⟩) (by assumption) ?_
      · intro wx hSw
        try dsimp only at hSw
        obtain ⟨u0, u1⟩ := hSw
        go_simp
        try with_reducible rfl
      try simp only [Act.put, List.setIfInBounds_toArray, List.set_cons_zero, List.set_cons_succ]
      refine wpAnyH_take (i := 2) (oi := ({ dst := some 35, op := Go.Op.nilCheck (Go.Operand.tmp 34), type := 0, pos := "cong.go:50", after := #[{ on := 1, ground := Go.Ground.data }], guard := none } : Go.Oper)) (v := .pointer (some ⟨B, 0, none⟩)) rfl (by kernel_rfl) (by kernel_rfl) (by kernel_rfl) (fun _ _ _ h => h) (Or.inl ⟨by rfl, ?_⟩) (by assumption) ?_
      · intro wx hSw
        try dsimp only at hSw
        obtain ⟨u0, u1⟩ := hSw
        go_simp
        try with_reducible rfl
      try simp only [Act.put, List.setIfInBounds_toArray, List.set_cons_zero, List.set_cons_succ]
      refine wpAnyH_take (i := 3) (oi := ({ dst := some 36, op := Go.Op.fieldAddr 49 (Go.Operand.tmp 35) 1, type := 0, pos := "cong.go:50", after := #[{ on := 2, ground := Go.Ground.data }], guard := none } : Go.Oper)) (v := .pointer (some ⟨B, 1, none⟩)) rfl (by kernel_rfl) (by kernel_rfl) (by kernel_rfl) (fun _ _ _ h => h) (Or.inl ⟨by rfl, ?_⟩) (by assumption) ?_
      · intro wx hSw
        try dsimp only at hSw
        obtain ⟨u0, u1⟩ := hSw
        go_simp
        try with_reducible rfl
      try simp only [Act.put, List.setIfInBounds_toArray, List.set_cons_zero, List.set_cons_succ]
      refine wpAnyH_take (i := 4) (oi := ({ dst := some 37, op := Go.Op.load 46 (Go.Operand.tmp 36), type := 46, pos := "cong.go:50", after := #[{ on := 3, ground := Go.Ground.data }], guard := none } : Go.Oper)) (v := .func (.func 28) #[] #[.pointer (some ⟨L, 0, none⟩), .pointer (some ⟨G, 0, none⟩)]) rfl (by kernel_rfl) (by kernel_rfl) (by kernel_rfl) (fun _ _ _ h => h) (Or.inl ⟨by rfl, ?_⟩) (by assumption) ?_
      · intro wx hSw
        try dsimp only at hSw
        obtain ⟨u0, u1⟩ := hSw
        go_simp
        try with_reducible rfl
      try simp only [Act.put, List.setIfInBounds_toArray, List.set_cons_zero, List.set_cons_succ]
      refine wpAnyH_take (i := 5) (oi := ({ dst := some 38, op := Go.Op.move (Go.Operand.tmp 0), type := 23, pos := "cong.go:50", after := #[], guard := none } : Go.Oper)) (v := .pointer (some ⟨B, 0, none⟩)) rfl (by kernel_rfl) (by kernel_rfl) (by kernel_rfl) (fun _ _ _ h => h) (Or.inl ⟨by rfl, ?_⟩) (by assumption) ?_
      · intro wx hSw
        try dsimp only at hSw
        obtain ⟨u0, u1⟩ := hSw
        go_simp
        try with_reducible rfl
      try simp only [Act.put, List.setIfInBounds_toArray, List.set_cons_zero, List.set_cons_succ]
      refine wpAnyH_take (i := 6) (oi := ({ dst := some 39, op := Go.Op.nilCheck (Go.Operand.tmp 38), type := 0, pos := "cong.go:50", after := #[{ on := 5, ground := Go.Ground.data }], guard := none } : Go.Oper)) (v := .pointer (some ⟨B, 0, none⟩)) rfl (by kernel_rfl) (by kernel_rfl) (by kernel_rfl) (fun _ _ _ h => h) (Or.inl ⟨by rfl, ?_⟩) (by assumption) ?_
      · intro wx hSw
        try dsimp only at hSw
        obtain ⟨u0, u1⟩ := hSw
        go_simp
        try with_reducible rfl
      try simp only [Act.put, List.setIfInBounds_toArray, List.set_cons_zero, List.set_cons_succ]
      refine wpAnyH_take (i := 7) (oi := ({ dst := some 40, op := Go.Op.fieldAddr 49 (Go.Operand.tmp 39) 3, type := 0, pos := "cong.go:50", after := #[{ on := 6, ground := Go.Ground.data }], guard := none } : Go.Oper)) (v := .pointer (some ⟨B, 3, none⟩)) rfl (by kernel_rfl) (by kernel_rfl) (by kernel_rfl) (fun _ _ _ h => h) (Or.inl ⟨by rfl, ?_⟩) (by assumption) ?_
      · intro wx hSw
        try dsimp only at hSw
        obtain ⟨u0, u1⟩ := hSw
        go_simp
        try with_reducible rfl
      try simp only [Act.put, List.setIfInBounds_toArray, List.set_cons_zero, List.set_cons_succ]
      refine wpAnyH_take (i := 8) (oi := ({ dst := some 41, op := Go.Op.load 3 (Go.Operand.tmp 40), type := 3, pos := "cong.go:50", after := #[{ on := 7, ground := Go.Ground.data }], guard := none } : Go.Oper)) (v := .int .i64 s.th) rfl (by kernel_rfl) (by kernel_rfl) (by kernel_rfl) (fun _ _ _ h => h) (Or.inl ⟨by rfl, ?_⟩) (by assumption) ?_
      · intro wx hSw
        try dsimp only at hSw
        obtain ⟨u0, u1⟩ := hSw
        go_simp
        try with_reducible rfl
      try simp only [Act.put, List.setIfInBounds_toArray, List.set_cons_zero, List.set_cons_succ]
      refine wpAnyH_ready (rs := [9]) (by kernel_rfl) (by simp) ?_
      refine AllReadyH.cons (o := ({ dst := some 42, op := Go.Op.call { callee := Go.Callee.value (Go.Operand.tmp 37), args := #[Go.Operand.tmp 41], argTypes := #[3] }, type := 3, pos := "cong.go:50", after := #[{ on := 4, ground := Go.Ground.data }, { on := 8, ground := Go.Ground.data }], guard := none } : Go.Oper)) rfl (fun K hK => ?_) AllReadyH.nil
      go_simp
      refine (hb _ hbw).mono ?_
      rintro e wk ⟨rfl, rfl⟩
      refine hK.out _ _ hHeld (fun hHeld => ?_)
      clear hK K
      try simp only [Act.put, List.setIfInBounds_toArray, List.set_cons_zero, List.set_cons_succ]
      refine wpAnyH_take (i := 10) (oi := ({ dst := some 43, op := Go.Op.nilCheck (Go.Operand.tmp 33), type := 0, pos := "cong.go:50", after := #[{ on := 0, ground := Go.Ground.data }, { on := 0, ground := Go.Ground.phase }, { on := 1, ground := Go.Ground.phase }, { on := 2, ground := Go.Ground.phase }, { on := 3, ground := Go.Ground.phase }, { on := 4, ground := Go.Ground.phase }, { on := 5, ground := Go.Ground.phase }, { on := 6, ground := Go.Ground.phase }, { on := 7, ground := Go.Ground.phase }, { on := 8, ground := Go.Ground.phase }, { on := 9, ground := Go.Ground.phase }], guard := none } : Go.Oper)) (v := .pointer (some ⟨B, 0, none⟩)) rfl (by kernel_rfl) (by kernel_rfl) (by kernel_rfl) (fun _ _ _ h => h) (Or.inl ⟨by rfl, ?_⟩) (by assumption) ?_
      · intro wx hSw
        try dsimp only at hSw
        obtain ⟨u0, u1⟩ := hSw
        go_simp
        try with_reducible rfl
      try simp only [Act.put, List.setIfInBounds_toArray, List.set_cons_zero, List.set_cons_succ]
      refine wpAnyH_take (i := 11) (oi := ({ dst := some 44, op := Go.Op.fieldAddr 49 (Go.Operand.tmp 43) 2, type := 0, pos := "cong.go:50", after := #[{ on := 10, ground := Go.Ground.data }, { on := 0, ground := Go.Ground.phase }, { on := 1, ground := Go.Ground.phase }, { on := 2, ground := Go.Ground.phase }, { on := 3, ground := Go.Ground.phase }, { on := 4, ground := Go.Ground.phase }, { on := 5, ground := Go.Ground.phase }, { on := 6, ground := Go.Ground.phase }, { on := 7, ground := Go.Ground.phase }, { on := 8, ground := Go.Ground.phase }, { on := 9, ground := Go.Ground.phase }], guard := none } : Go.Oper)) (v := .pointer (some ⟨B, 2, none⟩)) rfl (by kernel_rfl) (by kernel_rfl) (by kernel_rfl) (fun _ _ _ h => h) (Or.inl ⟨by rfl, ?_⟩) (by assumption) ?_
      · intro wx hSw
        try dsimp only at hSw
        obtain ⟨u0, u1⟩ := hSw
        go_simp
        try with_reducible rfl
      try simp only [Act.put, List.setIfInBounds_toArray, List.set_cons_zero, List.set_cons_succ]
      refine wpAnyH_ready (rs := [12]) (by kernel_rfl) (by simp) ?_
      refine AllReadyH.cons (o := ({ dst := none, op := Go.Op.store 3 (Go.Operand.tmp 44) (Go.Operand.tmp 42), type := 0, pos := "cong.go:50", after := #[{ on := 11, ground := Go.Ground.data }, { on := 9, ground := Go.Ground.data }, { on := 9, ground := Go.Ground.chain }, { on := 0, ground := Go.Ground.phase }, { on := 1, ground := Go.Ground.phase }, { on := 2, ground := Go.Ground.phase }, { on := 3, ground := Go.Ground.phase }, { on := 4, ground := Go.Ground.phase }, { on := 5, ground := Go.Ground.phase }, { on := 6, ground := Go.Ground.phase }, { on := 7, ground := Go.Ground.phase }, { on := 8, ground := Go.Ground.phase }, { on := 9, ground := Go.Ground.phase }], guard := none } : Go.Oper)) rfl (fun K hK => ?_) AllReadyH.nil
      go_simp
      refine hK.out _ _ ⟨((h3.set2 _).b.2 1 _ rfl).1, ((h3.set2 _).b.2 3 _ rfl).1⟩ (fun hHeld => ?_)
      clear hK K
      try simp only [Act.put, List.setIfInBounds_toArray, List.set_cons_zero, List.set_cons_succ]
      refine wpAnyH_done (by kernel_rfl) ?_ _
      have h4 := (h3.later hbw).set2 (bnd m s.th)
      have ht4 := (ht3.drew).trans (turn_set w3.drew B 2 (.int .i64 (bnd m s.th)))
      have e3 : (w3.setCell ⟨B, 2, none⟩ (.int .i64 (bnd m s.th))).drew = w3.drew.setCell ⟨B, 2, none⟩ (.int .i64 (bnd m s.th)) := rfl
      rw [← e3] at h4 ht4
      clear e3 hb h0 h1 k1 k2 hHeld hbw h3 ht3
      generalize (w3.setCell ⟨B, 2, none⟩ (.int .i64 (bnd m s.th))).drew = w4 at *
      have h5 := (h4.set6 false).set7 0
      have ht5 := (ht4.trans (turn_set _ B 6 (.bool false))).trans (turn_set _ B 7 (.int .i64 0))
      obtain ⟨⟨-, -, -, -, -, -, c6, c7⟩, -, -, -, -, -, -, f6, f7⟩ := h4.b.eight
      go_wp2
      go_ret
      rw [HB.out, HE.out]
      exact ⟨rfl, h5, ht5⟩
end Go.Proofs.Ytkkinnbmlghniaa
