/- Same. -/
import Derived.Test.YtkkinnbmlghniaaPb
namespace Go.Proofs.Ytkkinnbmlghniaa
open Go.RowKit
set_option maxRecDepth 100000
set_option linter.unusedVariables false
set_option linter.unusedSimpArgs false


def sa1 (s : Vs) : Int := min (s.sa + 1) 1048576
def sameE (m f nx : Int) (s : Vs) : Vs := if s.me = true then { s with sa := sa1 s, wi := bnd m (s.wi + m) } else if sa1 s = 3 then ⟨bnd m (halfV m f + 3 * m), halfV m f, sa1 s, s.ga, true, nx % 4294967296⟩ else { s with sa := sa1 s }
def sameB (s : Vs) : Bool := !s.me && decide (sa1 s = 3)
theorem sameE_fine {m f nx : Int} {s : Vs} (h : s.Fine m) : (sameE m f nx s).Fine m := by
  have ⟨m0, m1, w0, w1, t0, t1, s0, s1, g0, g1, u0, u1⟩ := h
  have h1 : 0 ≤ sa1 s ∧ sa1 s ≤ 1048576 := by unfold sa1; omega
  have h2 := halfV_ok (f := f) m0 m1
  have h3 := fun n => bnd_ok (n := n) m1
  unfold sameE
  split
  · exact ⟨m0, m1, (h3 _).1, (h3 _).2, t0, t1, h1.1, h1.2, g0, g1, u0, u1⟩
  · split
    · exact ⟨m0, m1, (h3 _).1, (h3 _).2, h2.1, h2.2, h1.1, h1.2, g0, g1, by show 0 ≤ nx % 4294967296; omega, by show nx % 4294967296 ≤ 4294967295; omega⟩
    · exact ⟨m0, m1, w0, w1, t0, t1, h1.1, h1.2, g0, g1, u0, u1⟩
theorem same_any {B L G : Nat} {m : Int} {s : Vs} {w : World} (f nx : Int) (h : VY w B L G m s) (hf : s.Fine m) :
    Calls Try.prog 13 #[.pointer (some ⟨B, 0, none⟩), .int .i64 f, .int .i64 nx] w fun e w' => e = .returned (.bool (sameB s)) ∧ VY w' B L G m (sameE m f nx s) ∧ Turn (fun k => k = B) w w' := by
  have hFi := hf
  obtain ⟨m0, m1, w0, w1, t0, t1, s0, s1, g0, g1, u0, u1⟩ := hf
  obtain ⟨h0a, h0b⟩ := halfV_ok (f := f) m0 m1
  have hsa : min (s.sa + 1) 1048576 = sa1 s := rfl
  have h1 := h.set4 (sa1 s)
  have ht1 := turn_set w B 4 (.int .i64 (sa1 s))
  obtain ⟨⟨-, -, -, -, c4, -⟩, -, -, -, -, f4, -⟩ := h.b.eight
  obtain ⟨⟨-, -, -, -, d4, -, d6, -⟩, -⟩ := h1.b.eight
  have hF1 : ({ s with sa := sa1 s } : Vs).Fine m := ⟨m0, m1, w0, w1, t0, t1, by show 0 ≤ sa1 s; unfold sa1; omega, by show sa1 s ≤ 1048576; unfold sa1; omega, g0, g1, u0, u1⟩
  cases hme : s.me with
  | true =>
    have HB : Hid (sameB s = false) := by show _ = _; unfold sameB; rw [hme]; rfl
    have HE : Hid (sameE m f nx s = { s with sa := sa1 s, wi := bnd m (s.wi + m) }) := if_pos hme
    have hw2 : IntKind.i64.wrap (s.wi + m) = s.wi + m := by rw [IntKind.wrap_i64] <;> omega
    rw [← hsa] at h1 ht1 d4 d6 HE
    rw [hme] at d6
    clear hsa hme
    go_enter Try.func13, Try.ntmps13
    go_upto_region 3 with fail
    clear c4 f4 d4 d6 h
    generalize w.setCell ⟨B, 4, none⟩ (.int .i64 (min (s.sa + 1) 1048576)) = w1 at *
    have hb := fun W hW => bound_any (n := s.wi + m) (w := W) (h1.l.later hW) (h1.g.later hW)
    have h0 : w1.drew.cell? ⟨B, 0, none⟩ = some (.int .i64 m) := (h1.b.2 0 _ rfl).1
    have hb1 : w1.drew.cell? ⟨B, 1, none⟩ = some (.func (.func 28) #[] #[.pointer (some ⟨L, 0, none⟩), .pointer (some ⟨G, 0, none⟩)]) := (h1.b.2 1 _ rfl).1
    have k1 : w1.drew.cell? ⟨B, 2, none⟩ = some (.int .i64 s.wi) := (h1.b.2 2 _ rfl).1
    have k2 : w1.drew.frozen? ⟨B, 2, none⟩ = false := (h1.b.2 2 _ rfl).2
    have hbw : Below w1.heap.size w1 w1.drew := (Below.refl _ _).drew
    refine wp_region_held_drew (S := (fun W => W.cell? ⟨B, 0, none⟩ = some (.int .i64 m) ∧ W.cell? ⟨B, 1, none⟩ = some (.func (.func 28) #[] #[.pointer (some ⟨L, 0, none⟩), .pointer (some ⟨G, 0, none⟩)]))) (by kernel_rfl) ?_ (fun hHeld => ?_)
    · first | exact ⟨h0, hb1⟩ | assumption
    refine wpAnyH_take (i := 0) (oi := ({ dst := some 20, op := Go.Op.move (Go.Operand.tmp 0), type := 23, pos := "cong.go:63", after := #[], guard := none } : Go.Oper)) (v := .pointer (some ⟨B, 0, none⟩)) rfl (by kernel_rfl) (by kernel_rfl) (by kernel_rfl) (fun _ _ _ h => h) (Or.inl ⟨by rfl, ?_⟩) (by assumption) ?_
    · intro wx hSw
      try dsimp only at hSw
      obtain ⟨u0, u1⟩ := hSw
      go_simp
      try with_reducible rfl
    try simp only [Act.put, List.setIfInBounds_toArray, List.set_cons_zero, List.set_cons_succ]
    refine wpAnyH_take (i := 1) (oi := ({ dst := some 21, op := Go.Op.move (Go.Operand.tmp 0), type := 23, pos := "cong.go:63", after := #[], guard := none } : Go.Oper)) (v := .pointer (some ⟨B, 0, none⟩)) rfl (by kernel_rfl) (by kernel_rfl) (by kernel_rfl) (fun _ _ _ h => h) (Or.inl ⟨by rfl, ?_⟩) (by assumption) ?_
    · intro wx hSw
      try dsimp only at hSw
      obtain ⟨u0, u1⟩ := hSw
      go_simp
      try with_reducible rfl
    try simp only [Act.put, List.setIfInBounds_toArray, List.set_cons_zero, List.set_cons_succ]
    refine wpAnyH_take (i := 2) (oi := ({ dst := some 22, op := Go.Op.nilCheck (Go.Operand.tmp 21), type := 0, pos := "cong.go:63", after := #[{ on := 1, ground := Go.Ground.data }], guard := none } : Go.Oper)) (v := .pointer (some ⟨B, 0, none⟩)) rfl (by kernel_rfl) (by kernel_rfl) (by kernel_rfl) (fun _ _ _ h => h) (Or.inl ⟨by rfl, ?_⟩) (by assumption) ?_
    · intro wx hSw
      try dsimp only at hSw
      obtain ⟨u0, u1⟩ := hSw
      go_simp
      try with_reducible rfl
    try simp only [Act.put, List.setIfInBounds_toArray, List.set_cons_zero, List.set_cons_succ]
    refine wpAnyH_take (i := 3) (oi := ({ dst := some 23, op := Go.Op.fieldAddr 49 (Go.Operand.tmp 22) 1, type := 0, pos := "cong.go:63", after := #[{ on := 2, ground := Go.Ground.data }], guard := none } : Go.Oper)) (v := .pointer (some ⟨B, 1, none⟩)) rfl (by kernel_rfl) (by kernel_rfl) (by kernel_rfl) (fun _ _ _ h => h) (Or.inl ⟨by rfl, ?_⟩) (by assumption) ?_
    · intro wx hSw
      try dsimp only at hSw
      obtain ⟨u0, u1⟩ := hSw
      go_simp
      try with_reducible rfl
    try simp only [Act.put, List.setIfInBounds_toArray, List.set_cons_zero, List.set_cons_succ]
    refine wpAnyH_take (i := 4) (oi := ({ dst := some 24, op := Go.Op.load 46 (Go.Operand.tmp 23), type := 46, pos := "cong.go:63", after := #[{ on := 3, ground := Go.Ground.data }], guard := none } : Go.Oper)) (v := .func (.func 28) #[] #[.pointer (some ⟨L, 0, none⟩), .pointer (some ⟨G, 0, none⟩)]) rfl (by kernel_rfl) (by kernel_rfl) (by kernel_rfl) (fun _ _ _ h => h) (Or.inl ⟨by rfl, ?_⟩) (by assumption) ?_
    · intro wx hSw
      try dsimp only at hSw
      obtain ⟨u0, u1⟩ := hSw
      go_simp
      try with_reducible rfl
    try simp only [Act.put, List.setIfInBounds_toArray, List.set_cons_zero, List.set_cons_succ]
    refine wpAnyH_take (i := 5) (oi := ({ dst := some 25, op := Go.Op.move (Go.Operand.tmp 0), type := 23, pos := "cong.go:63", after := #[], guard := none } : Go.Oper)) (v := .pointer (some ⟨B, 0, none⟩)) rfl (by kernel_rfl) (by kernel_rfl) (by kernel_rfl) (fun _ _ _ h => h) (Or.inl ⟨by rfl, ?_⟩) (by assumption) ?_
    · intro wx hSw
      try dsimp only at hSw
      obtain ⟨u0, u1⟩ := hSw
      go_simp
      try with_reducible rfl
    try simp only [Act.put, List.setIfInBounds_toArray, List.set_cons_zero, List.set_cons_succ]
    refine wpAnyH_take (i := 6) (oi := ({ dst := some 26, op := Go.Op.nilCheck (Go.Operand.tmp 25), type := 0, pos := "cong.go:63", after := #[{ on := 5, ground := Go.Ground.data }], guard := none } : Go.Oper)) (v := .pointer (some ⟨B, 0, none⟩)) rfl (by kernel_rfl) (by kernel_rfl) (by kernel_rfl) (fun _ _ _ h => h) (Or.inl ⟨by rfl, ?_⟩) (by assumption) ?_
    · intro wx hSw
      try dsimp only at hSw
      obtain ⟨u0, u1⟩ := hSw
      go_simp
      try with_reducible rfl
    try simp only [Act.put, List.setIfInBounds_toArray, List.set_cons_zero, List.set_cons_succ]
    refine wpAnyH_take (i := 7) (oi := ({ dst := some 27, op := Go.Op.fieldAddr 49 (Go.Operand.tmp 26) 2, type := 0, pos := "cong.go:63", after := #[{ on := 6, ground := Go.Ground.data }], guard := none } : Go.Oper)) (v := .pointer (some ⟨B, 2, none⟩)) rfl (by kernel_rfl) (by kernel_rfl) (by kernel_rfl) (fun _ _ _ h => h) (Or.inl ⟨by rfl, ?_⟩) (by assumption) ?_
    · intro wx hSw
      try dsimp only at hSw
      obtain ⟨u0, u1⟩ := hSw
      go_simp
      try with_reducible rfl
    try simp only [Act.put, List.setIfInBounds_toArray, List.set_cons_zero, List.set_cons_succ]
    refine wpAnyH_take (i := 9) (oi := ({ dst := some 29, op := Go.Op.move (Go.Operand.tmp 0), type := 23, pos := "cong.go:63", after := #[], guard := none } : Go.Oper)) (v := .pointer (some ⟨B, 0, none⟩)) rfl (by kernel_rfl) (by kernel_rfl) (by kernel_rfl) (fun _ _ _ h => h) (Or.inl ⟨by rfl, ?_⟩) (by assumption) ?_
    · intro wx hSw
      try dsimp only at hSw
      obtain ⟨u0, u1⟩ := hSw
      go_simp
      try with_reducible rfl
    try simp only [Act.put, List.setIfInBounds_toArray, List.set_cons_zero, List.set_cons_succ]
    refine wpAnyH_take (i := 10) (oi := ({ dst := some 30, op := Go.Op.nilCheck (Go.Operand.tmp 29), type := 0, pos := "cong.go:63", after := #[{ on := 9, ground := Go.Ground.data }], guard := none } : Go.Oper)) (v := .pointer (some ⟨B, 0, none⟩)) rfl (by kernel_rfl) (by kernel_rfl) (by kernel_rfl) (fun _ _ _ h => h) (Or.inl ⟨by rfl, ?_⟩) (by assumption) ?_
    · intro wx hSw
      try dsimp only at hSw
      obtain ⟨u0, u1⟩ := hSw
      go_simp
      try with_reducible rfl
    try simp only [Act.put, List.setIfInBounds_toArray, List.set_cons_zero, List.set_cons_succ]
    refine wpAnyH_take (i := 11) (oi := ({ dst := some 31, op := Go.Op.fieldAddr 49 (Go.Operand.tmp 30) 0, type := 0, pos := "cong.go:63", after := #[{ on := 10, ground := Go.Ground.data }], guard := none } : Go.Oper)) (v := .pointer (some ⟨B, 0, none⟩)) rfl (by kernel_rfl) (by kernel_rfl) (by kernel_rfl) (fun _ _ _ h => h) (Or.inl ⟨by rfl, ?_⟩) (by assumption) ?_
    · intro wx hSw
      try dsimp only at hSw
      obtain ⟨u0, u1⟩ := hSw
      go_simp
      try with_reducible rfl
    try simp only [Act.put, List.setIfInBounds_toArray, List.set_cons_zero, List.set_cons_succ]
    refine wpAnyH_take (i := 12) (oi := ({ dst := some 32, op := Go.Op.load 3 (Go.Operand.tmp 31), type := 3, pos := "cong.go:63", after := #[{ on := 11, ground := Go.Ground.data }], guard := none } : Go.Oper)) (v := .int .i64 m) rfl (by kernel_rfl) (by kernel_rfl) (by kernel_rfl) (fun _ _ _ h => h) (Or.inl ⟨by rfl, ?_⟩) (by assumption) ?_
    · intro wx hSw
      try dsimp only at hSw
      obtain ⟨u0, u1⟩ := hSw
      go_simp
      try with_reducible rfl
    try simp only [Act.put, List.setIfInBounds_toArray, List.set_cons_zero, List.set_cons_succ]
    refine wpAnyH_ready (rs := [8]) (by kernel_rfl) (by simp) ?_
    refine AllReadyH.cons (o := ({ dst := some 28, op := Go.Op.load 3 (Go.Operand.tmp 27), type := 3, pos := "cong.go:63", after := #[{ on := 7, ground := Go.Ground.data }], guard := none } : Go.Oper)) rfl (fun K hK => ?_) AllReadyH.nil
    go_simp
    refine hK.out _ _ hHeld (fun hHeld => ?_)
    clear hK K
    try simp only [Act.put, List.setIfInBounds_toArray, List.set_cons_zero, List.set_cons_succ]
    refine wpAnyH_take (i := 13) (oi := ({ dst := some 33, op := Go.Op.binOp Go.BinOp.add 3 (Go.Operand.tmp 28) (Go.Operand.tmp 32) 3, type := 3, pos := "cong.go:63", after := #[{ on := 8, ground := Go.Ground.data }, { on := 12, ground := Go.Ground.data }], guard := none } : Go.Oper)) (v := .int .i64 (s.wi + m)) rfl (by kernel_rfl) (by kernel_rfl) (by kernel_rfl) (fun _ _ _ h => h) (Or.inl ⟨by rfl, ?_⟩) (by assumption) ?_
    · intro wx hSw
      try dsimp only at hSw
      obtain ⟨u0, u1⟩ := hSw
      go_simp
      try with_reducible rfl
    try simp only [Act.put, List.setIfInBounds_toArray, List.set_cons_zero, List.set_cons_succ]
    refine wpAnyH_ready (rs := [14]) (by kernel_rfl) (by simp) ?_
    refine AllReadyH.cons (o := ({ dst := some 34, op := Go.Op.call { callee := Go.Callee.value (Go.Operand.tmp 24), args := #[Go.Operand.tmp 33], argTypes := #[3] }, type := 3, pos := "cong.go:63", after := #[{ on := 4, ground := Go.Ground.data }, { on := 13, ground := Go.Ground.data }], guard := none } : Go.Oper)) rfl (fun K hK => ?_) AllReadyH.nil
    go_simp
    refine (hb _ hbw).mono ?_
    rintro e wk ⟨rfl, rfl⟩
    refine hK.out _ _ hHeld (fun hHeld => ?_)
    clear hK K
    try simp only [Act.put, List.setIfInBounds_toArray, List.set_cons_zero, List.set_cons_succ]
    refine wpAnyH_take (i := 15) (oi := ({ dst := some 35, op := Go.Op.nilCheck (Go.Operand.tmp 20), type := 0, pos := "cong.go:63", after := #[{ on := 0, ground := Go.Ground.data }, { on := 0, ground := Go.Ground.phase }, { on := 1, ground := Go.Ground.phase }, { on := 2, ground := Go.Ground.phase }, { on := 3, ground := Go.Ground.phase }, { on := 4, ground := Go.Ground.phase }, { on := 5, ground := Go.Ground.phase }, { on := 6, ground := Go.Ground.phase }, { on := 7, ground := Go.Ground.phase }, { on := 8, ground := Go.Ground.phase }, { on := 9, ground := Go.Ground.phase }, { on := 10, ground := Go.Ground.phase }, { on := 11, ground := Go.Ground.phase }, { on := 12, ground := Go.Ground.phase }, { on := 13, ground := Go.Ground.phase }, { on := 14, ground := Go.Ground.phase }], guard := none } : Go.Oper)) (v := .pointer (some ⟨B, 0, none⟩)) rfl (by kernel_rfl) (by kernel_rfl) (by kernel_rfl) (fun _ _ _ h => h) (Or.inl ⟨by rfl, ?_⟩) (by assumption) ?_
    · intro wx hSw
      try dsimp only at hSw
      obtain ⟨u0, u1⟩ := hSw
      go_simp
      try with_reducible rfl
    try simp only [Act.put, List.setIfInBounds_toArray, List.set_cons_zero, List.set_cons_succ]
    refine wpAnyH_take (i := 16) (oi := ({ dst := some 36, op := Go.Op.fieldAddr 49 (Go.Operand.tmp 35) 2, type := 0, pos := "cong.go:63", after := #[{ on := 15, ground := Go.Ground.data }, { on := 0, ground := Go.Ground.phase }, { on := 1, ground := Go.Ground.phase }, { on := 2, ground := Go.Ground.phase }, { on := 3, ground := Go.Ground.phase }, { on := 4, ground := Go.Ground.phase }, { on := 5, ground := Go.Ground.phase }, { on := 6, ground := Go.Ground.phase }, { on := 7, ground := Go.Ground.phase }, { on := 8, ground := Go.Ground.phase }, { on := 9, ground := Go.Ground.phase }, { on := 10, ground := Go.Ground.phase }, { on := 11, ground := Go.Ground.phase }, { on := 12, ground := Go.Ground.phase }, { on := 13, ground := Go.Ground.phase }, { on := 14, ground := Go.Ground.phase }], guard := none } : Go.Oper)) (v := .pointer (some ⟨B, 2, none⟩)) rfl (by kernel_rfl) (by kernel_rfl) (by kernel_rfl) (fun _ _ _ h => h) (Or.inl ⟨by rfl, ?_⟩) (by assumption) ?_
    · intro wx hSw
      try dsimp only at hSw
      obtain ⟨u0, u1⟩ := hSw
      go_simp
      try with_reducible rfl
    try simp only [Act.put, List.setIfInBounds_toArray, List.set_cons_zero, List.set_cons_succ]
    refine wpAnyH_ready (rs := [17]) (by kernel_rfl) (by simp) ?_
    refine AllReadyH.cons (o := ({ dst := none, op := Go.Op.store 3 (Go.Operand.tmp 36) (Go.Operand.tmp 34), type := 0, pos := "cong.go:63", after := #[{ on := 16, ground := Go.Ground.data }, { on := 14, ground := Go.Ground.data }, { on := 14, ground := Go.Ground.chain }, { on := 0, ground := Go.Ground.phase }, { on := 1, ground := Go.Ground.phase }, { on := 2, ground := Go.Ground.phase }, { on := 3, ground := Go.Ground.phase }, { on := 4, ground := Go.Ground.phase }, { on := 5, ground := Go.Ground.phase }, { on := 6, ground := Go.Ground.phase }, { on := 7, ground := Go.Ground.phase }, { on := 8, ground := Go.Ground.phase }, { on := 9, ground := Go.Ground.phase }, { on := 10, ground := Go.Ground.phase }, { on := 11, ground := Go.Ground.phase }, { on := 12, ground := Go.Ground.phase }, { on := 13, ground := Go.Ground.phase }, { on := 14, ground := Go.Ground.phase }], guard := none } : Go.Oper)) rfl (fun K hK => ?_) AllReadyH.nil
    go_simp
    refine hK.out _ _ ⟨((h1.set2 _).b.2 0 _ rfl).1, ((h1.set2 _).b.2 1 _ rfl).1⟩ (fun hHeld => ?_)
    clear hK K
    try simp only [Act.put, List.setIfInBounds_toArray, List.set_cons_zero, List.set_cons_succ]
    refine wpAnyH_done (by kernel_rfl) ?_ _
    go_wp2
    go_ret
    rw [HB.out, HE.out]
    exact ⟨rfl, (h1.later hbw).set2 _, (ht1.drew).trans (turn_set _ _ _ _)⟩
  | false =>
    by_cases h3 : sa1 s = 3
    · have HB : Hid (sameB s = true) := by show _ = _; unfold sameB; rw [hme, decide_eq_true h3]; rfl
      have HE : Hid (sameE m f nx s = ⟨bnd m (halfV m f + 3 * m), halfV m f, sa1 s, s.ga, true, nx % 4294967296⟩) := by
        show _ = _
        unfold sameE
        rw [hme, if_neg (by decide), if_pos h3]
      have hw2 : IntKind.i64.wrap (halfV m f + 3 * m) = halfV m f + 3 * m := by rw [IntKind.wrap_i64] <;> omega
      have hw3 : IntKind.i64.wrap (3 * m) = 3 * m := by rw [IntKind.wrap_i64] <;> omega
      have hs3 : min (s.sa + 1) 1048576 = 3 := h3
      rw [h3] at h1 ht1 d4 d6 HE hF1
      rw [hme] at d6
      have HM : Hid (s.me = false) := hme
      clear hsa hme h3
      go_enter Try.func13, Try.ntmps13
      go_upto_region 7 with fail
      clear c4 f4 d4 d6 h
      generalize w.setCell ⟨B, 4, none⟩ (.int .i64 3) = w1 at *
      go_wp2_with fail
      refine (halve_any f h1 hF1).mono ?_
      rintro e w2 ⟨rfl, h2, ht⟩
      have ht2 := ht1.trans ht
      clear h1 ht1 ht
      generalize halfV m f = hv at *
      go_upto_region 8 with fail
      have hb := fun W hW => bound_any (n := hv + 3 * m) (w := W) (h2.l.later hW) (h2.g.later hW)
      have h0 : w2.drew.cell? ⟨B, 0, none⟩ = some (.int .i64 m) := (h2.b.2 0 _ rfl).1
      have hb1 : w2.drew.cell? ⟨B, 1, none⟩ = some (.func (.func 28) #[] #[.pointer (some ⟨L, 0, none⟩), .pointer (some ⟨G, 0, none⟩)]) := (h2.b.2 1 _ rfl).1
      have hb3 : w2.drew.cell? ⟨B, 3, none⟩ = some (.int .i64 hv) := (h2.b.2 3 _ rfl).1
      have k1 : w2.drew.cell? ⟨B, 2, none⟩ = some (.int .i64 s.wi) := (h2.b.2 2 _ rfl).1
      have k2 : w2.drew.frozen? ⟨B, 2, none⟩ = false := (h2.b.2 2 _ rfl).2
      have hbw : Below w2.heap.size w2 w2.drew := (Below.refl _ _).drew
      refine wp_region_held_drew (S := (fun W => W.cell? ⟨B, 0, none⟩ = some (.int .i64 m) ∧ W.cell? ⟨B, 1, none⟩ = some (.func (.func 28) #[] #[.pointer (some ⟨L, 0, none⟩), .pointer (some ⟨G, 0, none⟩)]) ∧ W.cell? ⟨B, 3, none⟩ = some (.int .i64 hv))) (by kernel_rfl) ?_ (fun hHeld => ?_)
      · first | exact ⟨h0, hb1, hb3⟩ | assumption
      refine wpAnyH_take (i := 0) (oi := ({ dst := some 45, op := Go.Op.move (Go.Operand.tmp 0), type := 23, pos := "cong.go:70", after := #[], guard := none } : Go.Oper)) (v := .pointer (some ⟨B, 0, none⟩)) rfl (by kernel_rfl) (by kernel_rfl) (by kernel_rfl) (fun _ _ _ h => h) (Or.inl ⟨by rfl, ?_⟩) (by assumption) ?_
      · intro wx hSw
        try dsimp only at hSw
        obtain ⟨u0, u1, u3⟩ := hSw
        go_simp
        try with_reducible rfl
      try simp only [Act.put, List.setIfInBounds_toArray, List.set_cons_zero, List.set_cons_succ]
      refine wpAnyH_take (i := 1) (oi := ({ dst := some 46, op := Go.Op.move (Go.Operand.tmp 0), type := 23, pos := "cong.go:70", after := #[], guard := none } : Go.Oper)) (v := .pointer (some ⟨B, 0, none⟩)) rfl (by kernel_rfl) (by kernel_rfl) (by kernel_rfl) (fun _ _ _ h => h) (Or.inl ⟨by rfl, ?_⟩) (by assumption) ?_
      · intro wx hSw
        try dsimp only at hSw
        obtain ⟨u0, u1, u3⟩ := hSw
        go_simp
        try with_reducible rfl
      try simp only [Act.put, List.setIfInBounds_toArray, List.set_cons_zero, List.set_cons_succ]
      refine wpAnyH_take (i := 2) (oi := ({ dst := some 47, op := Go.Op.nilCheck (Go.Operand.tmp 46), type := 0, pos := "cong.go:70", after := #[{ on := 1, ground := Go.Ground.data }], guard := none } : Go.Oper)) (v := .pointer (some ⟨B, 0, none⟩)) rfl (by kernel_rfl) (by kernel_rfl) (by kernel_rfl) (fun _ _ _ h => h) (Or.inl ⟨by rfl, ?_⟩) (by assumption) ?_
      · intro wx hSw
        try dsimp only at hSw
        obtain ⟨u0, u1, u3⟩ := hSw
        go_simp
        try with_reducible rfl
      try simp only [Act.put, List.setIfInBounds_toArray, List.set_cons_zero, List.set_cons_succ]
      refine wpAnyH_take (i := 3) (oi := ({ dst := some 48, op := Go.Op.fieldAddr 49 (Go.Operand.tmp 47) 1, type := 0, pos := "cong.go:70", after := #[{ on := 2, ground := Go.Ground.data }], guard := none } : Go.Oper)) (v := .pointer (some ⟨B, 1, none⟩)) rfl (by kernel_rfl) (by kernel_rfl) (by kernel_rfl) (fun _ _ _ h => h) (Or.inl ⟨by rfl, ?_⟩) (by assumption) ?_
      · intro wx hSw
        try dsimp only at hSw
        obtain ⟨u0, u1, u3⟩ := hSw
        go_simp
        try with_reducible rfl
      try simp only [Act.put, List.setIfInBounds_toArray, List.set_cons_zero, List.set_cons_succ]
      refine wpAnyH_take (i := 4) (oi := ({ dst := some 49, op := Go.Op.load 46 (Go.Operand.tmp 48), type := 46, pos := "cong.go:70", after := #[{ on := 3, ground := Go.Ground.data }], guard := none } : Go.Oper)) (v := .func (.func 28) #[] #[.pointer (some ⟨L, 0, none⟩), .pointer (some ⟨G, 0, none⟩)]) rfl (by kernel_rfl) (by kernel_rfl) (by kernel_rfl) (fun _ _ _ h => h) (Or.inl ⟨by rfl, ?_⟩) (by assumption) ?_
      · intro wx hSw
        try dsimp only at hSw
        obtain ⟨u0, u1, u3⟩ := hSw
        go_simp
        try with_reducible rfl
      try simp only [Act.put, List.setIfInBounds_toArray, List.set_cons_zero, List.set_cons_succ]
      refine wpAnyH_take (i := 5) (oi := ({ dst := some 50, op := Go.Op.move (Go.Operand.tmp 0), type := 23, pos := "cong.go:70", after := #[], guard := none } : Go.Oper)) (v := .pointer (some ⟨B, 0, none⟩)) rfl (by kernel_rfl) (by kernel_rfl) (by kernel_rfl) (fun _ _ _ h => h) (Or.inl ⟨by rfl, ?_⟩) (by assumption) ?_
      · intro wx hSw
        try dsimp only at hSw
        obtain ⟨u0, u1, u3⟩ := hSw
        go_simp
        try with_reducible rfl
      try simp only [Act.put, List.setIfInBounds_toArray, List.set_cons_zero, List.set_cons_succ]
      refine wpAnyH_take (i := 6) (oi := ({ dst := some 51, op := Go.Op.nilCheck (Go.Operand.tmp 50), type := 0, pos := "cong.go:70", after := #[{ on := 5, ground := Go.Ground.data }], guard := none } : Go.Oper)) (v := .pointer (some ⟨B, 0, none⟩)) rfl (by kernel_rfl) (by kernel_rfl) (by kernel_rfl) (fun _ _ _ h => h) (Or.inl ⟨by rfl, ?_⟩) (by assumption) ?_
      · intro wx hSw
        try dsimp only at hSw
        obtain ⟨u0, u1, u3⟩ := hSw
        go_simp
        try with_reducible rfl
      try simp only [Act.put, List.setIfInBounds_toArray, List.set_cons_zero, List.set_cons_succ]
      refine wpAnyH_take (i := 7) (oi := ({ dst := some 52, op := Go.Op.fieldAddr 49 (Go.Operand.tmp 51) 3, type := 0, pos := "cong.go:70", after := #[{ on := 6, ground := Go.Ground.data }], guard := none } : Go.Oper)) (v := .pointer (some ⟨B, 3, none⟩)) rfl (by kernel_rfl) (by kernel_rfl) (by kernel_rfl) (fun _ _ _ h => h) (Or.inl ⟨by rfl, ?_⟩) (by assumption) ?_
      · intro wx hSw
        try dsimp only at hSw
        obtain ⟨u0, u1, u3⟩ := hSw
        go_simp
        try with_reducible rfl
      try simp only [Act.put, List.setIfInBounds_toArray, List.set_cons_zero, List.set_cons_succ]
      refine wpAnyH_take (i := 8) (oi := ({ dst := some 53, op := Go.Op.load 3 (Go.Operand.tmp 52), type := 3, pos := "cong.go:70", after := #[{ on := 7, ground := Go.Ground.data }], guard := none } : Go.Oper)) (v := .int .i64 hv) rfl (by kernel_rfl) (by kernel_rfl) (by kernel_rfl) (fun _ _ _ h => h) (Or.inl ⟨by rfl, ?_⟩) (by assumption) ?_
      · intro wx hSw
        try dsimp only at hSw
        obtain ⟨u0, u1, u3⟩ := hSw
        go_simp
        try with_reducible rfl
      try simp only [Act.put, List.setIfInBounds_toArray, List.set_cons_zero, List.set_cons_succ]
      refine wpAnyH_take (i := 9) (oi := ({ dst := some 54, op := Go.Op.move (Go.Operand.tmp 0), type := 23, pos := "cong.go:70", after := #[], guard := none } : Go.Oper)) (v := .pointer (some ⟨B, 0, none⟩)) rfl (by kernel_rfl) (by kernel_rfl) (by kernel_rfl) (fun _ _ _ h => h) (Or.inl ⟨by rfl, ?_⟩) (by assumption) ?_
      · intro wx hSw
        try dsimp only at hSw
        obtain ⟨u0, u1, u3⟩ := hSw
        go_simp
        try with_reducible rfl
      try simp only [Act.put, List.setIfInBounds_toArray, List.set_cons_zero, List.set_cons_succ]
      refine wpAnyH_take (i := 10) (oi := ({ dst := some 55, op := Go.Op.nilCheck (Go.Operand.tmp 54), type := 0, pos := "cong.go:70", after := #[{ on := 9, ground := Go.Ground.data }], guard := none } : Go.Oper)) (v := .pointer (some ⟨B, 0, none⟩)) rfl (by kernel_rfl) (by kernel_rfl) (by kernel_rfl) (fun _ _ _ h => h) (Or.inl ⟨by rfl, ?_⟩) (by assumption) ?_
      · intro wx hSw
        try dsimp only at hSw
        obtain ⟨u0, u1, u3⟩ := hSw
        go_simp
        try with_reducible rfl
      try simp only [Act.put, List.setIfInBounds_toArray, List.set_cons_zero, List.set_cons_succ]
      refine wpAnyH_take (i := 11) (oi := ({ dst := some 56, op := Go.Op.fieldAddr 49 (Go.Operand.tmp 55) 0, type := 0, pos := "cong.go:70", after := #[{ on := 10, ground := Go.Ground.data }], guard := none } : Go.Oper)) (v := .pointer (some ⟨B, 0, none⟩)) rfl (by kernel_rfl) (by kernel_rfl) (by kernel_rfl) (fun _ _ _ h => h) (Or.inl ⟨by rfl, ?_⟩) (by assumption) ?_
      · intro wx hSw
        try dsimp only at hSw
        obtain ⟨u0, u1, u3⟩ := hSw
        go_simp
        try with_reducible rfl
      try simp only [Act.put, List.setIfInBounds_toArray, List.set_cons_zero, List.set_cons_succ]
      refine wpAnyH_take (i := 12) (oi := ({ dst := some 57, op := Go.Op.load 3 (Go.Operand.tmp 56), type := 3, pos := "cong.go:70", after := #[{ on := 11, ground := Go.Ground.data }], guard := none } : Go.Oper)) (v := .int .i64 m) rfl (by kernel_rfl) (by kernel_rfl) (by kernel_rfl) (fun _ _ _ h => h) (Or.inl ⟨by rfl, ?_⟩) (by assumption) ?_
      · intro wx hSw
        try dsimp only at hSw
        obtain ⟨u0, u1, u3⟩ := hSw
        go_simp
        try with_reducible rfl
      try simp only [Act.put, List.setIfInBounds_toArray, List.set_cons_zero, List.set_cons_succ]
      refine wpAnyH_take (i := 13) (oi := ({ dst := some 58, op := Go.Op.binOp Go.BinOp.mul 3 (Go.Operand.const (Go.Value.int Go.IntKind.i64 3)) (Go.Operand.tmp 57) 3, type := 3, pos := "cong.go:70", after := #[{ on := 12, ground := Go.Ground.data }], guard := none } : Go.Oper)) (v := .int .i64 (3 * m)) rfl (by kernel_rfl) (by kernel_rfl) (by kernel_rfl) (fun _ _ _ h => h) (Or.inl ⟨by rfl, ?_⟩) (by assumption) ?_
      · intro wx hSw
        try dsimp only at hSw
        obtain ⟨u0, u1, u3⟩ := hSw
        go_simp
        try with_reducible rfl
      try simp only [Act.put, List.setIfInBounds_toArray, List.set_cons_zero, List.set_cons_succ]
      refine wpAnyH_take (i := 14) (oi := ({ dst := some 59, op := Go.Op.binOp Go.BinOp.add 3 (Go.Operand.tmp 53) (Go.Operand.tmp 58) 3, type := 3, pos := "cong.go:70", after := #[{ on := 8, ground := Go.Ground.data }, { on := 13, ground := Go.Ground.data }], guard := none } : Go.Oper)) (v := .int .i64 (hv + 3 * m)) rfl (by kernel_rfl) (by kernel_rfl) (by kernel_rfl) (fun _ _ _ h => h) (Or.inl ⟨by rfl, ?_⟩) (by assumption) ?_
      · intro wx hSw
        try dsimp only at hSw
        obtain ⟨u0, u1, u3⟩ := hSw
        go_simp
        try with_reducible rfl
      try simp only [Act.put, List.setIfInBounds_toArray, List.set_cons_zero, List.set_cons_succ]
      refine wpAnyH_ready (rs := [15]) (by kernel_rfl) (by simp) ?_
      refine AllReadyH.cons (o := ({ dst := some 60, op := Go.Op.call { callee := Go.Callee.value (Go.Operand.tmp 49), args := #[Go.Operand.tmp 59], argTypes := #[3] }, type := 3, pos := "cong.go:70", after := #[{ on := 4, ground := Go.Ground.data }, { on := 14, ground := Go.Ground.data }], guard := none } : Go.Oper)) rfl (fun K hK => ?_) AllReadyH.nil
      go_simp
      refine (hb _ hbw).mono ?_
      rintro e wk ⟨rfl, rfl⟩
      refine hK.out _ _ hHeld (fun hHeld => ?_)
      clear hK K
      try simp only [Act.put, List.setIfInBounds_toArray, List.set_cons_zero, List.set_cons_succ]
      refine wpAnyH_take (i := 16) (oi := ({ dst := some 61, op := Go.Op.nilCheck (Go.Operand.tmp 45), type := 0, pos := "cong.go:70", after := #[{ on := 0, ground := Go.Ground.data }, { on := 0, ground := Go.Ground.phase }, { on := 1, ground := Go.Ground.phase }, { on := 2, ground := Go.Ground.phase }, { on := 3, ground := Go.Ground.phase }, { on := 4, ground := Go.Ground.phase }, { on := 5, ground := Go.Ground.phase }, { on := 6, ground := Go.Ground.phase }, { on := 7, ground := Go.Ground.phase }, { on := 8, ground := Go.Ground.phase }, { on := 9, ground := Go.Ground.phase }, { on := 10, ground := Go.Ground.phase }, { on := 11, ground := Go.Ground.phase }, { on := 12, ground := Go.Ground.phase }, { on := 13, ground := Go.Ground.phase }, { on := 14, ground := Go.Ground.phase }, { on := 15, ground := Go.Ground.phase }], guard := none } : Go.Oper)) (v := .pointer (some ⟨B, 0, none⟩)) rfl (by kernel_rfl) (by kernel_rfl) (by kernel_rfl) (fun _ _ _ h => h) (Or.inl ⟨by rfl, ?_⟩) (by assumption) ?_
      · intro wx hSw
        try dsimp only at hSw
        obtain ⟨u0, u1, u3⟩ := hSw
        go_simp
        try with_reducible rfl
      try simp only [Act.put, List.setIfInBounds_toArray, List.set_cons_zero, List.set_cons_succ]
      refine wpAnyH_take (i := 17) (oi := ({ dst := some 62, op := Go.Op.fieldAddr 49 (Go.Operand.tmp 61) 2, type := 0, pos := "cong.go:70", after := #[{ on := 16, ground := Go.Ground.data }, { on := 0, ground := Go.Ground.phase }, { on := 1, ground := Go.Ground.phase }, { on := 2, ground := Go.Ground.phase }, { on := 3, ground := Go.Ground.phase }, { on := 4, ground := Go.Ground.phase }, { on := 5, ground := Go.Ground.phase }, { on := 6, ground := Go.Ground.phase }, { on := 7, ground := Go.Ground.phase }, { on := 8, ground := Go.Ground.phase }, { on := 9, ground := Go.Ground.phase }, { on := 10, ground := Go.Ground.phase }, { on := 11, ground := Go.Ground.phase }, { on := 12, ground := Go.Ground.phase }, { on := 13, ground := Go.Ground.phase }, { on := 14, ground := Go.Ground.phase }, { on := 15, ground := Go.Ground.phase }], guard := none } : Go.Oper)) (v := .pointer (some ⟨B, 2, none⟩)) rfl (by kernel_rfl) (by kernel_rfl) (by kernel_rfl) (fun _ _ _ h => h) (Or.inl ⟨by rfl, ?_⟩) (by assumption) ?_
      · intro wx hSw
        try dsimp only at hSw
        obtain ⟨u0, u1, u3⟩ := hSw
        go_simp
        try with_reducible rfl
      try simp only [Act.put, List.setIfInBounds_toArray, List.set_cons_zero, List.set_cons_succ]
      refine wpAnyH_ready (rs := [18]) (by kernel_rfl) (by simp) ?_
      refine AllReadyH.cons (o := ({ dst := none, op := Go.Op.store 3 (Go.Operand.tmp 62) (Go.Operand.tmp 60), type := 0, pos := "cong.go:70", after := #[{ on := 17, ground := Go.Ground.data }, { on := 15, ground := Go.Ground.data }, { on := 15, ground := Go.Ground.chain }, { on := 0, ground := Go.Ground.phase }, { on := 1, ground := Go.Ground.phase }, { on := 2, ground := Go.Ground.phase }, { on := 3, ground := Go.Ground.phase }, { on := 4, ground := Go.Ground.phase }, { on := 5, ground := Go.Ground.phase }, { on := 6, ground := Go.Ground.phase }, { on := 7, ground := Go.Ground.phase }, { on := 8, ground := Go.Ground.phase }, { on := 9, ground := Go.Ground.phase }, { on := 10, ground := Go.Ground.phase }, { on := 11, ground := Go.Ground.phase }, { on := 12, ground := Go.Ground.phase }, { on := 13, ground := Go.Ground.phase }, { on := 14, ground := Go.Ground.phase }, { on := 15, ground := Go.Ground.phase }], guard := none } : Go.Oper)) rfl (fun K hK => ?_) AllReadyH.nil
      go_simp
      refine hK.out _ _ ⟨((h2.set2 _).b.2 0 _ rfl).1, ((h2.set2 _).b.2 1 _ rfl).1, ((h2.set2 _).b.2 3 _ rfl).1⟩ (fun hHeld => ?_)
      clear hK K
      try simp only [Act.put, List.setIfInBounds_toArray, List.set_cons_zero, List.set_cons_succ]
      refine wpAnyH_done (by kernel_rfl) ?_ _
      have h3 := (h2.later hbw).set2 (bnd m (hv + 3 * m))
      have ht3 := (ht2.drew).trans (turn_set w2.drew B 2 (.int .i64 (bnd m (hv + 3 * m))))
      have e3 : (w2.setCell ⟨B, 2, none⟩ (.int .i64 (bnd m (hv + 3 * m)))).drew = w2.drew.setCell ⟨B, 2, none⟩ (.int .i64 (bnd m (hv + 3 * m))) := rfl
      rw [← e3] at h3 ht3
      clear e3 hb h0 hb1 hb3 k1 k2 hHeld hbw h2 ht2
      generalize (w2.setCell ⟨B, 2, none⟩ (.int .i64 (bnd m (hv + 3 * m)))).drew = w3 at *
      have hn := number_any nx w3
      have h5 := (h3.set6 true).set7 (nx % 4294967296)
      have ht5 := (ht3.trans (turn_set _ B 6 (.bool true))).trans (turn_set _ B 7 (.int .i64 (nx % 4294967296)))
      obtain ⟨⟨-, -, -, -, -, -, c6, c7⟩, -, -, -, -, -, -, f6, f7⟩ := h3.b.eight
      go_wp2_with fail
      refine hn.mono ?_
      rintro e w4 ⟨rfl, rfl⟩
      go_wp2
      go_ret
      rw [HB.out, HE.out]
      exact ⟨rfl, h5, ht5⟩
    · have HB : Hid (sameB s = false) := by show _ = _; unfold sameB; rw [hme, decide_eq_false h3]; rfl
      have HE : Hid (sameE m f nx s = { s with sa := sa1 s }) := by
        show _ = _
        unfold sameE
        rw [hme, if_neg (by decide), if_neg h3]
      have h3' : (min (s.sa + 1) 1048576 != 3) = true := by rw [bne_iff_ne]; exact h3
      rw [← hsa] at h1 d4 d6 HE ht1
      rw [hme] at d6
      clear hsa hme h3
      go_enter Try.func13, Try.ntmps13
      go_wp2
      go_ret
      rw [HB.out, HE.out]
      exact ⟨rfl, h1, ht1⟩
end Go.Proofs.Ytkkinnbmlghniaa
