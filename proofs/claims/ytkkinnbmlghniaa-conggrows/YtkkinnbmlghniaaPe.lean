/- Late. -/
import Derived.Test.YtkkinnbmlghniaaPb
namespace Go.Proofs.Ytkkinnbmlghniaa
open Go.RowKit
set_option maxRecDepth 100000
set_option linter.unusedVariables false
set_option linter.unusedSimpArgs false


def lateV (m f : Int) : Vs := ⟨m, halfV m f, 0, 0, false, 0⟩
theorem lateV_fine {m f : Int} (m0 : 1 ≤ m) (m1 : m ≤ 1460) : (lateV m f).Fine m := by
  have := halfV_ok (f := f) m0 m1
  refine ⟨m0, m1, ?_, ?_, ?_, ?_, ?_, ?_, ?_, ?_, ?_, ?_⟩ <;> simp only [lateV] <;> omega
theorem late_any {B L G : Nat} {m : Int} {s : Vs} {w : World} (f : Int) (h : VY w B L G m s) (hf : s.Fine m) :
    Calls Try.prog 12 #[.pointer (some ⟨B, 0, none⟩), .int .i64 f] w fun e w' => e = .returned (.tuple #[]) ∧ VY w' B L G m (lateV m f) ∧ Turn (fun k => k = B) w w' := by
  have m0 := hf.m0
  have m1 := hf.m1
  have hbm : bnd m m = m := by unfold bnd; omega
  go_enter Try.func12, Try.ntmps12
  go_wp2_with fail
  refine (halve_any f h hf).mono ?_
  rintro e w1 ⟨rfl, h2, ht⟩
  clear h
  go_upto_region 1 with fail
  have hb := fun W hW => bound_any (n := m) (w := W) (h2.l.later hW) (h2.g.later hW)
  rw [hbm] at hb
  have h0 : w1.drew.cell? ⟨B, 0, none⟩ = some (.int .i64 m) := (h2.b.2 0 _ rfl).1
  have h1 : w1.drew.cell? ⟨B, 1, none⟩ = some (.func (.func 28) #[] #[.pointer (some ⟨L, 0, none⟩), .pointer (some ⟨G, 0, none⟩)]) := (h2.b.2 1 _ rfl).1
  have k1 : w1.drew.cell? ⟨B, 2, none⟩ = some (.int .i64 s.wi) := (h2.b.2 2 _ rfl).1
  have k2 : w1.drew.frozen? ⟨B, 2, none⟩ = false := (h2.b.2 2 _ rfl).2
  have hbw : Below w1.heap.size w1 w1.drew := (Below.refl _ _).drew
  refine wp_region_held_drew (S := (fun W => W.cell? ⟨B, 0, none⟩ = some (.int .i64 m) ∧ W.cell? ⟨B, 1, none⟩ = some (.func (.func 28) #[] #[.pointer (some ⟨L, 0, none⟩), .pointer (some ⟨G, 0, none⟩)]))) (by kernel_rfl) ?_ (fun hHeld => ?_)
  · first | exact ⟨h0, h1⟩ | assumption
  refine wpAnyH_take (i := 0) (oi := ({ dst := some 7, op := Go.Op.move (Go.Operand.tmp 0), type := 23, pos := "cong.go:78", after := #[], guard := none } : Go.Oper)) (v := .pointer (some ⟨B, 0, none⟩)) rfl (by kernel_rfl) (by kernel_rfl) (by kernel_rfl) (fun _ _ _ h => h) (Or.inl ⟨by rfl, ?_⟩) (by assumption) ?_
  · intro wx hSw
    try dsimp only at hSw
    obtain ⟨u0, u1⟩ := hSw
    go_simp
    try with_reducible rfl
  try simp only [Act.put, List.setIfInBounds_toArray, List.set_cons_zero, List.set_cons_succ]
  refine wpAnyH_take (i := 1) (oi := ({ dst := some 8, op := Go.Op.move (Go.Operand.tmp 0), type := 23, pos := "cong.go:78", after := #[], guard := none } : Go.Oper)) (v := .pointer (some ⟨B, 0, none⟩)) rfl (by kernel_rfl) (by kernel_rfl) (by kernel_rfl) (fun _ _ _ h => h) (Or.inl ⟨by rfl, ?_⟩) (by assumption) ?_
  · intro wx hSw
    try dsimp only at hSw
    obtain ⟨u0, u1⟩ := hSw
    go_simp
    try with_reducible rfl
  try simp only [Act.put, List.setIfInBounds_toArray, List.set_cons_zero, List.set_cons_succ]
  refine wpAnyH_take (i := 2) (oi := ({ dst := some 9, op := Go.Op.nilCheck (Go.Operand.tmp 8), type := 0, pos := "cong.go:78", after := #[{ on := 1, ground := Go.Ground.data }], guard := none } : Go.Oper)) (v := .pointer (some ⟨B, 0, none⟩)) rfl (by kernel_rfl) (by kernel_rfl) (by kernel_rfl) (fun _ _ _ h => h) (Or.inl ⟨by rfl, ?_⟩) (by assumption) ?_
  · intro wx hSw
    try dsimp only at hSw
    obtain ⟨u0, u1⟩ := hSw
    go_simp
    try with_reducible rfl
  try simp only [Act.put, List.setIfInBounds_toArray, List.set_cons_zero, List.set_cons_succ]
  refine wpAnyH_take (i := 3) (oi := ({ dst := some 10, op := Go.Op.fieldAddr 49 (Go.Operand.tmp 9) 1, type := 0, pos := "cong.go:78", after := #[{ on := 2, ground := Go.Ground.data }], guard := none } : Go.Oper)) (v := .pointer (some ⟨B, 1, none⟩)) rfl (by kernel_rfl) (by kernel_rfl) (by kernel_rfl) (fun _ _ _ h => h) (Or.inl ⟨by rfl, ?_⟩) (by assumption) ?_
  · intro wx hSw
    try dsimp only at hSw
    obtain ⟨u0, u1⟩ := hSw
    go_simp
    try with_reducible rfl
  try simp only [Act.put, List.setIfInBounds_toArray, List.set_cons_zero, List.set_cons_succ]
  refine wpAnyH_take (i := 4) (oi := ({ dst := some 11, op := Go.Op.load 46 (Go.Operand.tmp 10), type := 46, pos := "cong.go:78", after := #[{ on := 3, ground := Go.Ground.data }], guard := none } : Go.Oper)) (v := .func (.func 28) #[] #[.pointer (some ⟨L, 0, none⟩), .pointer (some ⟨G, 0, none⟩)]) rfl (by kernel_rfl) (by kernel_rfl) (by kernel_rfl) (fun _ _ _ h => h) (Or.inl ⟨by rfl, ?_⟩) (by assumption) ?_
  · intro wx hSw
    try dsimp only at hSw
    obtain ⟨u0, u1⟩ := hSw
    go_simp
    try with_reducible rfl
  try simp only [Act.put, List.setIfInBounds_toArray, List.set_cons_zero, List.set_cons_succ]
  refine wpAnyH_take (i := 5) (oi := ({ dst := some 12, op := Go.Op.move (Go.Operand.tmp 0), type := 23, pos := "cong.go:78", after := #[], guard := none } : Go.Oper)) (v := .pointer (some ⟨B, 0, none⟩)) rfl (by kernel_rfl) (by kernel_rfl) (by kernel_rfl) (fun _ _ _ h => h) (Or.inl ⟨by rfl, ?_⟩) (by assumption) ?_
  · intro wx hSw
    try dsimp only at hSw
    obtain ⟨u0, u1⟩ := hSw
    go_simp
    try with_reducible rfl
  try simp only [Act.put, List.setIfInBounds_toArray, List.set_cons_zero, List.set_cons_succ]
  refine wpAnyH_take (i := 6) (oi := ({ dst := some 13, op := Go.Op.nilCheck (Go.Operand.tmp 12), type := 0, pos := "cong.go:78", after := #[{ on := 5, ground := Go.Ground.data }], guard := none } : Go.Oper)) (v := .pointer (some ⟨B, 0, none⟩)) rfl (by kernel_rfl) (by kernel_rfl) (by kernel_rfl) (fun _ _ _ h => h) (Or.inl ⟨by rfl, ?_⟩) (by assumption) ?_
  · intro wx hSw
    try dsimp only at hSw
    obtain ⟨u0, u1⟩ := hSw
    go_simp
    try with_reducible rfl
  try simp only [Act.put, List.setIfInBounds_toArray, List.set_cons_zero, List.set_cons_succ]
  refine wpAnyH_take (i := 7) (oi := ({ dst := some 14, op := Go.Op.fieldAddr 49 (Go.Operand.tmp 13) 0, type := 0, pos := "cong.go:78", after := #[{ on := 6, ground := Go.Ground.data }], guard := none } : Go.Oper)) (v := .pointer (some ⟨B, 0, none⟩)) rfl (by kernel_rfl) (by kernel_rfl) (by kernel_rfl) (fun _ _ _ h => h) (Or.inl ⟨by rfl, ?_⟩) (by assumption) ?_
  · intro wx hSw
    try dsimp only at hSw
    obtain ⟨u0, u1⟩ := hSw
    go_simp
    try with_reducible rfl
  try simp only [Act.put, List.setIfInBounds_toArray, List.set_cons_zero, List.set_cons_succ]
  refine wpAnyH_take (i := 8) (oi := ({ dst := some 15, op := Go.Op.load 3 (Go.Operand.tmp 14), type := 3, pos := "cong.go:78", after := #[{ on := 7, ground := Go.Ground.data }], guard := none } : Go.Oper)) (v := .int .i64 m) rfl (by kernel_rfl) (by kernel_rfl) (by kernel_rfl) (fun _ _ _ h => h) (Or.inl ⟨by rfl, ?_⟩) (by assumption) ?_
  · intro wx hSw
    try dsimp only at hSw
    obtain ⟨u0, u1⟩ := hSw
    go_simp
    try with_reducible rfl
  try simp only [Act.put, List.setIfInBounds_toArray, List.set_cons_zero, List.set_cons_succ]
  refine wpAnyH_ready (rs := [9]) (by kernel_rfl) (by simp) ?_
  refine AllReadyH.cons (o := ({ dst := some 16, op := Go.Op.call { callee := Go.Callee.value (Go.Operand.tmp 11), args := #[Go.Operand.tmp 15], argTypes := #[3] }, type := 3, pos := "cong.go:78", after := #[{ on := 4, ground := Go.Ground.data }, { on := 8, ground := Go.Ground.data }], guard := none } : Go.Oper)) rfl (fun K hK => ?_) AllReadyH.nil
  go_simp
  refine (hb _ hbw).mono ?_
  rintro e wk ⟨rfl, rfl⟩
  refine hK.out _ _ hHeld (fun hHeld => ?_)
  clear hK K
  try simp only [Act.put, List.setIfInBounds_toArray, List.set_cons_zero, List.set_cons_succ]
  refine wpAnyH_take (i := 10) (oi := ({ dst := some 17, op := Go.Op.nilCheck (Go.Operand.tmp 7), type := 0, pos := "cong.go:78", after := #[{ on := 0, ground := Go.Ground.data }, { on := 0, ground := Go.Ground.phase }, { on := 1, ground := Go.Ground.phase }, { on := 2, ground := Go.Ground.phase }, { on := 3, ground := Go.Ground.phase }, { on := 4, ground := Go.Ground.phase }, { on := 5, ground := Go.Ground.phase }, { on := 6, ground := Go.Ground.phase }, { on := 7, ground := Go.Ground.phase }, { on := 8, ground := Go.Ground.phase }, { on := 9, ground := Go.Ground.phase }], guard := none } : Go.Oper)) (v := .pointer (some ⟨B, 0, none⟩)) rfl (by kernel_rfl) (by kernel_rfl) (by kernel_rfl) (fun _ _ _ h => h) (Or.inl ⟨by rfl, ?_⟩) (by assumption) ?_
  · intro wx hSw
    try dsimp only at hSw
    obtain ⟨u0, u1⟩ := hSw
    go_simp
    try with_reducible rfl
  try simp only [Act.put, List.setIfInBounds_toArray, List.set_cons_zero, List.set_cons_succ]
  refine wpAnyH_take (i := 11) (oi := ({ dst := some 18, op := Go.Op.fieldAddr 49 (Go.Operand.tmp 17) 2, type := 0, pos := "cong.go:78", after := #[{ on := 10, ground := Go.Ground.data }, { on := 0, ground := Go.Ground.phase }, { on := 1, ground := Go.Ground.phase }, { on := 2, ground := Go.Ground.phase }, { on := 3, ground := Go.Ground.phase }, { on := 4, ground := Go.Ground.phase }, { on := 5, ground := Go.Ground.phase }, { on := 6, ground := Go.Ground.phase }, { on := 7, ground := Go.Ground.phase }, { on := 8, ground := Go.Ground.phase }, { on := 9, ground := Go.Ground.phase }], guard := none } : Go.Oper)) (v := .pointer (some ⟨B, 2, none⟩)) rfl (by kernel_rfl) (by kernel_rfl) (by kernel_rfl) (fun _ _ _ h => h) (Or.inl ⟨by rfl, ?_⟩) (by assumption) ?_
  · intro wx hSw
    try dsimp only at hSw
    obtain ⟨u0, u1⟩ := hSw
    go_simp
    try with_reducible rfl
  try simp only [Act.put, List.setIfInBounds_toArray, List.set_cons_zero, List.set_cons_succ]
  refine wpAnyH_ready (rs := [12]) (by kernel_rfl) (by simp) ?_
  refine AllReadyH.cons (o := ({ dst := none, op := Go.Op.store 3 (Go.Operand.tmp 18) (Go.Operand.tmp 16), type := 0, pos := "cong.go:78", after := #[{ on := 11, ground := Go.Ground.data }, { on := 9, ground := Go.Ground.data }, { on := 9, ground := Go.Ground.chain }, { on := 0, ground := Go.Ground.phase }, { on := 1, ground := Go.Ground.phase }, { on := 2, ground := Go.Ground.phase }, { on := 3, ground := Go.Ground.phase }, { on := 4, ground := Go.Ground.phase }, { on := 5, ground := Go.Ground.phase }, { on := 6, ground := Go.Ground.phase }, { on := 7, ground := Go.Ground.phase }, { on := 8, ground := Go.Ground.phase }, { on := 9, ground := Go.Ground.phase }], guard := none } : Go.Oper)) rfl (fun K hK => ?_) AllReadyH.nil
  go_simp
  refine hK.out _ _ ⟨((h2.set2 _).b.2 0 _ rfl).1, ((h2.set2 _).b.2 1 _ rfl).1⟩ (fun hHeld => ?_)
  clear hK K
  try simp only [Act.put, List.setIfInBounds_toArray, List.set_cons_zero, List.set_cons_succ]
  refine wpAnyH_done (by kernel_rfl) ?_ _
  have h3 := (h2.later hbw).set2 m
  have ht3 := (ht.drew).trans (turn_set w1.drew B 2 (.int .i64 m))
  have e3 : (w1.setCell ⟨B, 2, none⟩ (.int .i64 m)).drew = w1.drew.setCell ⟨B, 2, none⟩ (.int .i64 m) := rfl
  rw [← e3] at h3 ht3
  clear e3 hb h0 h1 k1 k2 hHeld hbw h2 ht
  generalize (w1.setCell ⟨B, 2, none⟩ (.int .i64 m)).drew = w1 at *
  have h4 := (h3.set4 0).set5 0
  have ht4 := (ht3.trans (turn_set w1 B 4 (.int .i64 0))).trans (turn_set _ B 5 (.int .i64 0))
  have h5 := (h4.set6 false).set7 0
  have ht5 := (ht4.trans (turn_set _ B 6 (.bool false))).trans (turn_set _ B 7 (.int .i64 0))
  obtain ⟨⟨-, -, -, -, c4, c5, c6, c7⟩, -, -, -, -, f4, f5, f6, f7⟩ := h3.b.eight
  go_wp2
  go_end0
  exact ⟨rfl, h5, ht5⟩
end Go.Proofs.Ytkkinnbmlghniaa
