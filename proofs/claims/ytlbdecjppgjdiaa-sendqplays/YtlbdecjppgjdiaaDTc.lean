/- The document's Fork, Write. -/
import Derived.Test.YtlbdecjppgjdiaaDTb
namespace Go.Proofs.Ytlbdecjppgjdiaa
open Go.RowKit Go.Maps Go.Lib
set_option maxRecDepth 100000
set_option linter.unusedVariables false
set_option linter.unusedSimpArgs false


theorem GRd.later {w w' : World} {v : Value} {G : List Bool} (h : GRd w v G) (hb : Below w.heap.size w w') : GRd w' v G := by
  obtain ⟨a, c, h1, h2, h3⟩ := h
  refine ⟨a, c, h1, h2, fun j b hj => ?_⟩
  obtain ⟨x, hx, hc⟩ := h3 j b hj
  exact ⟨x, hx, Go.Proofs.Ytlbdecjppgjdiaa.later hb hc⟩
set_option maxHeartbeats 1000000 in
theorem rfork_any {w : World} {R : Bk} {r : Nat} {Q : Ru} {vg : Value} (h : RX w R r Q vg) (hf : Q.Fine) :
    Calls Try.prog 12 #[PR r] w fun e w' => ∃ r' vg', e = .returned (PR r') ∧ w.heap.size ≤ r' ∧ RX w' (fun k => w.heap.size ≤ k) r' Q vg' ∧ Below w.heap.size w w' := by
  obtain ⟨⟨c0, c1, c2, c3, c4⟩, -⟩ := h.at5.five
  have hgl : Q.G.length ≤ 100000 := by have := hf.gl; have := hf.ln; have := hf.r1; omega
  have hbd : Below w.heap.size w (w.drew.alloc (.cells #[] 4)) := ((Below.refl _ w).drew).alloc (Nat.le_refl _) _
  obtain ⟨v', w', hrun, hgo, hb, -⟩ := clone_run (w := w.drew) (h.go.rd.later hbd) hgl 43
  have hb' : Below w.heap.size w w' := ⟨hb.os, hb.tape, hb.output, hb.size, hb.block⟩
  have hd0 : ∀ W, Below w.heap.size w W → W.cell? ⟨r, 0, none⟩ = some (.int .i64 Q.left) := fun W hW => later hW c0
  have hd1 : ∀ W, Below w.heap.size w W → W.cell? ⟨r, 1, none⟩ = some (.int .i64 (Q.sent : Int)) := fun W hW => later hW c1
  have hd2 : ∀ W, Below w.heap.size w W → W.cell? ⟨r, 2, none⟩ = some (.int .i64 Q.room) := fun W hW => later hW c2
  have hd3 : ∀ W, Below w.heap.size w W → W.cell? ⟨r, 3, none⟩ = some (.string (strB Q.bs)) := fun W hW => later hW c3
  have hd4 : ∀ W, Below w.heap.size w W → W.cell? ⟨r, 4, none⟩ = some vg := fun W hW => later hW c4
  obtain ⟨a5, b5, e5, -⟩ := hgo.shape
  subst e5
  have HGO : Hid (GO w' (fun k => w.heap.size ≤ k) (.slice a5 Q.G.length b5) Q.G) := hgo
  obtain ⟨a4, b4, e4, -⟩ := h.go.shape
  subst e4
  clear h hf c0 c1 c2 c3 c4 hgo hb
  go_enter Try.func12, Try.ntmps12
  go_upto_region 1 with fail
  refine wp_region_held_drew (S := (fun W => Below w.heap.size w W)) (by kernel_rfl) ?_ (fun hHeld => ?_)
  · first | exact (Below.refl _ _).drew | assumption
  refine wpAnyH_take (i := 0) (oi := ({ dst := some 3, op := Go.Op.move (Go.Operand.tmp 0), type := 27, pos := "ref.go:31", after := #[], guard := none } : Go.Oper)) (v := .pointer (some ⟨r, 0, none⟩)) rfl (by kernel_rfl) (by kernel_rfl) (by kernel_rfl) (fun _ _ _ h => h) (Or.inl ⟨by rfl, ?_⟩) (by assumption) ?_
  · intro wx hSw
    try dsimp only at hSw
    have u0 := hd0 wx hSw
    have u1 := hd1 wx hSw
    have u2 := hd2 wx hSw
    have u3 := hd3 wx hSw
    have u4 := hd4 wx hSw
    go_simp
    try with_reducible rfl
  try simp only [Act.put, List.setIfInBounds_toArray, List.set_cons_zero, List.set_cons_succ]
  refine wpAnyH_take (i := 1) (oi := ({ dst := some 4, op := Go.Op.nilCheck (Go.Operand.tmp 3), type := 0, pos := "ref.go:31", after := #[{ on := 0, ground := Go.Ground.data }], guard := none } : Go.Oper)) (v := .pointer (some ⟨r, 0, none⟩)) rfl (by kernel_rfl) (by kernel_rfl) (by kernel_rfl) (fun _ _ _ h => h) (Or.inl ⟨by rfl, ?_⟩) (by assumption) ?_
  · intro wx hSw
    try dsimp only at hSw
    have u0 := hd0 wx hSw
    have u1 := hd1 wx hSw
    have u2 := hd2 wx hSw
    have u3 := hd3 wx hSw
    have u4 := hd4 wx hSw
    go_simp
    try with_reducible rfl
  try simp only [Act.put, List.setIfInBounds_toArray, List.set_cons_zero, List.set_cons_succ]
  refine wpAnyH_take (i := 2) (oi := ({ dst := some 5, op := Go.Op.fieldAddr 45 (Go.Operand.tmp 4) 0, type := 0, pos := "ref.go:31", after := #[{ on := 1, ground := Go.Ground.data }], guard := none } : Go.Oper)) (v := .pointer (some ⟨r, 0, none⟩)) rfl (by kernel_rfl) (by kernel_rfl) (by kernel_rfl) (fun _ _ _ h => h) (Or.inl ⟨by rfl, ?_⟩) (by assumption) ?_
  · intro wx hSw
    try dsimp only at hSw
    have u0 := hd0 wx hSw
    have u1 := hd1 wx hSw
    have u2 := hd2 wx hSw
    have u3 := hd3 wx hSw
    have u4 := hd4 wx hSw
    go_simp
    try with_reducible rfl
  try simp only [Act.put, List.setIfInBounds_toArray, List.set_cons_zero, List.set_cons_succ]
  refine wpAnyH_take (i := 3) (oi := ({ dst := some 6, op := Go.Op.load 3 (Go.Operand.tmp 5), type := 3, pos := "ref.go:31", after := #[{ on := 2, ground := Go.Ground.data }], guard := none } : Go.Oper)) (v := .int .i64 Q.left) rfl (by kernel_rfl) (by kernel_rfl) (by kernel_rfl) (fun _ _ _ h => h) (Or.inl ⟨by rfl, ?_⟩) (by assumption) ?_
  · intro wx hSw
    try dsimp only at hSw
    have u0 := hd0 wx hSw
    have u1 := hd1 wx hSw
    have u2 := hd2 wx hSw
    have u3 := hd3 wx hSw
    have u4 := hd4 wx hSw
    go_simp
    try with_reducible rfl
  try simp only [Act.put, List.setIfInBounds_toArray, List.set_cons_zero, List.set_cons_succ]
  refine wpAnyH_take (i := 4) (oi := ({ dst := some 7, op := Go.Op.move (Go.Operand.tmp 0), type := 27, pos := "ref.go:31", after := #[], guard := none } : Go.Oper)) (v := .pointer (some ⟨r, 0, none⟩)) rfl (by kernel_rfl) (by kernel_rfl) (by kernel_rfl) (fun _ _ _ h => h) (Or.inl ⟨by rfl, ?_⟩) (by assumption) ?_
  · intro wx hSw
    try dsimp only at hSw
    have u0 := hd0 wx hSw
    have u1 := hd1 wx hSw
    have u2 := hd2 wx hSw
    have u3 := hd3 wx hSw
    have u4 := hd4 wx hSw
    go_simp
    try with_reducible rfl
  try simp only [Act.put, List.setIfInBounds_toArray, List.set_cons_zero, List.set_cons_succ]
  refine wpAnyH_take (i := 5) (oi := ({ dst := some 8, op := Go.Op.nilCheck (Go.Operand.tmp 7), type := 0, pos := "ref.go:31", after := #[{ on := 4, ground := Go.Ground.data }], guard := none } : Go.Oper)) (v := .pointer (some ⟨r, 0, none⟩)) rfl (by kernel_rfl) (by kernel_rfl) (by kernel_rfl) (fun _ _ _ h => h) (Or.inl ⟨by rfl, ?_⟩) (by assumption) ?_
  · intro wx hSw
    try dsimp only at hSw
    have u0 := hd0 wx hSw
    have u1 := hd1 wx hSw
    have u2 := hd2 wx hSw
    have u3 := hd3 wx hSw
    have u4 := hd4 wx hSw
    go_simp
    try with_reducible rfl
  try simp only [Act.put, List.setIfInBounds_toArray, List.set_cons_zero, List.set_cons_succ]
  refine wpAnyH_take (i := 6) (oi := ({ dst := some 9, op := Go.Op.fieldAddr 45 (Go.Operand.tmp 8) 1, type := 0, pos := "ref.go:31", after := #[{ on := 5, ground := Go.Ground.data }], guard := none } : Go.Oper)) (v := .pointer (some ⟨r, 1, none⟩)) rfl (by kernel_rfl) (by kernel_rfl) (by kernel_rfl) (fun _ _ _ h => h) (Or.inl ⟨by rfl, ?_⟩) (by assumption) ?_
  · intro wx hSw
    try dsimp only at hSw
    have u0 := hd0 wx hSw
    have u1 := hd1 wx hSw
    have u2 := hd2 wx hSw
    have u3 := hd3 wx hSw
    have u4 := hd4 wx hSw
    go_simp
    try with_reducible rfl
  try simp only [Act.put, List.setIfInBounds_toArray, List.set_cons_zero, List.set_cons_succ]
  refine wpAnyH_take (i := 7) (oi := ({ dst := some 10, op := Go.Op.load 3 (Go.Operand.tmp 9), type := 3, pos := "ref.go:31", after := #[{ on := 6, ground := Go.Ground.data }], guard := none } : Go.Oper)) (v := .int .i64 (Q.sent : Int)) rfl (by kernel_rfl) (by kernel_rfl) (by kernel_rfl) (fun _ _ _ h => h) (Or.inl ⟨by rfl, ?_⟩) (by assumption) ?_
  · intro wx hSw
    try dsimp only at hSw
    have u0 := hd0 wx hSw
    have u1 := hd1 wx hSw
    have u2 := hd2 wx hSw
    have u3 := hd3 wx hSw
    have u4 := hd4 wx hSw
    go_simp
    try with_reducible rfl
  try simp only [Act.put, List.setIfInBounds_toArray, List.set_cons_zero, List.set_cons_succ]
  refine wpAnyH_take (i := 8) (oi := ({ dst := some 11, op := Go.Op.move (Go.Operand.tmp 0), type := 27, pos := "ref.go:31", after := #[], guard := none } : Go.Oper)) (v := .pointer (some ⟨r, 0, none⟩)) rfl (by kernel_rfl) (by kernel_rfl) (by kernel_rfl) (fun _ _ _ h => h) (Or.inl ⟨by rfl, ?_⟩) (by assumption) ?_
  · intro wx hSw
    try dsimp only at hSw
    have u0 := hd0 wx hSw
    have u1 := hd1 wx hSw
    have u2 := hd2 wx hSw
    have u3 := hd3 wx hSw
    have u4 := hd4 wx hSw
    go_simp
    try with_reducible rfl
  try simp only [Act.put, List.setIfInBounds_toArray, List.set_cons_zero, List.set_cons_succ]
  refine wpAnyH_take (i := 9) (oi := ({ dst := some 12, op := Go.Op.nilCheck (Go.Operand.tmp 11), type := 0, pos := "ref.go:31", after := #[{ on := 8, ground := Go.Ground.data }], guard := none } : Go.Oper)) (v := .pointer (some ⟨r, 0, none⟩)) rfl (by kernel_rfl) (by kernel_rfl) (by kernel_rfl) (fun _ _ _ h => h) (Or.inl ⟨by rfl, ?_⟩) (by assumption) ?_
  · intro wx hSw
    try dsimp only at hSw
    have u0 := hd0 wx hSw
    have u1 := hd1 wx hSw
    have u2 := hd2 wx hSw
    have u3 := hd3 wx hSw
    have u4 := hd4 wx hSw
    go_simp
    try with_reducible rfl
  try simp only [Act.put, List.setIfInBounds_toArray, List.set_cons_zero, List.set_cons_succ]
  refine wpAnyH_take (i := 10) (oi := ({ dst := some 13, op := Go.Op.fieldAddr 45 (Go.Operand.tmp 12) 2, type := 0, pos := "ref.go:31", after := #[{ on := 9, ground := Go.Ground.data }], guard := none } : Go.Oper)) (v := .pointer (some ⟨r, 2, none⟩)) rfl (by kernel_rfl) (by kernel_rfl) (by kernel_rfl) (fun _ _ _ h => h) (Or.inl ⟨by rfl, ?_⟩) (by assumption) ?_
  · intro wx hSw
    try dsimp only at hSw
    have u0 := hd0 wx hSw
    have u1 := hd1 wx hSw
    have u2 := hd2 wx hSw
    have u3 := hd3 wx hSw
    have u4 := hd4 wx hSw
    go_simp
    try with_reducible rfl
  try simp only [Act.put, List.setIfInBounds_toArray, List.set_cons_zero, List.set_cons_succ]
  refine wpAnyH_take (i := 11) (oi := ({ dst := some 14, op := Go.Op.load 3 (Go.Operand.tmp 13), type := 3, pos := "ref.go:31", after := #[{ on := 10, ground := Go.Ground.data }], guard := none } : Go.Oper)) (v := .int .i64 Q.room) rfl (by kernel_rfl) (by kernel_rfl) (by kernel_rfl) (fun _ _ _ h => h) (Or.inl ⟨by rfl, ?_⟩) (by assumption) ?_
  · intro wx hSw
    try dsimp only at hSw
    have u0 := hd0 wx hSw
    have u1 := hd1 wx hSw
    have u2 := hd2 wx hSw
    have u3 := hd3 wx hSw
    have u4 := hd4 wx hSw
    go_simp
    try with_reducible rfl
  try simp only [Act.put, List.setIfInBounds_toArray, List.set_cons_zero, List.set_cons_succ]
  refine wpAnyH_take (i := 12) (oi := ({ dst := some 15, op := Go.Op.move (Go.Operand.tmp 0), type := 27, pos := "ref.go:31", after := #[], guard := none } : Go.Oper)) (v := .pointer (some ⟨r, 0, none⟩)) rfl (by kernel_rfl) (by kernel_rfl) (by kernel_rfl) (fun _ _ _ h => h) (Or.inl ⟨by rfl, ?_⟩) (by assumption) ?_
  · intro wx hSw
    try dsimp only at hSw
    have u0 := hd0 wx hSw
    have u1 := hd1 wx hSw
    have u2 := hd2 wx hSw
    have u3 := hd3 wx hSw
    have u4 := hd4 wx hSw
    go_simp
    try with_reducible rfl
  try simp only [Act.put, List.setIfInBounds_toArray, List.set_cons_zero, List.set_cons_succ]
  refine wpAnyH_take (i := 13) (oi := ({ dst := some 16, op := Go.Op.nilCheck (Go.Operand.tmp 15), type := 0, pos := "ref.go:31", after := #[{ on := 12, ground := Go.Ground.data }], guard := none } : Go.Oper)) (v := .pointer (some ⟨r, 0, none⟩)) rfl (by kernel_rfl) (by kernel_rfl) (by kernel_rfl) (fun _ _ _ h => h) (Or.inl ⟨by rfl, ?_⟩) (by assumption) ?_
  · intro wx hSw
    try dsimp only at hSw
    have u0 := hd0 wx hSw
    have u1 := hd1 wx hSw
    have u2 := hd2 wx hSw
    have u3 := hd3 wx hSw
    have u4 := hd4 wx hSw
    go_simp
    try with_reducible rfl
  try simp only [Act.put, List.setIfInBounds_toArray, List.set_cons_zero, List.set_cons_succ]
  refine wpAnyH_take (i := 14) (oi := ({ dst := some 17, op := Go.Op.fieldAddr 45 (Go.Operand.tmp 16) 3, type := 0, pos := "ref.go:31", after := #[{ on := 13, ground := Go.Ground.data }], guard := none } : Go.Oper)) (v := .pointer (some ⟨r, 3, none⟩)) rfl (by kernel_rfl) (by kernel_rfl) (by kernel_rfl) (fun _ _ _ h => h) (Or.inl ⟨by rfl, ?_⟩) (by assumption) ?_
  · intro wx hSw
    try dsimp only at hSw
    have u0 := hd0 wx hSw
    have u1 := hd1 wx hSw
    have u2 := hd2 wx hSw
    have u3 := hd3 wx hSw
    have u4 := hd4 wx hSw
    go_simp
    try with_reducible rfl
  try simp only [Act.put, List.setIfInBounds_toArray, List.set_cons_zero, List.set_cons_succ]
  refine wpAnyH_take (i := 15) (oi := ({ dst := some 18, op := Go.Op.load 9 (Go.Operand.tmp 17), type := 9, pos := "ref.go:31", after := #[{ on := 14, ground := Go.Ground.data }], guard := none } : Go.Oper)) (v := .string (strB Q.bs)) rfl (by kernel_rfl) (by kernel_rfl) (by kernel_rfl) (fun _ _ _ h => h) (Or.inl ⟨by rfl, ?_⟩) (by assumption) ?_
  · intro wx hSw
    try dsimp only at hSw
    have u0 := hd0 wx hSw
    have u1 := hd1 wx hSw
    have u2 := hd2 wx hSw
    have u3 := hd3 wx hSw
    have u4 := hd4 wx hSw
    go_simp
    try with_reducible rfl
  try simp only [Act.put, List.setIfInBounds_toArray, List.set_cons_zero, List.set_cons_succ]
  refine wpAnyH_take (i := 17) (oi := ({ dst := some 20, op := Go.Op.move (Go.Operand.tmp 0), type := 27, pos := "ref.go:31", after := #[], guard := none } : Go.Oper)) (v := .pointer (some ⟨r, 0, none⟩)) rfl (by kernel_rfl) (by kernel_rfl) (by kernel_rfl) (fun _ _ _ h => h) (Or.inl ⟨by rfl, ?_⟩) (by assumption) ?_
  · intro wx hSw
    try dsimp only at hSw
    have u0 := hd0 wx hSw
    have u1 := hd1 wx hSw
    have u2 := hd2 wx hSw
    have u3 := hd3 wx hSw
    have u4 := hd4 wx hSw
    go_simp
    try with_reducible rfl
  try simp only [Act.put, List.setIfInBounds_toArray, List.set_cons_zero, List.set_cons_succ]
  refine wpAnyH_take (i := 18) (oi := ({ dst := some 21, op := Go.Op.nilCheck (Go.Operand.tmp 20), type := 0, pos := "ref.go:31", after := #[{ on := 17, ground := Go.Ground.data }], guard := none } : Go.Oper)) (v := .pointer (some ⟨r, 0, none⟩)) rfl (by kernel_rfl) (by kernel_rfl) (by kernel_rfl) (fun _ _ _ h => h) (Or.inl ⟨by rfl, ?_⟩) (by assumption) ?_
  · intro wx hSw
    try dsimp only at hSw
    have u0 := hd0 wx hSw
    have u1 := hd1 wx hSw
    have u2 := hd2 wx hSw
    have u3 := hd3 wx hSw
    have u4 := hd4 wx hSw
    go_simp
    try with_reducible rfl
  try simp only [Act.put, List.setIfInBounds_toArray, List.set_cons_zero, List.set_cons_succ]
  refine wpAnyH_take (i := 19) (oi := ({ dst := some 22, op := Go.Op.fieldAddr 45 (Go.Operand.tmp 21) 4, type := 0, pos := "ref.go:31", after := #[{ on := 18, ground := Go.Ground.data }], guard := none } : Go.Oper)) (v := .pointer (some ⟨r, 4, none⟩)) rfl (by kernel_rfl) (by kernel_rfl) (by kernel_rfl) (fun _ _ _ h => h) (Or.inl ⟨by rfl, ?_⟩) (by assumption) ?_
  · intro wx hSw
    try dsimp only at hSw
    have u0 := hd0 wx hSw
    have u1 := hd1 wx hSw
    have u2 := hd2 wx hSw
    have u3 := hd3 wx hSw
    have u4 := hd4 wx hSw
    go_simp
    try with_reducible rfl
  try simp only [Act.put, List.setIfInBounds_toArray, List.set_cons_zero, List.set_cons_succ]
  refine wpAnyH_take (i := 20) (oi := ({ dst := some 23, op := Go.Op.load 43 (Go.Operand.tmp 22), type := 43, pos := "ref.go:31", after := #[{ on := 19, ground := Go.Ground.data }], guard := none } : Go.Oper)) (v := .slice a4 Q.G.length b4) rfl (by kernel_rfl) (by kernel_rfl) (by kernel_rfl) (fun _ _ _ h => h) (Or.inl ⟨by rfl, ?_⟩) (by assumption) ?_
  · intro wx hSw
    try dsimp only at hSw
    have u0 := hd0 wx hSw
    have u1 := hd1 wx hSw
    have u2 := hd2 wx hSw
    have u3 := hd3 wx hSw
    have u4 := hd4 wx hSw
    go_simp
    try with_reducible rfl
  try simp only [Act.put, List.setIfInBounds_toArray, List.set_cons_zero, List.set_cons_succ]
  refine wpAnyH_ready (rs := [16]) (by kernel_rfl) (by simp) ?_
  refine AllReadyH.cons (o := ({ dst := some 19, op := Go.Op.buildSlice 43 0 #[], type := 43, pos := "ref.go:31", after := #[], guard := none } : Go.Oper)) rfl (fun K hK => ?_) AllReadyH.nil
  go_simp
  refine hK.out _ _ hbd (fun hHeld => ?_)
  clear hK K
  try simp only [Act.put, List.setIfInBounds_toArray, List.set_cons_zero, List.set_cons_succ]
  refine wpAnyH_ready (rs := [21]) (by kernel_rfl) (by simp) ?_
  refine AllReadyH.cons (o := ({ dst := some 24, op := Go.Op.call { callee := Go.Callee.builtin Go.Builtin.append, args := #[Go.Operand.tmp 19, Go.Operand.tmp 23], argTypes := #[43, 43] }, type := 43, pos := "ref.go:31", after := #[{ on := 16, ground := Go.Ground.data }, { on := 20, ground := Go.Ground.data }], guard := none } : Go.Oper)) rfl (fun K hK => ?_) AllReadyH.nil
  refine step_append_str (by rfl) _ _ (by rfl) (by rfl) (by rfl) hrun ?_
  refine hK.out _ _ hb' (fun hHeld => ?_)
  clear hK K
  try simp only [Act.put, List.setIfInBounds_toArray, List.set_cons_zero, List.set_cons_succ]
  refine wpAnyH_take (i := 22) (oi := ({ dst := some 25, op := Go.Op.build 45 #[(0, Go.Operand.tmp 6), (1, Go.Operand.tmp 10), (2, Go.Operand.tmp 14), (3, Go.Operand.tmp 18), (4, Go.Operand.tmp 24)], type := 45, pos := "ref.go:31", after := #[{ on := 3, ground := Go.Ground.data }, { on := 7, ground := Go.Ground.data }, { on := 11, ground := Go.Ground.data }, { on := 15, ground := Go.Ground.data }, { on := 21, ground := Go.Ground.data }], guard := none } : Go.Oper)) (v := .agg #[.int .i64 Q.left, .int .i64 (Q.sent : Int), .int .i64 Q.room, .string (strB Q.bs), .slice a5 Q.G.length b5]) rfl (by kernel_rfl) (by kernel_rfl) (by kernel_rfl) (fun _ _ _ h => h) (Or.inl ⟨by rfl, ?_⟩) (by assumption) ?_
  · intro wx hSw
    try dsimp only at hSw
    have u0 := hd0 wx hSw
    have u1 := hd1 wx hSw
    have u2 := hd2 wx hSw
    have u3 := hd3 wx hSw
    have u4 := hd4 wx hSw
    go_simp
    try with_reducible rfl
  try simp only [Act.put, List.setIfInBounds_toArray, List.set_cons_zero, List.set_cons_succ]
  refine wpAnyH_ready (rs := [23]) (by kernel_rfl) (by simp) ?_
  refine AllReadyH.cons (o := ({ dst := some 26, op := Go.Op.box 45 (Go.Operand.tmp 25), type := 27, pos := "ref.go:31", after := #[{ on := 22, ground := Go.Ground.data }], guard := none } : Go.Oper)) rfl (fun K hK => ?_) AllReadyH.nil
  go_simp
  refine hK.out _ _ (hb'.trans ((bel1 w' _).mono hb'.size)) (fun hHeld => ?_)
  clear hK K
  try simp only [Act.put, List.setIfInBounds_toArray, List.set_cons_zero, List.set_cons_succ]
  refine wpAnyH_take (i := 24) (oi := ({ dst := some 2, op := Go.Op.assign (Go.Operand.tmp 26), type := 27, pos := "ref.go:31", after := #[{ on := 23, ground := Go.Ground.data }, { on := 21, ground := Go.Ground.chain }, { on := 0, ground := Go.Ground.phase }, { on := 1, ground := Go.Ground.phase }, { on := 2, ground := Go.Ground.phase }, { on := 3, ground := Go.Ground.phase }, { on := 4, ground := Go.Ground.phase }, { on := 5, ground := Go.Ground.phase }, { on := 6, ground := Go.Ground.phase }, { on := 7, ground := Go.Ground.phase }, { on := 8, ground := Go.Ground.phase }, { on := 9, ground := Go.Ground.phase }, { on := 10, ground := Go.Ground.phase }, { on := 11, ground := Go.Ground.phase }, { on := 12, ground := Go.Ground.phase }, { on := 13, ground := Go.Ground.phase }, { on := 14, ground := Go.Ground.phase }, { on := 15, ground := Go.Ground.phase }, { on := 16, ground := Go.Ground.phase }, { on := 17, ground := Go.Ground.phase }, { on := 18, ground := Go.Ground.phase }, { on := 19, ground := Go.Ground.phase }, { on := 20, ground := Go.Ground.phase }, { on := 21, ground := Go.Ground.phase }, { on := 22, ground := Go.Ground.phase }, { on := 23, ground := Go.Ground.phase }], guard := none } : Go.Oper)) (v := .pointer (some ⟨w'.heap.size, 0, none⟩)) rfl (by kernel_rfl) (by kernel_rfl) (by kernel_rfl) (fun _ _ _ h => h) (Or.inl ⟨by rfl, ?_⟩) (by assumption) ?_
  · intro wx hSw
    try dsimp only at hSw
    have u0 := hd0 wx hSw
    have u1 := hd1 wx hSw
    have u2 := hd2 wx hSw
    have u3 := hd3 wx hSw
    have u4 := hd4 wx hSw
    go_simp
    try with_reducible rfl
  try simp only [Act.put, List.setIfInBounds_toArray, List.set_cons_zero, List.set_cons_succ]
  refine wpAnyH_done (by kernel_rfl) ?_ _
  go_wp2
  go_ret
  exact ⟨_, _, rfl, hb'.size, ⟨At.box w' (ruV Q _) 45, Kd.box _ _ _, hb'.size, (row_later HGO.out (bel1 _ _))⟩, hb'.trans ((bel1 w' _).mono hb'.size)⟩
end Go.Proofs.Ytlbdecjppgjdiaa
