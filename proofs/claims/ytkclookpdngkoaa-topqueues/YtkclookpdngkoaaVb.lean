/- New, number, Next, Ready, Window. -/
import Derived.Test.YtkclookpdngkoaaVa
namespace Go.Proofs.Ytkclookpdngkoaa.V
open Go.RowKit Go.Maps Go.Lib
set_option maxRecDepth 100000
set_option linter.unusedVariables false
set_option linter.unusedSimpArgs false


def newB (first room : Int) : Bool := numB first && decide (1 ≤ room ∧ room ≤ 65536)
def emptyQ (room : Nat) (first : Int) : Rq := ⟨room, first, [], fun _ => none⟩
theorem emptyQ_fine {room : Nat} {first : Int} (h0 : 0 ≤ first) (h1 : first ≤ 4294967295) (r0 : 1 ≤ room) (r1 : room ≤ 65536) : (emptyQ room first).Fine := ⟨r0, r1, h0, h1, Nat.zero_le _, fun d h => by cases h⟩
theorem new_t (first : Int) (room : Nat) (w : World) (h0 : 0 ≤ first) (h1 : first ≤ 4294967295) (r0 : 1 ≤ room) (r1 : room ≤ 65536) :
    Calls Try.prog 6 #[.int .i64 first, .int .i64 (room : Int)] w fun e w' => e = .returned (.tuple #[PQ (w.heap.size + 1), .int .i64 0]) ∧ QX w' (fun k => w.heap.size ≤ k ∧ k < w'.heap.size) (w.heap.size + 1) (emptyQ room first) ∧ Below w.heap.size w w' := by
  have hmm := @run_makeMap Try.prog
  have hc := check_any first w
  rw [show numB first = true from decide_eq_true ⟨h0, h1⟩, codeOf_true] at hc
  go_enter Try.func6, Try.ntmps6
  go_wp2_with fail
  refine hc.mono ?_
  rintro e w' ⟨rfl, rfl⟩
  go_wp2
  go_ret2
  have hs : (w'.alloc (.map #[] 0)).heap.size = w'.heap.size + 1 := by simp
  refine ⟨by first | rfl | (rw [hs]; rfl), ?_, bt (bel1 _ _) (bel1 _ _)⟩
  rw [← hs]
  have hb := bel1 (w'.alloc (.map #[] 0)) (.cells #[.int .i64 (room : Int), .int .i64 first, .slice none 0 0, .map (some w'.heap.size)] 56)
  refine ⟨w'.heap.size, .slice none 0 0, [], At.box _ (quV (emptyQ room first) (.slice none 0 0) w'.heap.size) 56, (VM.made w').later hb, rep_nil _, BO.nil _ _, ⟨by rw [hs]; omega, ?_⟩, ⟨Nat.le_refl _, ?_⟩, (fun k hk => by cases hk), fun k hk => hk.2⟩
  · simp
  · simp; omega
theorem new_f (first room : Int) (w : World) (h : newB first room = false) :
    Calls Try.prog 6 #[.int .i64 first, .int .i64 room] w fun e w' => e = .returned (.tuple #[.pointer none, .int .i64 1]) ∧ w' = w := by
  have hc := check_any first w
  unfold newB at h
  cases hn : numB first
  · rw [hn, codeOf_false] at hc
    clear h
    go_enter Try.func6, Try.ntmps6
    go_wp2_with fail
    refine hc.mono ?_
    rintro e w' ⟨rfl, rfl⟩
    go_wp2
    go_ret2
    exact ⟨rfl, rfl⟩
  · rw [hn, codeOf_true] at hc
    rw [hn, Bool.true_and, decide_eq_false_iff_not] at h
    by_cases hr : room < 1
    · clear h
      go_enter Try.func6, Try.ntmps6
      go_wp2_with fail
      refine hc.mono ?_
      rintro e w' ⟨rfl, rfl⟩
      go_wp2
      go_ret2
      exact ⟨rfl, rfl⟩
    · have hr2 : 65536 < room := by omega
      clear h
      go_enter Try.func6, Try.ntmps6
      go_wp2_with fail
      refine hc.mono ?_
      rintro e w' ⟨rfl, rfl⟩
      go_wp2
      go_ret2
      exact ⟨rfl, rfl⟩
theorem number_any (n : Int) (k : Nat) (w : World) (n0 : 0 ≤ n) (n1 : n ≤ 4294967295) (hk : k ≤ 70000) :
    Calls Try.prog 23 #[.int .i64 n, .int .i64 (k : Int)] w fun e w' => e = .returned (.int .i64 ((n + (k : Int)) % 4294967296)) ∧ w' = w := by
  have hc := add_any n (k : Int) w
  have e1 : numB n = true := decide_eq_true ⟨n0, n1⟩
  have e2 : stepB (k : Int) = true := decide_eq_true (by omega)
  rw [addV, e1, e2] at hc
  clear e1 e2
  go_enter Try.func23, Try.ntmps23
  go_wp2_with fail
  refine hc.mono ?_
  rintro e w' ⟨rfl, rfl⟩
  go_wp2
  go_ret
  exact ⟨rfl, rfl⟩
theorem next_any {w : World} {A : Bk} {q : Nat} {Q : Rq} (h : QX w A q Q) : Calls Try.prog 16 #[PQ q] w fun e w' => e = .returned (.int .i64 Q.next) ∧ w' = w := by
  obtain ⟨M, v, l, h⟩ := h
  obtain ⟨⟨c0, c1, c2, c3⟩, -⟩ := h.at4.four
  clear h
  go_enter Try.func16, Try.ntmps16
  go_wp2
  go_ret
  exact ⟨rfl, rfl⟩
theorem window_any {w : World} {A : Bk} {q : Nat} {Q : Rq} (h : QX w A q Q) (hf : Q.Fine) : Calls Try.prog 10 #[PQ q] w fun e w' => e = .returned (.int .i64 ((Q.room - Q.bs.length : Nat) : Int)) ∧ Below w.heap.size w w' := by
  obtain ⟨M, v, l, h⟩ := h
  obtain ⟨⟨c0, c1, c2, c3⟩, -⟩ := h.at4.four
  obtain ⟨a, c, rfl, -⟩ := h.bo.shape
  have r1 := hf.r1
  have hln := hf.ln
  have hs : (Q.room : Int) - (Q.bs.length : Int) = ((Q.room - Q.bs.length : Nat) : Int) := by omega
  have hw1 : IntKind.i64.wrap ((Q.room : Int) - (Q.bs.length : Int)) = (Q.room : Int) - (Q.bs.length : Int) := by rw [IntKind.wrap_i64] <;> omega
  have HS : Hid ((Q.room : Int) - (Q.bs.length : Int) = ((Q.room - Q.bs.length : Nat) : Int)) := hs
  clear h hs
  have hc0 : ∀ W, Below w.heap.size w W → W.cell? ⟨q, 0, none⟩ = some (.int .i64 (Q.room : Int)) := fun W hW => later hW c0
  have hc2 : ∀ W, Below w.heap.size w W → W.cell? ⟨q, 2, none⟩ = some (.slice a Q.bs.length c) := fun W hW => later hW c2
  clear c0 c1 c2 c3
  go_enter Try.func10, Try.ntmps10
  go_upto_region 1 with fail
  refine wp_region_held_drew (S := (fun W => Below w.heap.size w W)) (by kernel_rfl) ?_ (fun hHeld => ?_)
  · first | exact (Below.refl _ _).drew | assumption
  refine wpAnyH_take (i := 0) (oi := ({ dst := some 3, op := Go.Op.move (Go.Operand.tmp 0), type := 28, pos := "recvq.go:54", after := #[], guard := none } : Go.Oper)) (v := .pointer (some ⟨q, 0, none⟩)) rfl (by kernel_rfl) (by kernel_rfl) (by kernel_rfl) (fun _ _ _ h => h) (Or.inl ⟨by rfl, ?_⟩) (by assumption) ?_
  · intro wx hSw
    try dsimp only at hSw
    have u0 := hc0 wx hSw
    have u2 := hc2 wx hSw
    go_simp
    try with_reducible rfl
  try simp only [Act.put, List.setIfInBounds_toArray, List.set_cons_zero, List.set_cons_succ]
  refine wpAnyH_take (i := 1) (oi := ({ dst := some 4, op := Go.Op.nilCheck (Go.Operand.tmp 3), type := 0, pos := "recvq.go:54", after := #[{ on := 0, ground := Go.Ground.data }], guard := none } : Go.Oper)) (v := .pointer (some ⟨q, 0, none⟩)) rfl (by kernel_rfl) (by kernel_rfl) (by kernel_rfl) (fun _ _ _ h => h) (Or.inl ⟨by rfl, ?_⟩) (by assumption) ?_
  · intro wx hSw
    try dsimp only at hSw
    have u0 := hc0 wx hSw
    have u2 := hc2 wx hSw
    go_simp
    try with_reducible rfl
  try simp only [Act.put, List.setIfInBounds_toArray, List.set_cons_zero, List.set_cons_succ]
  refine wpAnyH_take (i := 2) (oi := ({ dst := some 5, op := Go.Op.fieldAddr 56 (Go.Operand.tmp 4) 0, type := 0, pos := "recvq.go:54", after := #[{ on := 1, ground := Go.Ground.data }], guard := none } : Go.Oper)) (v := .pointer (some ⟨q, 0, none⟩)) rfl (by kernel_rfl) (by kernel_rfl) (by kernel_rfl) (fun _ _ _ h => h) (Or.inl ⟨by rfl, ?_⟩) (by assumption) ?_
  · intro wx hSw
    try dsimp only at hSw
    have u0 := hc0 wx hSw
    have u2 := hc2 wx hSw
    go_simp
    try with_reducible rfl
  try simp only [Act.put, List.setIfInBounds_toArray, List.set_cons_zero, List.set_cons_succ]
  refine wpAnyH_take (i := 3) (oi := ({ dst := some 6, op := Go.Op.load 3 (Go.Operand.tmp 5), type := 3, pos := "recvq.go:54", after := #[{ on := 2, ground := Go.Ground.data }], guard := none } : Go.Oper)) (v := .int .i64 (Q.room : Int)) rfl (by kernel_rfl) (by kernel_rfl) (by kernel_rfl) (fun _ _ _ h => h) (Or.inl ⟨by rfl, ?_⟩) (by assumption) ?_
  · intro wx hSw
    try dsimp only at hSw
    have u0 := hc0 wx hSw
    have u2 := hc2 wx hSw
    go_simp
    try with_reducible rfl
  try simp only [Act.put, List.setIfInBounds_toArray, List.set_cons_zero, List.set_cons_succ]
  refine wpAnyH_take (i := 4) (oi := ({ dst := some 7, op := Go.Op.move (Go.Operand.tmp 0), type := 28, pos := "recvq.go:54", after := #[], guard := none } : Go.Oper)) (v := .pointer (some ⟨q, 0, none⟩)) rfl (by kernel_rfl) (by kernel_rfl) (by kernel_rfl) (fun _ _ _ h => h) (Or.inl ⟨by rfl, ?_⟩) (by assumption) ?_
  · intro wx hSw
    try dsimp only at hSw
    have u0 := hc0 wx hSw
    have u2 := hc2 wx hSw
    go_simp
    try with_reducible rfl
  try simp only [Act.put, List.setIfInBounds_toArray, List.set_cons_zero, List.set_cons_succ]
  refine wpAnyH_take (i := 5) (oi := ({ dst := some 8, op := Go.Op.nilCheck (Go.Operand.tmp 7), type := 0, pos := "recvq.go:54", after := #[{ on := 4, ground := Go.Ground.data }], guard := none } : Go.Oper)) (v := .pointer (some ⟨q, 0, none⟩)) rfl (by kernel_rfl) (by kernel_rfl) (by kernel_rfl) (fun _ _ _ h => h) (Or.inl ⟨by rfl, ?_⟩) (by assumption) ?_
  · intro wx hSw
    try dsimp only at hSw
    have u0 := hc0 wx hSw
    have u2 := hc2 wx hSw
    go_simp
    try with_reducible rfl
  try simp only [Act.put, List.setIfInBounds_toArray, List.set_cons_zero, List.set_cons_succ]
  refine wpAnyH_take (i := 6) (oi := ({ dst := some 9, op := Go.Op.fieldAddr 56 (Go.Operand.tmp 8) 2, type := 0, pos := "recvq.go:54", after := #[{ on := 5, ground := Go.Ground.data }], guard := none } : Go.Oper)) (v := .pointer (some ⟨q, 2, none⟩)) rfl (by kernel_rfl) (by kernel_rfl) (by kernel_rfl) (fun _ _ _ h => h) (Or.inl ⟨by rfl, ?_⟩) (by assumption) ?_
  · intro wx hSw
    try dsimp only at hSw
    have u0 := hc0 wx hSw
    have u2 := hc2 wx hSw
    go_simp
    try with_reducible rfl
  try simp only [Act.put, List.setIfInBounds_toArray, List.set_cons_zero, List.set_cons_succ]
  refine wpAnyH_take (i := 7) (oi := ({ dst := some 10, op := Go.Op.load 50 (Go.Operand.tmp 9), type := 50, pos := "recvq.go:54", after := #[{ on := 6, ground := Go.Ground.data }], guard := none } : Go.Oper)) (v := .slice a Q.bs.length c) rfl (by kernel_rfl) (by kernel_rfl) (by kernel_rfl) (fun _ _ _ h => h) (Or.inl ⟨by rfl, ?_⟩) (by assumption) ?_
  · intro wx hSw
    try dsimp only at hSw
    have u0 := hc0 wx hSw
    have u2 := hc2 wx hSw
    go_simp
    try with_reducible rfl
  try simp only [Act.put, List.setIfInBounds_toArray, List.set_cons_zero, List.set_cons_succ]
  refine wpAnyH_take (i := 8) (oi := ({ dst := some 11, op := Go.Op.call { callee := Go.Callee.builtin Go.Builtin.len, args := #[Go.Operand.tmp 10], argTypes := #[50] }, type := 3, pos := "recvq.go:54", after := #[{ on := 7, ground := Go.Ground.data }], guard := none } : Go.Oper)) (v := .int .i64 (Q.bs.length : Int)) rfl (by kernel_rfl) (by kernel_rfl) (by kernel_rfl) (fun _ _ _ h => h) (Or.inl ⟨by rfl, ?_⟩) (by assumption) ?_
  · intro wx hSw
    try dsimp only at hSw
    have u0 := hc0 wx hSw
    have u2 := hc2 wx hSw
    go_simp
    try with_reducible rfl
  try simp only [Act.put, List.setIfInBounds_toArray, List.set_cons_zero, List.set_cons_succ]
  refine wpAnyH_take (i := 9) (oi := ({ dst := some 12, op := Go.Op.binOp Go.BinOp.sub 3 (Go.Operand.tmp 6) (Go.Operand.tmp 11) 3, type := 3, pos := "recvq.go:54", after := #[{ on := 3, ground := Go.Ground.data }, { on := 8, ground := Go.Ground.data }], guard := none } : Go.Oper)) (v := .int .i64 ((Q.room : Int) - (Q.bs.length : Int))) rfl (by kernel_rfl) (by kernel_rfl) (by kernel_rfl) (fun _ _ _ h => h) (Or.inl ⟨by rfl, ?_⟩) (by assumption) ?_
  · intro wx hSw
    try dsimp only at hSw
    have u0 := hc0 wx hSw
    have u2 := hc2 wx hSw
    go_simp
    try with_reducible rfl
  try simp only [Act.put, List.setIfInBounds_toArray, List.set_cons_zero, List.set_cons_succ]
  refine wpAnyH_take (i := 10) (oi := ({ dst := some 2, op := Go.Op.assign (Go.Operand.tmp 12), type := 3, pos := "recvq.go:54", after := #[{ on := 9, ground := Go.Ground.data }, { on := 0, ground := Go.Ground.phase }, { on := 1, ground := Go.Ground.phase }, { on := 2, ground := Go.Ground.phase }, { on := 3, ground := Go.Ground.phase }, { on := 4, ground := Go.Ground.phase }, { on := 5, ground := Go.Ground.phase }, { on := 6, ground := Go.Ground.phase }, { on := 7, ground := Go.Ground.phase }, { on := 8, ground := Go.Ground.phase }, { on := 9, ground := Go.Ground.phase }], guard := none } : Go.Oper)) (v := .int .i64 ((Q.room : Int) - (Q.bs.length : Int))) rfl (by kernel_rfl) (by kernel_rfl) (by kernel_rfl) (fun _ _ _ h => h) (Or.inl ⟨by rfl, ?_⟩) (by assumption) ?_
  · intro wx hSw
    try dsimp only at hSw
    have u0 := hc0 wx hSw
    have u2 := hc2 wx hSw
    go_simp
    try with_reducible rfl
  try simp only [Act.put, List.setIfInBounds_toArray, List.set_cons_zero, List.set_cons_succ]
  refine wpAnyH_done (by kernel_rfl) ?_ _
  go_wp2
  go_ret
  exact ⟨by rw [HS.out]; rfl, hHeld⟩
end Go.Proofs.Ytkclookpdngkoaa.V
