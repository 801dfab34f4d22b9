/- The document's New, Next1, off, Fork. -/
import Derived.Test.YtlbdecjppgjdiaaDTa
import Derived.Test.YtlbdecjppgjdiaaDQd
import Derived.Test.YtlbdecjppgjdiaaDQg
namespace Go.Proofs.Ytlbdecjppgjdiaa
open Go.RowKit Go.Maps Go.Lib
set_option maxRecDepth 100000
set_option linter.unusedVariables false
set_option linter.unusedSimpArgs false


/-- The document's queue: its bytes, and of each whether it was received apart. -/
structure Ru where
  room : Int
  left : Int
  sent : Nat
  bs : List UInt8
  G : List Bool
structure Ru.Fine (Q : Ru) : Prop where
  r0 : 1 ≤ Q.room
  r1 : Q.room ≤ 65536
  l0 : 0 ≤ Q.left
  l1 : Q.left ≤ 4294967295
  ln : (Q.bs.length : Int) ≤ Q.room
  sn : Q.sent ≤ Q.bs.length
  gl : Q.G.length = Q.bs.length
abbrev ruV (Q : Ru) (vg : Value) : Array Value := #[.int .i64 Q.left, .int .i64 (Q.sent : Int), .int .i64 Q.room, .string (strB Q.bs), vg]
structure RX (w : World) (R : Bk) (r : Nat) (Q : Ru) (vg : Value) : Prop where
  at5 : At w r (ruV Q vg)
  kd : Kd w r 45
  ge : R r
  go : GO w R vg Q.G
theorem RX.later {w w' : World} {R : Bk} {r : Nat} {Q : Ru} {vg : Value} (h : RX w R r Q vg) (hb : Below w.heap.size w w') : RX w' R r Q vg := ⟨h.at5.later hb, h.kd.later hb, h.ge, row_later h.go hb⟩
theorem RX.keep {ts : List TypeId} {R' : Bk} {w w' : World} {R : Bk} {r : Nat} {Q : Ru} {vg : Value} (h : RX w R r Q vg) (ht : TY ts R' w w') (h1 : 45 ∉ ts) (h2 : 4 ∉ ts) : RX w' R r Q vg := ⟨ht.at h.at5 h.kd h1, h.kd.turn ht (Or.inl h1), h.ge, row_keep h.go ht h2⟩
abbrev PR (r : Nat) : Value := .pointer (some ⟨r, 0, none⟩)
theorem rnew_t (first room : Int) (w : World) (h0 : 0 ≤ first) (h1 : first ≤ 4294967295) (r0 : 1 ≤ room) (r1 : room ≤ 65536) :
    Calls Try.prog 8 #[.int .i64 first, .int .i64 room] w fun e w' => e = .returned (.tuple #[PR w.heap.size, .int .i64 0]) ∧ RX w' (fun k => w.heap.size ≤ k) w.heap.size ⟨room, first, 0, [], []⟩ (.slice none 0 0) ∧ Below w.heap.size w w' := by
  have hc := rcheck_ok first w h0 h1
  go_enter Try.func8, Try.ntmps8
  go_wp2_with fail
  refine hc.mono ?_
  rintro e w' ⟨rfl, rfl⟩
  go_wp2
  go_ret2
  exact ⟨rfl, ⟨At.box w' _ 45, Kd.box _ _ _, Nat.le_refl _, GO.nil _ _⟩, bel1 _ _⟩
theorem rnew_f (first room : Int) (w : World) (h : newB first room = false) :
    Calls Try.prog 8 #[.int .i64 first, .int .i64 room] w fun e w' => e = .returned (.tuple #[.pointer none, .int .i64 1]) ∧ w' = w := by
  have hc := rcheck_any first w
  unfold newB at h
  cases hn : numB first
  · rw [hn, codeOf_false] at hc
    clear h
    go_enter Try.func8, Try.ntmps8
    go_wp2_with fail
    refine hc.mono ?_
    rintro e w' ⟨rfl, rfl⟩
    go_wp2
    go_ret2
    exact ⟨rfl, rfl⟩
  · rw [hn, codeOf_true] at hc
    rw [hn, Bool.true_and, decide_eq_false_iff_not] at h
    by_cases hr : room < 1
    · clear h
      go_enter Try.func8, Try.ntmps8
      go_wp2_with fail
      refine hc.mono ?_
      rintro e w' ⟨rfl, rfl⟩
      go_wp2
      go_ret2
      exact ⟨rfl, rfl⟩
    · have hr2 : 65536 < room := by omega
      clear h
      go_enter Try.func8, Try.ntmps8
      go_wp2_with fail
      refine hc.mono ?_
      rintro e w' ⟨rfl, rfl⟩
      go_wp2
      go_ret2
      exact ⟨rfl, rfl⟩
theorem rnext1_any {w : World} {R : Bk} {r : Nat} {Q : Ru} {vg : Value} (h : RX w R r Q vg) (hf : Q.Fine) :
    Calls Try.prog 16 #[PR r] w fun e w' => e = .returned (.int .i64 ((Q.left + (Q.sent : Int)) % 4294967296)) ∧ Below w.heap.size w w' := by
  obtain ⟨⟨c0, c1, c2, c3, c4⟩, -⟩ := h.at5.five
  have hs : (Q.sent : Int) ≤ 65536 := by have := hf.sn; have := hf.ln; have := hf.r1; omega
  have hl0 := hf.l0
  have hl1 := hf.l1
  have hc : ∀ W, Calls Try.prog 37 #[.int .i64 (Q.left + (Q.sent : Int))] W fun e w' => e = .returned (.int .i64 ((Q.left + (Q.sent : Int)) % 4294967296)) ∧ w' = W := fun W => mod_any _ W
  have hd0 : ∀ W, Below w.heap.size w W → W.cell? ⟨r, 0, none⟩ = some (.int .i64 Q.left) := fun W hW => later hW c0
  have hd1 : ∀ W, Below w.heap.size w W → W.cell? ⟨r, 1, none⟩ = some (.int .i64 (Q.sent : Int)) := fun W hW => later hW c1
  have hwr : IntKind.i64.wrap (Q.left + (Q.sent : Int)) = Q.left + (Q.sent : Int) := by rw [IntKind.wrap_i64] <;> omega
  clear h hf c0 c1 c2 c3 c4
  go_enter Try.func16, Try.ntmps16
  go_upto_region 1 with fail
  refine wp_region_held_drew (S := (fun W => Below w.heap.size w W)) (by kernel_rfl) ?_ (fun hHeld => ?_)
  · first | exact (Below.refl _ _).drew | assumption
  refine wpAnyH_take (i := 0) (oi := ({ dst := some 3, op := Go.Op.move (Go.Operand.tmp 0), type := 27, pos := "ref.go:35", after := #[], guard := none } : Go.Oper)) (v := .pointer (some ⟨r, 0, none⟩)) rfl (by kernel_rfl) (by kernel_rfl) (by kernel_rfl) (fun _ _ _ h => h) (Or.inl ⟨by rfl, ?_⟩) (by assumption) ?_
  · intro wx hSw
    try dsimp only at hSw
    have u0 := hd0 wx hSw
    have u1 := hd1 wx hSw
    go_simp
    try with_reducible rfl
  try simp only [Act.put, List.setIfInBounds_toArray, List.set_cons_zero, List.set_cons_succ]
  refine wpAnyH_take (i := 1) (oi := ({ dst := some 4, op := Go.Op.nilCheck (Go.Operand.tmp 3), type := 0, pos := "ref.go:35", after := #[{ on := 0, ground := Go.Ground.data }], guard := none } : Go.Oper)) (v := .pointer (some ⟨r, 0, none⟩)) rfl (by kernel_rfl) (by kernel_rfl) (by kernel_rfl) (fun _ _ _ h => h) (Or.inl ⟨by rfl, ?_⟩) (by assumption) ?_
  · intro wx hSw
    try dsimp only at hSw
    have u0 := hd0 wx hSw
    have u1 := hd1 wx hSw
    go_simp
    try with_reducible rfl
  try simp only [Act.put, List.setIfInBounds_toArray, List.set_cons_zero, List.set_cons_succ]
  refine wpAnyH_take (i := 2) (oi := ({ dst := some 5, op := Go.Op.fieldAddr 45 (Go.Operand.tmp 4) 0, type := 0, pos := "ref.go:35", after := #[{ on := 1, ground := Go.Ground.data }], guard := none } : Go.Oper)) (v := .pointer (some ⟨r, 0, none⟩)) rfl (by kernel_rfl) (by kernel_rfl) (by kernel_rfl) (fun _ _ _ h => h) (Or.inl ⟨by rfl, ?_⟩) (by assumption) ?_
  · intro wx hSw
    try dsimp only at hSw
    have u0 := hd0 wx hSw
    have u1 := hd1 wx hSw
    go_simp
    try with_reducible rfl
  try simp only [Act.put, List.setIfInBounds_toArray, List.set_cons_zero, List.set_cons_succ]
  refine wpAnyH_take (i := 3) (oi := ({ dst := some 6, op := Go.Op.load 3 (Go.Operand.tmp 5), type := 3, pos := "ref.go:35", after := #[{ on := 2, ground := Go.Ground.data }], guard := none } : Go.Oper)) (v := .int .i64 Q.left) rfl (by kernel_rfl) (by kernel_rfl) (by kernel_rfl) (fun _ _ _ h => h) (Or.inl ⟨by rfl, ?_⟩) (by assumption) ?_
  · intro wx hSw
    try dsimp only at hSw
    have u0 := hd0 wx hSw
    have u1 := hd1 wx hSw
    go_simp
    try with_reducible rfl
  try simp only [Act.put, List.setIfInBounds_toArray, List.set_cons_zero, List.set_cons_succ]
  refine wpAnyH_take (i := 4) (oi := ({ dst := some 7, op := Go.Op.move (Go.Operand.tmp 0), type := 27, pos := "ref.go:35", after := #[], guard := none } : Go.Oper)) (v := .pointer (some ⟨r, 0, none⟩)) rfl (by kernel_rfl) (by kernel_rfl) (by kernel_rfl) (fun _ _ _ h => h) (Or.inl ⟨by rfl, ?_⟩) (by assumption) ?_
  · intro wx hSw
    try dsimp only at hSw
    have u0 := hd0 wx hSw
    have u1 := hd1 wx hSw
    go_simp
    try with_reducible rfl
  try simp only [Act.put, List.setIfInBounds_toArray, List.set_cons_zero, List.set_cons_succ]
  refine wpAnyH_take (i := 5) (oi := ({ dst := some 8, op := Go.Op.nilCheck (Go.Operand.tmp 7), type := 0, pos := "ref.go:35", after := #[{ on := 4, ground := Go.Ground.data }], guard := none } : Go.Oper)) (v := .pointer (some ⟨r, 0, none⟩)) rfl (by kernel_rfl) (by kernel_rfl) (by kernel_rfl) (fun _ _ _ h => h) (Or.inl ⟨by rfl, ?_⟩) (by assumption) ?_
  · intro wx hSw
    try dsimp only at hSw
    have u0 := hd0 wx hSw
    have u1 := hd1 wx hSw
    go_simp
    try with_reducible rfl
  try simp only [Act.put, List.setIfInBounds_toArray, List.set_cons_zero, List.set_cons_succ]
  refine wpAnyH_take (i := 6) (oi := ({ dst := some 9, op := Go.Op.fieldAddr 45 (Go.Operand.tmp 8) 1, type := 0, pos := "ref.go:35", after := #[{ on := 5, ground := Go.Ground.data }], guard := none } : Go.Oper)) (v := .pointer (some ⟨r, 1, none⟩)) rfl (by kernel_rfl) (by kernel_rfl) (by kernel_rfl) (fun _ _ _ h => h) (Or.inl ⟨by rfl, ?_⟩) (by assumption) ?_
  · intro wx hSw
    try dsimp only at hSw
    have u0 := hd0 wx hSw
    have u1 := hd1 wx hSw
    go_simp
    try with_reducible rfl
  try simp only [Act.put, List.setIfInBounds_toArray, List.set_cons_zero, List.set_cons_succ]
  refine wpAnyH_take (i := 7) (oi := ({ dst := some 10, op := Go.Op.load 3 (Go.Operand.tmp 9), type := 3, pos := "ref.go:35", after := #[{ on := 6, ground := Go.Ground.data }], guard := none } : Go.Oper)) (v := .int .i64 (Q.sent : Int)) rfl (by kernel_rfl) (by kernel_rfl) (by kernel_rfl) (fun _ _ _ h => h) (Or.inl ⟨by rfl, ?_⟩) (by assumption) ?_
  · intro wx hSw
    try dsimp only at hSw
    have u0 := hd0 wx hSw
    have u1 := hd1 wx hSw
    go_simp
    try with_reducible rfl
  try simp only [Act.put, List.setIfInBounds_toArray, List.set_cons_zero, List.set_cons_succ]
  refine wpAnyH_take (i := 8) (oi := ({ dst := some 11, op := Go.Op.binOp Go.BinOp.add 3 (Go.Operand.tmp 6) (Go.Operand.tmp 10) 3, type := 3, pos := "ref.go:35", after := #[{ on := 3, ground := Go.Ground.data }, { on := 7, ground := Go.Ground.data }], guard := none } : Go.Oper)) (v := .int .i64 (Q.left + (Q.sent : Int))) rfl (by kernel_rfl) (by kernel_rfl) (by kernel_rfl) (fun _ _ _ h => h) (Or.inl ⟨by rfl, ?_⟩) (by assumption) ?_
  · intro wx hSw
    try dsimp only at hSw
    have u0 := hd0 wx hSw
    have u1 := hd1 wx hSw
    go_simp
    try with_reducible rfl
  try simp only [Act.put, List.setIfInBounds_toArray, List.set_cons_zero, List.set_cons_succ]
  refine wpAnyH_ready (rs := [9]) (by kernel_rfl) (by simp) ?_
  refine AllReadyH.cons (o := ({ dst := some 12, op := Go.Op.call { callee := Go.Callee.value (Go.Operand.func 37), args := #[Go.Operand.tmp 11], argTypes := #[3] }, type := 3, pos := "ref.go:35", after := #[{ on := 8, ground := Go.Ground.data }], guard := none } : Go.Oper)) rfl (fun K hK => ?_) AllReadyH.nil
  go_simp
  refine (hc _).mono ?_
  rintro e wk ⟨rfl, rfl⟩
  refine hK.out _ _ hHeld (fun hHeld => ?_)
  clear hK K
  try simp only [Act.put, List.setIfInBounds_toArray, List.set_cons_zero, List.set_cons_succ]
  refine wpAnyH_take (i := 10) (oi := ({ dst := some 2, op := Go.Op.assign (Go.Operand.tmp 12), type := 3, pos := "ref.go:35", after := #[{ on := 9, ground := Go.Ground.data }, { on := 9, ground := Go.Ground.chain }, { on := 0, ground := Go.Ground.phase }, { on := 1, ground := Go.Ground.phase }, { on := 2, ground := Go.Ground.phase }, { on := 3, ground := Go.Ground.phase }, { on := 4, ground := Go.Ground.phase }, { on := 5, ground := Go.Ground.phase }, { on := 6, ground := Go.Ground.phase }, { on := 7, ground := Go.Ground.phase }, { on := 8, ground := Go.Ground.phase }, { on := 9, ground := Go.Ground.phase }], guard := none } : Go.Oper)) (v := .int .i64 ((Q.left + (Q.sent : Int)) % 4294967296)) rfl (by kernel_rfl) (by kernel_rfl) (by kernel_rfl) (fun _ _ _ h => h) (Or.inl ⟨by rfl, ?_⟩) (by assumption) ?_
  · intro wx hSw
    try dsimp only at hSw
    have u0 := hd0 wx hSw
    have u1 := hd1 wx hSw
    go_simp
    try with_reducible rfl
  try simp only [Act.put, List.setIfInBounds_toArray, List.set_cons_zero, List.set_cons_succ]
  refine wpAnyH_done (by kernel_rfl) ?_ _
  go_wp2
  go_ret
  exact ⟨rfl, hHeld⟩
def roB (Q : Ru) (n : Int) : Bool := numB n && decide ((n - Q.left) % 4294967296 ≤ (Q.sent : Int))
def roN (Q : Ru) (n : Int) : Nat := ((n - Q.left) % 4294967296).toNat
theorem off_any {w : World} {R : Bk} {r : Nat} {Q : Ru} {vg : Value} (h : RX w R r Q vg) (hf : Q.Fine) (n : Int) :
    Calls Try.prog 47 #[PR r, .int .i64 n] w fun e w' => e = .returned (.int .i64 (if roB Q n = true then (roN Q n : Int) else -1)) ∧ w' = w := by
  have hc := rdist_any Q.left n w
  obtain ⟨⟨c0, c1, c2, c3, c4⟩, -⟩ := h.at5.five
  have hs : (Q.sent : Int) ≤ 65536 := by have := hf.sn; have := hf.ln; have := hf.r1; omega
  have hd0 := Int.emod_nonneg (n - Q.left) (show (4294967296 : Int) ≠ 0 by omega)
  rw [distV, show numB Q.left = true from decide_eq_true ⟨hf.l0, hf.l1⟩, Bool.true_and] at hc
  unfold roB roN
  rw [Int.toNat_of_nonneg hd0]
  clear h hf
  cases hn : numB n
  · rw [hn, if_neg (by decide), codeOf_false] at hc
    rw [Bool.false_and, if_neg (by decide)]
    go_enter Try.func47, Try.ntmps47
    go_wp2_with fail
    refine hc.mono ?_
    rintro e w' ⟨rfl, rfl⟩
    go_wp2
    go_ret
    exact ⟨rfl, rfl⟩
  · rw [hn, if_pos rfl, codeOf_true] at hc
    rw [Bool.true_and]
    generalize (n - Q.left) % 4294967296 = d at *
    by_cases hd : d ≤ (Q.sent : Int)
    · rw [if_pos (decide_eq_true hd)]
      have hd' : ¬ (Q.sent : Int) < d := by omega
      go_enter Try.func47, Try.ntmps47
      go_wp2_with fail
      refine hc.mono ?_
      rintro e w' ⟨rfl, rfl⟩
      go_wp2
      go_ret
      exact ⟨rfl, rfl⟩
    · rw [if_neg (by rw [decide_eq_true_eq]; exact hd)]
      have hd' : (Q.sent : Int) < d := by omega
      go_enter Try.func47, Try.ntmps47
      go_wp2_with fail
      refine hc.mono ?_
      rintro e w' ⟨rfl, rfl⟩
      go_wp2
      go_ret
      exact ⟨rfl, rfl⟩
end Go.Proofs.Ytlbdecjppgjdiaa
