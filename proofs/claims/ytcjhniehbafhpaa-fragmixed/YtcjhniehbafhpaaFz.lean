/- FragBack, walked. -/
import Derived.Test.YtcjhniehbafhpaaFy
namespace Go.Proofs.Ytcjhniehbafhpaa
open Go.RowKit Go.Maps
set_option maxRecDepth 100000
set_option linter.unusedVariables false
set_option linter.unusedSimpArgs false

/-- The second loop's state. -/
def BKs (w7 W : World) (b L2 N : Nat) (p : Pk) (g : Nat → Pk) (i : Nat) : Prop := ∃ D, LF W L2 D ∧ Turn (fun k => k = L2 ∨ FB w7.heap.size (b + 1) b k) w7 W ∧ ((D = [] ∧ ∃ la tu, OneB W w7.heap.size (b + 1) b 3 1000 la tu (mk p) []) ∨ (D ≠ [] ∧ ∃ S la tu, LS N i D S ∧ la ≤ (i : Int) ∧ 0 ≤ tu ∧ tu ≤ (i : Int) ∧ OneB W w7.heap.size (b + 1) b 3 1000 la tu (mk p) (S.map g)))
theorem at_range (g : Nat → Pk) {k N : Nat} (h : k ≤ N) : ((List.range (N + 1)).map g)[k]? = some (g k) := by
  rw [List.getElem?_map, List.getElem?_range (by omega)]
  rfl
theorem filter_self {D : List Nat} {k : Nat} (h : k ∉ D) : D.filter (fun d => decide (d ≠ k)) = D := List.filter_eq_self.2 (fun d hd => by simp; intro e; rw [e] at hd; exact h hd)
set_option maxHeartbeats 16000000 in
theorem back_any (f t tl pr id fr : Int) (mo dn : Bool) (op da : ByteArray) (most : Int) (a : Option Addr) (cap : Nat) (zs : List Int) (w : World) (hop : op.size ≤ 140737488351232) (hda : da.size ≤ 140737488351232) (hi : Arg w a zs) (hz : zs.length * 8 ≤ 140737488351232) :
    Calls Try.prog 4 #[.agg #[.int .i64 f, .int .i64 t, .int .i64 tl, .int .i64 pr, .int .i64 id, .int .i64 fr, .bool mo, .bool dn, .string op, .string da], .int .i64 most, .slice a zs.length cap] w fun e w' => e = .returned (.bool true) ∧ Below w.heap.size w w' := by
  have HA : Hid (Arg w a zs) := hi
  clear hi
  have ho : op.size ≤ 1125899906842624 := by omega
  have hd : da.size ≤ 1125899906842624 := by omega
  have hA := At.box w #[.int .i64 f, .int .i64 t, .int .i64 tl, .int .i64 pr, .int .i64 id, .int .i64 fr, .bool mo, .bool dn, .string op, .string da] 32
  have hl := bel1 w (.cells #[.int .i64 f, .int .i64 t, .int .i64 tl, .int .i64 pr, .int .i64 id, .int .i64 fr, .bool mo, .bool dn, .string op, .string da] 32)
  have hmm := @run_makeMap Try.prog
  go_enter Try.func4, Try.ntmps4
  go_upto_region 1 with fail
  generalize w.alloc (.cells #[.int .i64 f, .int .i64 t, .int .i64 tl, .int .i64 pr, .int .i64 id, .int .i64 fr, .bool mo, .bool dn, .string op, .string da] 32) = W0 at *
  go_wp2_with fail
  refine (works_any W0).mono ?_
  rintro e w1 ⟨rfl, l1⟩
  replace hA := hA.later l1
  replace hl := bt hl l1
  clear l1
  have c5 := (hA.2 5 _ rfl).1
  have c6 := (hA.2 6 _ rfl).1
  have c9 := (hA.2 9 _ rfl).1
  obtain ⟨c7, f7⟩ := hA.2 7 _ rfl
  have hda' : (da.size : Int) ≤ 140737488351232 := by omega
  by_cases h1 : (400 : Int) < (da.size : Int)
  · clear hA
    go_wp2
    go_ret
    exact ⟨rfl, hl⟩
  by_cases h2 : fr = 0
  rotate_left
  · have h2' : (fr != 0) = true := by simp [h2]
    clear hA
    go_wp2
    go_ret
    exact ⟨rfl, hl⟩
  subst h2
  cases mo with
  | true =>
    clear hA
    go_wp2
    go_ret
    exact ⟨rfl, hl⟩
  | false =>
    have hA2 : At (w1.setCell ⟨w.heap.size, 7, none⟩ (.bool false)) w.heap.size #[.int .i64 f, .int .i64 t, .int .i64 tl, .int .i64 pr, .int .i64 id, .int .i64 0, .bool false, .bool false, .string op, .string da] := hA.set 7 (.bool false)
    have ht2 := turn_set w1 w.heap.size 7 (.bool false)
    have hb2 : Below w.heap.size w (w1.setCell ⟨w.heap.size, 7, none⟩ (.bool false)) := hl.trans (below_turn ht2 (Nat.le_refl _) hl.size)
    clear hA ht2
    go_upto_region 6 with fail
    generalize w1.setCell ⟨w.heap.size, 7, none⟩ (.bool false) = w2 at *
    clear c5 c6 c7 c9 f7 hl
    obtain ⟨c, ps, hC, hpl, -⟩ := cuts_good f t tl pr id 0 false false op da (28 + (op.size : Int) + 8 * (most % 20))
    have hm0 : 0 ≤ most % 20 := Int.emod_nonneg _ (by decide)
    have hm1 : most % 20 < 20 := Int.emod_lt_of_pos _ (by decide)
    have hw1 : IntKind.i64.wrap (28 + (op.size : Int)) = 28 + (op.size : Int) := by rw [IntKind.wrap_i64]; omega
    have hw2 : IntKind.i64.wrap (8 * (most % 20)) = 8 * (most % 20) := by rw [IntKind.wrap_i64]; omega
    have hw3 : IntKind.i64.wrap (28 + (op.size : Int) + 8 * (most % 20)) = (28 + (op.size : Int) + 8 * (most % 20)) := by rw [IntKind.wrap_i64]; omega
    have hd4 : da.size ≤ 400 := by omega
    clear h1
    have hc0 : ∀ W, Below w2.heap.size w2 W → W.cell? ⟨w.heap.size, 0, none⟩ = some (.int .i64 f) := fun W hW => later hW (hA2.2 0 _ rfl).1
    have hc1 : ∀ W, Below w2.heap.size w2 W → W.cell? ⟨w.heap.size, 1, none⟩ = some (.int .i64 t) := fun W hW => later hW (hA2.2 1 _ rfl).1
    have hc2 : ∀ W, Below w2.heap.size w2 W → W.cell? ⟨w.heap.size, 2, none⟩ = some (.int .i64 tl) := fun W hW => later hW (hA2.2 2 _ rfl).1
    have hc3 : ∀ W, Below w2.heap.size w2 W → W.cell? ⟨w.heap.size, 3, none⟩ = some (.int .i64 pr) := fun W hW => later hW (hA2.2 3 _ rfl).1
    have hc4 : ∀ W, Below w2.heap.size w2 W → W.cell? ⟨w.heap.size, 4, none⟩ = some (.int .i64 id) := fun W hW => later hW (hA2.2 4 _ rfl).1
    have hc5 : ∀ W, Below w2.heap.size w2 W → W.cell? ⟨w.heap.size, 5, none⟩ = some (.int .i64 0) := fun W hW => later hW (hA2.2 5 _ rfl).1
    have hc6 : ∀ W, Below w2.heap.size w2 W → W.cell? ⟨w.heap.size, 6, none⟩ = some (.bool false) := fun W hW => later hW (hA2.2 6 _ rfl).1
    have hc7 : ∀ W, Below w2.heap.size w2 W → W.cell? ⟨w.heap.size, 7, none⟩ = some (.bool false) := fun W hW => later hW (hA2.2 7 _ rfl).1
    have hc8 : ∀ W, Below w2.heap.size w2 W → W.cell? ⟨w.heap.size, 8, none⟩ = some (.string op) := fun W hW => later hW (hA2.2 8 _ rfl).1
    have hc9 : ∀ W, Below w2.heap.size w2 W → W.cell? ⟨w.heap.size, 9, none⟩ = some (.string da) := fun W hW => later hW (hA2.2 9 _ rfl).1
    refine wp_region_held_drew (S := (fun W => Below w2.heap.size w2 W)) (by kernel_rfl) ?_ (fun hHeld => ?_)
    · first | exact (Below.refl _ _).drew | assumption
    refine wpAnyH_take (i := 0) (oi := ({ dst := some 35, op := Go.Op.load 32 (Go.Operand.tmp 3), type := 32, pos := "theorems.go:37", after := #[], guard := none } : Go.Oper)) (v := .agg #[.int .i64 f, .int .i64 t, .int .i64 tl, .int .i64 pr, .int .i64 id, .int .i64 0, .bool false, .bool false, .string op, .string da]) rfl (by kernel_rfl) (by kernel_rfl) (by kernel_rfl) (fun _ _ _ h => h) (Or.inl ⟨by rfl, ?_⟩) (by assumption) ?_
    · intro wx hSw
      try dsimp only at hSw
      have u0 := hc0 wx hSw
      have u1 := hc1 wx hSw
      have u2 := hc2 wx hSw
      have u3 := hc3 wx hSw
      have u4 := hc4 wx hSw
      have u5 := hc5 wx hSw
      have u6 := hc6 wx hSw
      have u7 := hc7 wx hSw
      have u8 := hc8 wx hSw
      have u9 := hc9 wx hSw
      go_simp
      try with_reducible rfl
    try simp only [Act.put, List.setIfInBounds_toArray, List.set_cons_zero, List.set_cons_succ]
    refine wpAnyH_take (i := 1) (oi := ({ dst := some 36, op := Go.Op.fieldAddr 32 (Go.Operand.tmp 3) 8, type := 0, pos := "theorems.go:37", after := #[], guard := none } : Go.Oper)) (v := .pointer (some ⟨w.heap.size, 8, none⟩)) rfl (by kernel_rfl) (by kernel_rfl) (by kernel_rfl) (fun _ _ _ h => h) (Or.inl ⟨by rfl, ?_⟩) (by assumption) ?_
    · intro wx hSw
      try dsimp only at hSw
      have u0 := hc0 wx hSw
      have u1 := hc1 wx hSw
      have u2 := hc2 wx hSw
      have u3 := hc3 wx hSw
      have u4 := hc4 wx hSw
      have u5 := hc5 wx hSw
      have u6 := hc6 wx hSw
      have u7 := hc7 wx hSw
      have u8 := hc8 wx hSw
      have u9 := hc9 wx hSw
      go_simp
      try with_reducible rfl
    try simp only [Act.put, List.setIfInBounds_toArray, List.set_cons_zero, List.set_cons_succ]
    refine wpAnyH_take (i := 2) (oi := ({ dst := some 37, op := Go.Op.load 9 (Go.Operand.tmp 36), type := 9, pos := "theorems.go:37", after := #[{ on := 1, ground := Go.Ground.data }], guard := none } : Go.Oper)) (v := .string op) rfl (by kernel_rfl) (by kernel_rfl) (by kernel_rfl) (fun _ _ _ h => h) (Or.inl ⟨by rfl, ?_⟩) (by assumption) ?_
    · intro wx hSw
      try dsimp only at hSw
      have u0 := hc0 wx hSw
      have u1 := hc1 wx hSw
      have u2 := hc2 wx hSw
      have u3 := hc3 wx hSw
      have u4 := hc4 wx hSw
      have u5 := hc5 wx hSw
      have u6 := hc6 wx hSw
      have u7 := hc7 wx hSw
      have u8 := hc8 wx hSw
      have u9 := hc9 wx hSw
      go_simp
      try with_reducible rfl
    try simp only [Act.put, List.setIfInBounds_toArray, List.set_cons_zero, List.set_cons_succ]
    refine wpAnyH_take (i := 3) (oi := ({ dst := some 38, op := Go.Op.call { callee := Go.Callee.builtin Go.Builtin.len, args := #[Go.Operand.tmp 37], argTypes := #[9] }, type := 3, pos := "theorems.go:37", after := #[{ on := 2, ground := Go.Ground.data }], guard := none } : Go.Oper)) (v := .int .i64 (op.size : Int)) rfl (by kernel_rfl) (by kernel_rfl) (by kernel_rfl) (fun _ _ _ h => h) (Or.inl ⟨by rfl, ?_⟩) (by assumption) ?_
    · intro wx hSw
      try dsimp only at hSw
      have u0 := hc0 wx hSw
      have u1 := hc1 wx hSw
      have u2 := hc2 wx hSw
      have u3 := hc3 wx hSw
      have u4 := hc4 wx hSw
      have u5 := hc5 wx hSw
      have u6 := hc6 wx hSw
      have u7 := hc7 wx hSw
      have u8 := hc8 wx hSw
      have u9 := hc9 wx hSw
      go_simp
      try with_reducible rfl
    try simp only [Act.put, List.setIfInBounds_toArray, List.set_cons_zero, List.set_cons_succ]
    refine wpAnyH_take (i := 4) (oi := ({ dst := some 39, op := Go.Op.binOp Go.BinOp.add 3 (Go.Operand.const (Go.Value.int Go.IntKind.i64 28)) (Go.Operand.tmp 38) 3, type := 3, pos := "theorems.go:37", after := #[{ on := 3, ground := Go.Ground.data }], guard := none } : Go.Oper)) (v := .int .i64 (28 + (op.size : Int))) rfl (by kernel_rfl) (by kernel_rfl) (by kernel_rfl) (fun _ _ _ h => h) (Or.inl ⟨by rfl, ?_⟩) (by assumption) ?_
    · intro wx hSw
      try dsimp only at hSw
      have u0 := hc0 wx hSw
      have u1 := hc1 wx hSw
      have u2 := hc2 wx hSw
      have u3 := hc3 wx hSw
      have u4 := hc4 wx hSw
      have u5 := hc5 wx hSw
      have u6 := hc6 wx hSw
      have u7 := hc7 wx hSw
      have u8 := hc8 wx hSw
      have u9 := hc9 wx hSw
      go_simp
      try with_reducible rfl
    try simp only [Act.put, List.setIfInBounds_toArray, List.set_cons_zero, List.set_cons_succ]
    refine wpAnyH_take (i := 5) (oi := ({ dst := some 40, op := Go.Op.move (Go.Operand.tmp 1), type := 3, pos := "theorems.go:37", after := #[], guard := none } : Go.Oper)) (v := .int .i64 most) rfl (by kernel_rfl) (by kernel_rfl) (by kernel_rfl) (fun _ _ _ h => h) (Or.inl ⟨by rfl, ?_⟩) (by assumption) ?_
    · intro wx hSw
      try dsimp only at hSw
      have u0 := hc0 wx hSw
      have u1 := hc1 wx hSw
      have u2 := hc2 wx hSw
      have u3 := hc3 wx hSw
      have u4 := hc4 wx hSw
      have u5 := hc5 wx hSw
      have u6 := hc6 wx hSw
      have u7 := hc7 wx hSw
      have u8 := hc8 wx hSw
      have u9 := hc9 wx hSw
      go_simp
      try with_reducible rfl
    try simp only [Act.put, List.setIfInBounds_toArray, List.set_cons_zero, List.set_cons_succ]
    refine wpAnyH_ready (rs := [6]) (by kernel_rfl) (by simp) ?_
    refine AllReadyH.cons (o := ({ dst := some 41, op := Go.Op.call { callee := Go.Callee.value (Go.Operand.func 10), args := #[Go.Operand.tmp 40, Go.Operand.const (Go.Value.int Go.IntKind.i64 20)], argTypes := #[3, 3] }, type := 3, pos := "theorems.go:37", after := #[{ on := 5, ground := Go.Ground.data }], guard := none } : Go.Oper)) rfl (fun K hK => ?_) AllReadyH.nil
    go_simp
    go_at_call 10
    refine (among_any most 20 _ (by decide) (by decide)).mono ?_
    rintro e w3 ⟨rfl, rfl⟩
    first
      | refine hK.out _ _ ?_ (fun hHeld => ?_)
      | (go_wp2_with fail; refine hK.out _ _ ?_ (fun hHeld => ?_))
    · try dsimp only
      exact hHeld
    clear hK K
    try simp only [Act.put, List.setIfInBounds_toArray, List.set_cons_zero, List.set_cons_succ]
    refine wpAnyH_take (i := 7) (oi := ({ dst := some 42, op := Go.Op.binOp Go.BinOp.mul 3 (Go.Operand.const (Go.Value.int Go.IntKind.i64 8)) (Go.Operand.tmp 41) 3, type := 3, pos := "theorems.go:37", after := #[{ on := 6, ground := Go.Ground.data }], guard := none } : Go.Oper)) (v := .int .i64 (8 * (most % 20))) rfl (by kernel_rfl) (by kernel_rfl) (by kernel_rfl) (fun _ _ _ h => h) (Or.inl ⟨by rfl, ?_⟩) (by assumption) ?_
    · intro wx hSw
      try dsimp only at hSw
      have u0 := hc0 wx hSw
      have u1 := hc1 wx hSw
      have u2 := hc2 wx hSw
      have u3 := hc3 wx hSw
      have u4 := hc4 wx hSw
      have u5 := hc5 wx hSw
      have u6 := hc6 wx hSw
      have u7 := hc7 wx hSw
      have u8 := hc8 wx hSw
      have u9 := hc9 wx hSw
      go_simp
      try with_reducible rfl
    try simp only [Act.put, List.setIfInBounds_toArray, List.set_cons_zero, List.set_cons_succ]
    refine wpAnyH_take (i := 8) (oi := ({ dst := some 43, op := Go.Op.binOp Go.BinOp.add 3 (Go.Operand.tmp 39) (Go.Operand.tmp 42) 3, type := 3, pos := "theorems.go:37", after := #[{ on := 4, ground := Go.Ground.data }, { on := 7, ground := Go.Ground.data }], guard := none } : Go.Oper)) (v := .int .i64 (28 + (op.size : Int) + 8 * (most % 20))) rfl (by kernel_rfl) (by kernel_rfl) (by kernel_rfl) (fun _ _ _ h => h) (Or.inl ⟨by rfl, ?_⟩) (by assumption) ?_
    · intro wx hSw
      try dsimp only at hSw
      have u0 := hc0 wx hSw
      have u1 := hc1 wx hSw
      have u2 := hc2 wx hSw
      have u3 := hc3 wx hSw
      have u4 := hc4 wx hSw
      have u5 := hc5 wx hSw
      have u6 := hc6 wx hSw
      have u7 := hc7 wx hSw
      have u8 := hc8 wx hSw
      have u9 := hc9 wx hSw
      go_simp
      try with_reducible rfl
    try simp only [Act.put, List.setIfInBounds_toArray, List.set_cons_zero, List.set_cons_succ]
    refine wpAnyH_ready (rs := [9]) (by kernel_rfl) (by simp) ?_
    refine AllReadyH.cons (o := ({ dst := some 44, op := Go.Op.call { callee := Go.Callee.value (Go.Operand.func 16), args := #[Go.Operand.tmp 35, Go.Operand.tmp 43], argTypes := #[32, 3] }, type := 37, pos := "theorems.go:37", after := #[{ on := 0, ground := Go.Ground.data }, { on := 8, ground := Go.Ground.data }, { on := 6, ground := Go.Ground.chain }], guard := none } : Go.Oper)) rfl (fun K hK => ?_) AllReadyH.nil
    go_simp
    go_at_call 16
    refine (pieces_any f t tl pr id 0 false false op da (28 + (op.size : Int) + 8 * (most % 20)) c ps _ ho hd hC).mono ?_
    rintro e w4 ⟨v, rfl, l4, hown⟩
    first
      | refine hK.out _ _ ?_ (fun hHeld => ?_)
      | (go_wp2_with fail; refine hK.out _ _ ?_ (fun hHeld => ?_))
    · try dsimp only
      exact bt hHeld l4
    clear hK K
    try simp only [Act.put, List.setIfInBounds_toArray, List.set_cons_zero, List.set_cons_succ]
    refine wpAnyH_take (i := 10) (oi := ({ dst := some 34, op := Go.Op.move (Go.Operand.tmp 44), type := 37, pos := "theorems.go:37", after := #[{ on := 9, ground := Go.Ground.data }], guard := none } : Go.Oper)) (v := .tuple #[v, .int .i64 c]) rfl (by kernel_rfl) (by kernel_rfl) (by kernel_rfl) (fun _ _ _ h => h) (Or.inl ⟨by rfl, ?_⟩) (by assumption) ?_
    · intro wx hSw
      try dsimp only at hSw
      have u0 := hc0 wx hSw
      have u1 := hc1 wx hSw
      have u2 := hc2 wx hSw
      have u3 := hc3 wx hSw
      have u4 := hc4 wx hSw
      have u5 := hc5 wx hSw
      have u6 := hc6 wx hSw
      have u7 := hc7 wx hSw
      have u8 := hc8 wx hSw
      have u9 := hc9 wx hSw
      go_simp
      try with_reducible rfl
    try simp only [Act.put, List.setIfInBounds_toArray, List.set_cons_zero, List.set_cons_succ]
    refine wpAnyH_take (i := 11) (oi := ({ dst := some 45, op := Go.Op.extract (Go.Operand.tmp 34) 0, type := 36, pos := "theorems.go:37", after := #[{ on := 10, ground := Go.Ground.data }], guard := none } : Go.Oper)) (v := v) rfl (by kernel_rfl) (by kernel_rfl) (by kernel_rfl) (fun _ _ _ h => h) (Or.inl ⟨by rfl, ?_⟩) (by assumption) ?_
    · intro wx hSw
      try dsimp only at hSw
      have u0 := hc0 wx hSw
      have u1 := hc1 wx hSw
      have u2 := hc2 wx hSw
      have u3 := hc3 wx hSw
      have u4 := hc4 wx hSw
      have u5 := hc5 wx hSw
      have u6 := hc6 wx hSw
      have u7 := hc7 wx hSw
      have u8 := hc8 wx hSw
      have u9 := hc9 wx hSw
      go_simp
      try with_reducible rfl
    try simp only [Act.put, List.setIfInBounds_toArray, List.set_cons_zero, List.set_cons_succ]
    refine wpAnyH_take (i := 12) (oi := ({ dst := some 46, op := Go.Op.extract (Go.Operand.tmp 34) 1, type := 24, pos := "theorems.go:37", after := #[{ on := 10, ground := Go.Ground.data }, { on := 13, ground := Go.Ground.gcOnly Go.Departure.lateStores }], guard := none } : Go.Oper)) (v := .int .i64 c) rfl (by kernel_rfl) (by kernel_rfl) (by kernel_rfl) (fun _ _ _ h => h) (Or.inl ⟨by rfl, ?_⟩) (by assumption) ?_
    · intro wx hSw
      try dsimp only at hSw
      have u0 := hc0 wx hSw
      have u1 := hc1 wx hSw
      have u2 := hc2 wx hSw
      have u3 := hc3 wx hSw
      have u4 := hc4 wx hSw
      have u5 := hc5 wx hSw
      have u6 := hc6 wx hSw
      have u7 := hc7 wx hSw
      have u8 := hc8 wx hSw
      have u9 := hc9 wx hSw
      go_simp
      try with_reducible rfl
    try simp only [Act.put, List.setIfInBounds_toArray, List.set_cons_zero, List.set_cons_succ]
    refine wpAnyH_take (i := 13) (oi := ({ dst := some 7, op := Go.Op.assign (Go.Operand.tmp 45), type := 36, pos := "theorems.go:37", after := #[{ on := 11, ground := Go.Ground.data }, { on := 9, ground := Go.Ground.chain }, { on := 0, ground := Go.Ground.phase }, { on := 1, ground := Go.Ground.phase }, { on := 2, ground := Go.Ground.phase }, { on := 3, ground := Go.Ground.phase }, { on := 4, ground := Go.Ground.phase }, { on := 5, ground := Go.Ground.phase }, { on := 6, ground := Go.Ground.phase }, { on := 7, ground := Go.Ground.phase }, { on := 8, ground := Go.Ground.phase }, { on := 9, ground := Go.Ground.phase }, { on := 10, ground := Go.Ground.phase }, { on := 11, ground := Go.Ground.phase }, { on := 12, ground := Go.Ground.textOnly Go.Departure.lateStores }], guard := none } : Go.Oper)) (v := v) rfl (by kernel_rfl) (by kernel_rfl) (by kernel_rfl) (fun _ _ _ h => h) (Or.inl ⟨by rfl, ?_⟩) (by assumption) ?_
    · intro wx hSw
      try dsimp only at hSw
      have u0 := hc0 wx hSw
      have u1 := hc1 wx hSw
      have u2 := hc2 wx hSw
      have u3 := hc3 wx hSw
      have u4 := hc4 wx hSw
      have u5 := hc5 wx hSw
      have u6 := hc6 wx hSw
      have u7 := hc7 wx hSw
      have u8 := hc8 wx hSw
      have u9 := hc9 wx hSw
      go_simp
      try with_reducible rfl
    try simp only [Act.put, List.setIfInBounds_toArray, List.set_cons_zero, List.set_cons_succ]
    refine wpAnyH_take (i := 14) (oi := ({ dst := some 8, op := Go.Op.assign (Go.Operand.tmp 46), type := 24, pos := "theorems.go:37", after := #[{ on := 12, ground := Go.Ground.data }, { on := 13, ground := Go.Ground.chain }, { on := 0, ground := Go.Ground.phase }, { on := 1, ground := Go.Ground.phase }, { on := 2, ground := Go.Ground.phase }, { on := 3, ground := Go.Ground.phase }, { on := 4, ground := Go.Ground.phase }, { on := 5, ground := Go.Ground.phase }, { on := 6, ground := Go.Ground.phase }, { on := 7, ground := Go.Ground.phase }, { on := 8, ground := Go.Ground.phase }, { on := 9, ground := Go.Ground.phase }, { on := 10, ground := Go.Ground.phase }, { on := 11, ground := Go.Ground.phase }, { on := 12, ground := Go.Ground.phase }, { on := 13, ground := Go.Ground.phase }], guard := none } : Go.Oper)) (v := .int .i64 c) rfl (by kernel_rfl) (by kernel_rfl) (by kernel_rfl) (fun _ _ _ h => h) (Or.inl ⟨by rfl, ?_⟩) (by assumption) ?_
    · intro wx hSw
      try dsimp only at hSw
      have u0 := hc0 wx hSw
      have u1 := hc1 wx hSw
      have u2 := hc2 wx hSw
      have u3 := hc3 wx hSw
      have u4 := hc4 wx hSw
      have u5 := hc5 wx hSw
      have u6 := hc6 wx hSw
      have u7 := hc7 wx hSw
      have u8 := hc8 wx hSw
      have u9 := hc9 wx hSw
      go_simp
      try with_reducible rfl
    try simp only [Act.put, List.setIfInBounds_toArray, List.set_cons_zero, List.set_cons_succ]
    refine wpAnyH_done (by kernel_rfl) ?_ _
    have hr4 : RW w4 w2.heap.size v ps := own_mono hown (Nat.le_refl _)
    have hA4 := hA2.later hHeld
    have hb4 := bt hb2 hHeld
    have hs24 := hHeld.size
    have hps2 := hA2.1
    obtain ⟨va, vc, rfl⟩ := hr4.shape
    clear hc0 hc1 hc2 hc3 hc4 hc5 hc6 hc7 hc8 hc9 hA2 hb2 hown l4 hHeld
    by_cases hce : c = 0
    rotate_left
    · have hce' : (c != 0) = true := by simp [hce]
      clear hA4 hr4 hC
      go_wp2
      go_ret
      exact ⟨by simp [hce], hb4⟩
    subst hce
    by_cases h60 : (60 : Int) < (ps.length : Int)
    · clear hA4 hr4 hC
      go_wp2
      go_ret
      exact ⟨by simp [h60], hb4⟩
    obtain ⟨g, N, HPX, rfl⟩ := cuts_px hC hd4
    have hN : N < 60 := by simp at h60; omega
    have hlen : ((List.range (N + 1)).map g).length = N + 1 := by simp
    rw [hlen] at hr4 h60
    rw [hlen]
    clear hC hpl
    go_wp2_with fail
    refine (new_t 3 1000 w4 (by decide) (by decide) (by decide) (by decide)).mono ?_
    rintro e w5 ⟨rfl, hBo, hGo, l5⟩
    have hA5 := hA4.later l5
    have hr5 := hr4.later l5
    have hb5 := bt hb4 l5
    have hbs := hBo.1
    have hrl := hr4.lt
    clear hA4 hr4 hb4
    have hmade := VM.made w5
    have q6 := bel1 w5 (.map #[] 0)
    go_upto_region 13 with fail
    replace hBo := hBo.later q6
    replace hGo := hGo.later q6
    replace hA5 := hA5.later q6
    replace hr5 := hr5.later q6
    replace hb5 := bt hb5 q6
    have hsz6 : w5.heap.size < (w5.alloc (.map #[] 0)).heap.size := by simp
    have hLF0 : LF (w5.alloc (.map #[] 0)) w5.heap.size (List.range 0) := hmade
    obtain ⟨L2, hL2⟩ : ∃ x, x = w5.heap.size := ⟨_, rfl⟩
    rw [← hL2] at hLF0 hsz6 hbs
    rw [← hL2]
    clear hmade q6 l5
    generalize w5.alloc (.map #[] 0) = w6 at *
    clear hL2
    have hN1 : ((N + 1 : Nat) : Int) = (N : Int) + 1 := by omega
    go_wp2
    go_loopw [74] (fun s W => ∃ j : Nat, j ≤ N + 1 ∧ s = .int .i64 (j : Int) ∧ LF W L2 (List.range j) ∧ Turn (fun k => k = L2) w6 W) (fun s _ => N + 1 - (intOf s).toNat)
    case atStart => exact ⟨0, Nat.zero_le _, rfl, hLF0, Turn.refl _⟩
    case round =>
      obtain ⟨j, hj, rfl, hLF, htj⟩ := hrel
      have hwj : (Lit.int .i64 (j : Int)).wf = true := WalkArith.wf_i64 (by omega)
      by_cases hlt : j < N + 1
      · have hlt' : (j : Int) < (N : Int) + 1 := by omega
        go_wp2_with (first
          | (at_mapUpdate; refine wpList_put_vm rfl _ _ _ rfl L2 (lD (List.range j)) (j : Int) (.bool true) hwj Try.underlying48 (by simp [lD]; omega) rfl hLF rfl rfl ?_; intro w7 hV7 ht7)
          | go_in)
        rw [vput_lD _ _ range_lt, ← List.range_succ] at hV7
        go_roundw
        case rel => exact ⟨j + 1, by omega, by simp, hV7, htj.trans ht7⟩
        case measure => simp [intOf]; omega
      · have hje : j = N + 1 := by omega
        subst hje
        have hnL : ∀ k, k ≠ L2 → ¬ (fun k => k = L2) k := fun k h => h
        have hA7 := hA5.turn htj (by show ¬ _ = _; omega)
        have hBo7 := hBo.turn htj (by show ¬ _ = _; omega)
        have hGo7 := hGo.turn htj (by show ¬ _ = _; omega)
        have hr7 := hr5.turn htj (fun k hk => by show ¬ _ = _; have := hrl k hk; omega)
        have hb7 : Below w.heap.size w wr := hb5.trans (htj.below (by have := hb5.size; omega) (fun k hk e => by have := hb5.size; omega))
        have hs67 := htj.size
        have hO7 := bx_new (R := wr.heap.size) hBo7 hGo7 (by omega) (by omega) (Nat.le_refl _) (by omega) (mk (⟨f, t, tl, pr, id, 0, false, false, op, da⟩ : Pk))
        clear hA5 hBo hGo hr5 hb5 hBo7 hGo7 hLF0 htj hnL
        obtain ⟨w7, hw7⟩ : ∃ x, x = wr := ⟨_, rfl⟩
        subst hw7
        have hA7c := hA7
        go_wp2
        obtain ⟨gb, cc, cur, hv, hge, hcur, -⟩ := hr7.real (fun e => by have := congrArg List.length e; simp at this)
        injection hv with e1 e2 e3
        subst e1 e3
        clear e2
        have hgb : gb < w4.heap.size := hrl gb (by simp [Value.ownBlock])
        clear hcur
        have HPXH : Hid (PX (⟨f, t, tl, pr, id, 0, false, false, op, da⟩ : Pk) g N) := HPX
        clear HPX
        go_loopw [12] (fun s W => ∃ i : Nat, i ≤ 261 ∧ s = .int .i64 (i : Int) ∧ BKs w7 W w4.heap.size L2 N (⟨f, t, tl, pr, id, 0, false, false, op, da⟩ : Pk) g i) (fun s _ => 300 - (intOf s).toNat)
        case atStart =>
          refine ⟨0, by decide, rfl, List.range (N + 1), hLF, Turn.refl _, Or.inr ⟨by simp, [], 0, 0, ⟨List.pairwise_lt_range, List.Pairwise.nil, (fun x => by simp; omega), (fun x hx => by cases hx), (fun x _ t h1 h2 => by omega)⟩, by decide, by decide, by decide, hO7⟩⟩
        case round =>
          clear hO7 hLF
          obtain ⟨i, hi, rfl, D, hLF, hfr, hcase⟩ := hrel
          have hbW : Below w.heap.size w wr := hb7.trans (hfr.below (by have := hb7.size; omega) (fun k hk e => by unfold FB at e; omega))
          have hAW := hA7.turn hfr (by unfold FB; omega)
          have hrW := hr7.turn hfr (fun k hk => by simp [Value.ownBlock] at hk; unfold FB; omega)
          have hs7 := hfr.size
          obtain ⟨dl, hdl⟩ : ∃ dl : Int, dl = (D.length : Int) := ⟨_, rfl⟩
          have hln : ∀ ty, (Builtin.len_ #[48] ty #[.map (some L2)]).run Try.prog wr = .ok (.int .i64 dl) wr := fun ty => by rw [hdl]; exact hLF.len ty
          have HDL : Hid (dl = (D.length : Int)) := hdl
          clear hdl
          rcases hcase with ⟨rfl, la, tu, hO⟩ | ⟨hD, S, la, tu, hLS, hla, ht0, ht1, hO⟩
          · have hln0 : ∀ ty, (Builtin.len_ #[48] ty #[.map (some L2)]).run Try.prog wr = .ok (.int .i64 0) wr := fun ty => by rw [hln ty, HDL.out]; rfl
            clear hln hAW hrW hLF hfr
            go_wp2_with fail
            refine (one_len hO).mono ?_
            rintro e w8 ⟨rfl, rfl⟩
            go_wp2
            go_ret
            exact ⟨rfl, hbW⟩
          have hi260 := hLS.bound hD hN
          have hDl : 0 < dl := by have := List.length_pos_iff.2 hD; have := HDL.out; omega
          have hDl2 : dl ≤ 1000 := by have := hLS.dlen hN; have := HDL.out; omega
          obtain ⟨kr, hkr⟩ : ∃ kr, kr = i % (N + 1) := ⟨_, rfl⟩
          have hkrN : kr ≤ N := by have := Nat.mod_lt i (show 0 < N + 1 by omega); omega
          have hrm : Int.tmod (i : Int) ((N : Int) + 1) = (kr : Int) := by
            rw [hkr, Int.tmod_eq_emod_of_nonneg (by omega)]
            first | exact (Int.natCast_emod i (N + 1)).symm | exact (Int.ofNat_emod i (N + 1)).symm | rfl
          have HKR : Hid (kr = i % (N + 1)) := hkr
          clear hkr
          have hn0 : ¬ ((N : Int) + 1 = 0) := by omega
          have hSl := hLS.slen hN
          by_cases hord : i < zs.length ∧ i < 200
          · obtain ⟨x, rfl, hxc⟩ : ∃ x, a = some x ∧ ∀ i, i < zs.length → w.cell? (x.add i) = some (.int .i64 (zs.getD i 0)) := by
              rcases HA.out with h | h
              · rw [h] at hord; simp at hord
              · exact h
            have hg := later hbW (hxc i hord.1)
            have ho1 : (i : Int) < (zs.length : Int) := by omega
            have ho2 : (i : Int) < 200 := by omega
            have ho3 : ¬ (200 : Int) ≤ (i : Int) := by omega
            clear hxc
            generalize zs.getD i 0 = z at *
            have hz0 : 0 ≤ z % ((N : Int) + 1) := Int.emod_nonneg _ (by omega)
            have hz1 : z % ((N : Int) + 1) < (N : Int) + 1 := Int.emod_lt_of_pos _ (by omega)
            obtain ⟨k, hkz⟩ : ∃ k : Nat, z % ((N : Int) + 1) = (k : Int) := ⟨(z % ((N : Int) + 1)).toNat, by omega⟩
            have hkN : k ≤ N := by omega
            have hcyc : 200 ≤ i → i % (N + 1) = k := fun h => by omega
            have hamo := among_any z ((N : Int) + 1) wr (by omega) (by omega)
            rw [hkz] at hamo
            clear hz0 hz1 hkz
            go_wp2_with fail
            refine hamo.mono ?_
            rintro e w8 ⟨rfl, hw8⟩
            rw [hw8]
            clear hamo hg hw8
            have hwk : (Lit.int .i64 (k : Int)).wf = true := WalkArith.wf_i64 (by omega)
            have hlk := hLF.look k hwk
            by_cases hkD : k ∈ D
            · rw [decide_eq_true hkD] at hlk
              by_cases hl1 : dl = 1
              · replace hln : ∀ ty, (Builtin.len_ #[48] ty #[.map (some L2)]).run Try.prog wr = .ok (.int .i64 1) wr := fun ty => by rw [hln ty, hl1]
                have hDk := one_left hLS.dp hkD (by have := HDL.out; omega)
                clear hl1 hDl hDl2
                have hkS : k ∉ S := ((hLS.iff k).1 hkD).2
                have hall : ∀ x, x ≤ N → x ≠ k → x ∈ S := fun x hx hne => by
                  apply Classical.byContradiction
                  intro hn
                  have := (hLS.iff x).2 ⟨hx, hn⟩
                  rw [hDk] at this
                  exact hne (List.mem_singleton.1 this)
                as_aux_lemma =>
                  go_upto_region 27 with (first
                    | (at_delete; refine wpList_delete_vm rfl _ _ rfl L2 (lD D) (k : Int) hwk Try.underlying48 rfl hLF rfl ?_; intro w8 hV8 ht8)
                    | go_in)
                  rw [vdel_lD] at hV8
                  have hO8 := hO.turn ht8 (by show ¬ _ = _; omega) (by show ¬ _ = _; omega) (fun j hj => by show ¬ _ = _; omega)
                  have hA8 := hAW.turn ht8 (by show ¬ _ = _; omega)
                  have hr8 := hrW.turn ht8 (fun j hj => by simp [Value.ownBlock] at hj; show ¬ _ = _; omega)
                  have hf8 := hfr.trans (ht8.mono (S' := fun k => k = L2 ∨ FB w7.heap.size (w4.heap.size + 1) w4.heap.size k) (fun j e => Or.inl e))
                  have hs8 := ht8.size
                  have hrg : w8.rangeAt gb (k * 10) [.int .i64 (g k).f, .int .i64 (g k).t, .int .i64 (g k).tl, .int .i64 (g k).pr, .int .i64 (g k).id, .int .i64 (g k).fr, .bool (g k).mo, .bool (g k).dn, .string (g k).op, .string (g k).da] := fun q u hu => hr8.cells (i := k) (p := g k) (at_range g hkN) q u hu
                  have hcon := HPXH.out.last hkN hkS hall hLS.sp hLS.sN hSl hO8 (i : Int) hla (by omega)
                  have hk0 : (k : Int) < (N : Int) + 1 := by omega
                  clear hlk hln hO hAW hrW hLF hfr ht8 hO8
                  go_wp2_with (first
                    | (refine wpList_load_mid rfl 32 _ rfl gb (k * 10) (by first | rfl | simp) _ _ hrg Try.underlying32 rfl (by kernel_rfl) ?_)
                    | fail)
                  refine hcon.mono ?_
                  rintro e w9 ⟨rfl, hO9, ht9⟩
                  have hA9 := hA8.turn ht9 (by unfold FB; omega)
                  have hV9 : LF w9 L2 (D.filter (fun d => decide (d ≠ k))) := VM.turn hV8 ht9 (by unfold FB; omega)
                  have hf9 := hf8.trans (ht9.mono (S' := fun k => k = L2 ∨ FB w7.heap.size (w4.heap.size + 1) w4.heap.size k) (fun j e => Or.inr e))
                  have hs9 := ht9.size
                  clear hcon hrg hA8 hr8 hV8 hf8 ht9
                  go_upto_region 28 with (first
                    | (refine wpList_store_at rfl 32 _ _ rfl _ w9.heap.size #[.int .i64 0, .int .i64 0, .int .i64 0, .int .i64 0, .int .i64 0, .int .i64 0, .bool false, .bool false, .string ⟨#[]⟩, .string ⟨#[]⟩] #[.int .i64 f, .int .i64 t, .int .i64 tl, .int .i64 pr, .int .i64 id, .int .i64 0, .bool false, .bool false, .string op, .string da] rfl rfl (At.box w9 #[.int .i64 0, .int .i64 0, .int .i64 0, .int .i64 0, .int .i64 0, .int .i64 0, .bool false, .bool false, .string ⟨#[]⟩, .string ⟨#[]⟩] 32) rfl (by kernel_rfl) (by simp [Value.oneCell']) ?_; intro w10 hQ10 ht10)
                    | go_in)
                  have q10 : Below w9.heap.size w9 w10 := (bel1 w9 (.cells #[.int .i64 0, .int .i64 0, .int .i64 0, .int .i64 0, .int .i64 0, .int .i64 0, .bool false, .bool false, .string ⟨#[]⟩, .string ⟨#[]⟩] 32)).trans (below_turn ht10 (Nat.le_refl _) (bel1 w9 _).size)
                  have hA10 := hA9.later q10
                  have hV10 : LF w10 L2 (D.filter (fun d => decide (d ≠ k))) := VM.later hV9 q10
                  have hf10 := hf9.later q10
                  have hO10 := hO9.later q10
                  clear hA9 hV9 hf9 hO9 ht10 q10
                  obtain ⟨⟨a0, a1, a2, a3, a4, a5, a6, a7, a8, a9⟩, -, -⟩ := hQ10.ten
                  obtain ⟨⟨b0, b1, b2, b3, b4, b5, b6, b7, b8, b9⟩, -, -⟩ := hA10.ten
                  clear hQ10 hA10
                  have hDe : D.filter (fun d => decide (d ≠ k)) = [] := by rw [hDk]; simp
                  go_wp2
                  go_roundw
                  case rel =>
                    first
                      | exact ⟨i + 1, by omega, by simp, [], by rw [← hDe]; exact hV10, hf10, Or.inl ⟨rfl, _, _, hO10⟩⟩
                      | (repeat apply Exists.intro
                         refine ⟨⟨i + 1, by omega, ?_, [], by rw [← hDe]; exact hV10, hf10, Or.inl ⟨rfl, _, _, hO10⟩⟩, rfl⟩
                         first | rfl | (simp; done))
                  case measure => simp [intOf]; omega
              · have hl1' : (dl == 1) = false := by simp [hl1]
                obtain ⟨x, hxD, hxk⟩ := more_left hLS.dp hkD (by have := HDL.out; omega)
                have hxN := ((hLS.iff x).1 hxD).1
                have hxS := ((hLS.iff x).1 hxD).2
                have hkS : k ∉ S := ((hLS.iff k).1 hkD).2
                as_aux_lemma =>
                  go_upto_region 27 with (first
                    | (at_delete; refine wpList_delete_vm rfl _ _ rfl L2 (lD D) (k : Int) hwk Try.underlying48 rfl hLF rfl ?_; intro w8 hV8 ht8)
                    | go_in)
                  rw [vdel_lD] at hV8
                  have hO8 := hO.turn ht8 (by show ¬ _ = _; omega) (by show ¬ _ = _; omega) (fun j hj => by show ¬ _ = _; omega)
                  have hA8 := hAW.turn ht8 (by show ¬ _ = _; omega)
                  have hr8 := hrW.turn ht8 (fun j hj => by simp [Value.ownBlock] at hj; show ¬ _ = _; omega)
                  have hf8 := hfr.trans (ht8.mono (S' := fun k => k = L2 ∨ FB w7.heap.size (w4.heap.size + 1) w4.heap.size k) (fun j e => Or.inl e))
                  have hs8 := ht8.size
                  have hrg : w8.rangeAt gb (k * 10) [.int .i64 (g k).f, .int .i64 (g k).t, .int .i64 (g k).tl, .int .i64 (g k).pr, .int .i64 (g k).id, .int .i64 (g k).fr, .bool (g k).mo, .bool (g k).dn, .string (g k).op, .string (g k).da] := fun q u hu => hr8.cells (i := k) (p := g k) (at_range g hkN) q u hu
                  have hcon := HPXH.out.more hkN hkS hxN hxk hxS hLS.sp hLS.sN hSl hO8 ht0 (by omega) (i : Int) hla (by omega)
                  have hk0 : (k : Int) < (N : Int) + 1 := by omega
                  clear hlk hln hO hAW hrW hLF hfr ht8 hO8
                  go_wp2_with (first
                    | (refine wpList_load_mid rfl 32 _ rfl gb (k * 10) (by first | rfl | simp) _ _ hrg Try.underlying32 rfl (by kernel_rfl) ?_)
                    | fail)
                  refine hcon.mono ?_
                  rintro e w9 ⟨rfl, ⟨T, tu', hTp, hTm, htu, hO9⟩, ht9⟩
                  have hA9 := hA8.turn ht9 (by unfold FB; omega)
                  have hV9 : LF w9 L2 (D.filter (fun d => decide (d ≠ k))) := VM.turn hV8 ht9 (by unfold FB; omega)
                  have hf9 := hf8.trans (ht9.mono (S' := fun k => k = L2 ∨ FB w7.heap.size (w4.heap.size + 1) w4.heap.size k) (fun j e => Or.inr e))
                  have hs9 := ht9.size
                  clear hcon hrg hA8 hr8 hV8 hf8 ht9
                  go_upto_region 28 with (first
                    | (refine wpList_store_at rfl 32 _ _ rfl _ w9.heap.size #[.int .i64 0, .int .i64 0, .int .i64 0, .int .i64 0, .int .i64 0, .int .i64 0, .bool false, .bool false, .string ⟨#[]⟩, .string ⟨#[]⟩] #[.int .i64 0, .int .i64 0, .int .i64 0, .int .i64 0, .int .i64 0, .int .i64 0, .bool false, .bool false, .string ⟨#[]⟩, .string ⟨#[]⟩] rfl rfl (At.box w9 #[.int .i64 0, .int .i64 0, .int .i64 0, .int .i64 0, .int .i64 0, .int .i64 0, .bool false, .bool false, .string ⟨#[]⟩, .string ⟨#[]⟩] 32) rfl (by kernel_rfl) (by simp [Value.oneCell']) ?_; intro w10 hQ10 ht10)
                    | go_in)
                  have q10 : Below w9.heap.size w9 w10 := (bel1 w9 (.cells #[.int .i64 0, .int .i64 0, .int .i64 0, .int .i64 0, .int .i64 0, .int .i64 0, .bool false, .bool false, .string ⟨#[]⟩, .string ⟨#[]⟩] 32)).trans (below_turn ht10 (Nat.le_refl _) (bel1 w9 _).size)
                  have hA10 := hA9.later q10
                  have hV10 : LF w10 L2 (D.filter (fun d => decide (d ≠ k))) := VM.later hV9 q10
                  have hf10 := hf9.later q10
                  have hO10 := hO9.later q10
                  clear hA9 hV9 hf9 hO9 ht10 q10
                  clear hQ10 hA10
                  have hDe : D.filter (fun d => decide (d ≠ k)) ≠ [] := fun e => by
                    have : x ∈ D.filter (fun d => decide (d ≠ k)) := List.mem_filter.2 ⟨hxD, decide_eq_true hxk⟩
                    rw [e] at this
                    cases this
                  go_wp2
                  go_roundw
                  case rel =>
                    first
                      | exact ⟨i + 1, by omega, by simp, _, hV10, hf10, Or.inr ⟨hDe, T, _, tu', hLS.put hkN hTp hTm hcyc, by omega, by omega, by omega, hO10⟩⟩
                      | (repeat apply Exists.intro
                         refine ⟨⟨i + 1, by omega, ?_, _, hV10, hf10, Or.inr ⟨hDe, T, _, tu', hLS.put hkN hTp hTm hcyc, by omega, by omega, by omega, hO10⟩⟩, rfl⟩
                         first | rfl | (simp; done))
                  case measure => simp [intOf]; omega
            · rw [decide_eq_false hkD] at hlk
              have hkS : k ∈ S := by
                apply Classical.byContradiction
                intro hn
                exact hkD ((hLS.iff k).2 ⟨hkN, hn⟩)
              have hN1' : 1 ≤ N := by
                cases D with
                | nil => exact absurd rfl hD
                | cons d r =>
                  have h1 := (hLS.iff d).1 (List.mem_cons_self ..)
                  have h2 : d ≠ k := fun e => h1.2 (by rw [e]; exact hkS)
                  omega
              have HN1 : Hid (1 ≤ N) := hN1'
              have HKS : Hid (k ∈ S) := hkS
              have HCY : Hid (200 ≤ i → i % (N + 1) = k) := hcyc
              have HKD : Hid (k ∉ D) := hkD
              have HLSS : Hid (LS N i D S) := hLS
              have hi26 : i ≤ 260 := hi260
              obtain ⟨iz, hiz⟩ : ∃ iz : Int, iz = (i : Int) := ⟨_, rfl⟩
              have HIZ : Hid (iz = (i : Int) ∧ i ≤ 260 ∧ tu ≤ (i : Int)) := ⟨hiz, hi260, ht1⟩
              have hz2 : ¬ 200 ≤ iz := by omega
              have hlz : la ≤ iz := by omega
              have hiz0 : iz ≤ 1000 := by omega
              have hiz1 : 0 ≤ iz := by omega
              rw [← hiz]
              rw [← hiz] at hrm ho1
              clear hN1' hkS hcyc hkD hLS hla ht1 hi hi260 hi26 hiz
              as_aux_lemma =>
                go_upto_region 25 with fail
                go_upto_if 119 with fail
                have hz9 : decide (200 ≤ iz) = false := decide_eq_false (by omega)
                try rw [hz9]
                go_upto_region 26 with fail
                go_upto_region 27 with (first
                  | (at_delete; refine wpList_delete_vm rfl _ _ rfl L2 (lD D) (k : Int) hwk Try.underlying48 rfl hLF rfl ?_; intro w8 hV8 ht8)
                  | go_in)
                rw [vdel_lD] at hV8
                have hO8 := hO.turn ht8 (by show ¬ _ = _; omega) (by show ¬ _ = _; omega) (fun j hj => by show ¬ _ = _; omega)
                have hA8 := hAW.turn ht8 (by show ¬ _ = _; omega)
                have hr8 := hrW.turn ht8 (fun j hj => by simp [Value.ownBlock] at hj; show ¬ _ = _; omega)
                have hf8 := hfr.trans (ht8.mono (S' := fun k => k = L2 ∨ FB w7.heap.size (w4.heap.size + 1) w4.heap.size k) (fun j e => Or.inl e))
                have hs8 := ht8.size
                have hrg : w8.rangeAt gb (k * 10) [.int .i64 (g k).f, .int .i64 (g k).t, .int .i64 (g k).tl, .int .i64 (g k).pr, .int .i64 (g k).id, .int .i64 (g k).fr, .bool (g k).mo, .bool (g k).dn, .string (g k).op, .string (g k).da] := fun q u hu => hr8.cells (i := k) (p := g k) (at_range g hkN) q u hu
                have hcon := HPXH.out.has hkN HN1.out HKS.out hO8 iz hlz (by omega)
                have hk0 : (k : Int) < (N : Int) + 1 := by omega
                clear hlk hln hO hAW hrW hLF hfr ht8 hO8
                go_wp2_with (first
                  | (refine wpList_load_mid rfl 32 _ rfl gb (k * 10) (by first | rfl | simp) _ _ hrg Try.underlying32 rfl (by kernel_rfl) ?_)
                  | fail)
                refine hcon.mono ?_
                rintro e w9 ⟨rfl, hO9, ht9⟩
                have hA9 := hA8.turn ht9 (by unfold FB; omega)
                have hV9 : LF w9 L2 (D.filter (fun d => decide (d ≠ k))) := VM.turn hV8 ht9 (by unfold FB; omega)
                have hf9 := hf8.trans (ht9.mono (S' := fun k => k = L2 ∨ FB w7.heap.size (w4.heap.size + 1) w4.heap.size k) (fun j e => Or.inr e))
                have hs9 := ht9.size
                clear hcon hrg hA8 hr8 hV8 hf8 ht9
                go_upto_region 28 with (first
                  | (refine wpList_store_at rfl 32 _ _ rfl _ w9.heap.size #[.int .i64 0, .int .i64 0, .int .i64 0, .int .i64 0, .int .i64 0, .int .i64 0, .bool false, .bool false, .string ⟨#[]⟩, .string ⟨#[]⟩] #[.int .i64 0, .int .i64 0, .int .i64 0, .int .i64 0, .int .i64 0, .int .i64 0, .bool false, .bool false, .string ⟨#[]⟩, .string ⟨#[]⟩] rfl rfl (At.box w9 #[.int .i64 0, .int .i64 0, .int .i64 0, .int .i64 0, .int .i64 0, .int .i64 0, .bool false, .bool false, .string ⟨#[]⟩, .string ⟨#[]⟩] 32) rfl (by kernel_rfl) (by simp [Value.oneCell']) ?_; intro w10 hQ10 ht10)
                  | go_in)
                have q10 : Below w9.heap.size w9 w10 := (bel1 w9 (.cells #[.int .i64 0, .int .i64 0, .int .i64 0, .int .i64 0, .int .i64 0, .int .i64 0, .bool false, .bool false, .string ⟨#[]⟩, .string ⟨#[]⟩] 32)).trans (below_turn ht10 (Nat.le_refl _) (bel1 w9 _).size)
                have hA10 := hA9.later q10
                have hV10 : LF w10 L2 (D.filter (fun d => decide (d ≠ k))) := VM.later hV9 q10
                have hf10 := hf9.later q10
                have hO10 := hO9.later q10
                clear hA9 hV9 hf9 hO9 ht10 q10
                clear hQ10 hA10
                rw [filter_self HKD.out] at hV10
                go_wp2
                go_roundw
                case rel =>
                  have hq := HIZ.out
                  first
                    | exact ⟨i + 1, by omega, by rw [hq.1]; simp, D, hV10, hf10, Or.inr ⟨hD, S, _, tu, HLSS.out.skip HKD.out HCY.out, by omega, ht0, by omega, hO10⟩⟩
                    | (repeat apply Exists.intro
                       refine ⟨⟨i + 1, by omega, ?_, D, hV10, hf10, Or.inr ⟨hD, S, _, tu, HLSS.out.skip HKD.out HCY.out, by omega, ht0, by omega, hO10⟩⟩, rfl⟩
                       rw [hq.1]
                       first | rfl | (simp; done))
                case measure => have hq := HIZ.out; simp [intOf]; omega
          · have ho3 : ¬ ((i : Int) < (zs.length : Int) ∧ (i : Int) < 200) := fun h => hord ⟨by omega, by omega⟩
            obtain ⟨k, rfl⟩ : ∃ k, k = kr := ⟨_, rfl⟩
            have hkN := hkrN
            have hcyc : 200 ≤ i → i % (N + 1) = k := fun h => HKR.out.symm
            by_cases ho1 : (i : Int) < (zs.length : Int)
            · have ho2 : ¬ (i : Int) < 200 := by omega
              have ho4 : (200 : Int) ≤ (i : Int) := by omega
              have hwk : (Lit.int .i64 (k : Int)).wf = true := WalkArith.wf_i64 (by omega)
              have hlk := hLF.look k hwk
              by_cases hkD : k ∈ D
              · rw [decide_eq_true hkD] at hlk
                by_cases hl1 : dl = 1
                · replace hln : ∀ ty, (Builtin.len_ #[48] ty #[.map (some L2)]).run Try.prog wr = .ok (.int .i64 1) wr := fun ty => by rw [hln ty, hl1]
                  have hDk := one_left hLS.dp hkD (by have := HDL.out; omega)
                  clear hl1 hDl hDl2
                  have hkS : k ∉ S := ((hLS.iff k).1 hkD).2
                  have hall : ∀ x, x ≤ N → x ≠ k → x ∈ S := fun x hx hne => by
                    apply Classical.byContradiction
                    intro hn
                    have := (hLS.iff x).2 ⟨hx, hn⟩
                    rw [hDk] at this
                    exact hne (List.mem_singleton.1 this)
                  as_aux_lemma =>
                    go_upto_region 27 with (first
                      | (at_delete; refine wpList_delete_vm rfl _ _ rfl L2 (lD D) (k : Int) hwk Try.underlying48 rfl hLF rfl ?_; intro w8 hV8 ht8)
                      | go_in)
                    rw [vdel_lD] at hV8
                    have hO8 := hO.turn ht8 (by show ¬ _ = _; omega) (by show ¬ _ = _; omega) (fun j hj => by show ¬ _ = _; omega)
                    have hA8 := hAW.turn ht8 (by show ¬ _ = _; omega)
                    have hr8 := hrW.turn ht8 (fun j hj => by simp [Value.ownBlock] at hj; show ¬ _ = _; omega)
                    have hf8 := hfr.trans (ht8.mono (S' := fun k => k = L2 ∨ FB w7.heap.size (w4.heap.size + 1) w4.heap.size k) (fun j e => Or.inl e))
                    have hs8 := ht8.size
                    have hrg : w8.rangeAt gb (k * 10) [.int .i64 (g k).f, .int .i64 (g k).t, .int .i64 (g k).tl, .int .i64 (g k).pr, .int .i64 (g k).id, .int .i64 (g k).fr, .bool (g k).mo, .bool (g k).dn, .string (g k).op, .string (g k).da] := fun q u hu => hr8.cells (i := k) (p := g k) (at_range g hkN) q u hu
                    have hcon := HPXH.out.last hkN hkS hall hLS.sp hLS.sN hSl hO8 (i : Int) hla (by omega)
                    have hk0 : (k : Int) < (N : Int) + 1 := by omega
                    clear hlk hln hO hAW hrW hLF hfr ht8 hO8
                    go_wp2_with (first
                      | (refine wpList_load_mid rfl 32 _ rfl gb (k * 10) (by first | rfl | simp) _ _ hrg Try.underlying32 rfl (by kernel_rfl) ?_)
                      | fail)
                    refine hcon.mono ?_
                    rintro e w9 ⟨rfl, hO9, ht9⟩
                    have hA9 := hA8.turn ht9 (by unfold FB; omega)
                    have hV9 : LF w9 L2 (D.filter (fun d => decide (d ≠ k))) := VM.turn hV8 ht9 (by unfold FB; omega)
                    have hf9 := hf8.trans (ht9.mono (S' := fun k => k = L2 ∨ FB w7.heap.size (w4.heap.size + 1) w4.heap.size k) (fun j e => Or.inr e))
                    have hs9 := ht9.size
                    clear hcon hrg hA8 hr8 hV8 hf8 ht9
                    go_upto_region 28 with (first
                      | (refine wpList_store_at rfl 32 _ _ rfl _ w9.heap.size #[.int .i64 0, .int .i64 0, .int .i64 0, .int .i64 0, .int .i64 0, .int .i64 0, .bool false, .bool false, .string ⟨#[]⟩, .string ⟨#[]⟩] #[.int .i64 f, .int .i64 t, .int .i64 tl, .int .i64 pr, .int .i64 id, .int .i64 0, .bool false, .bool false, .string op, .string da] rfl rfl (At.box w9 #[.int .i64 0, .int .i64 0, .int .i64 0, .int .i64 0, .int .i64 0, .int .i64 0, .bool false, .bool false, .string ⟨#[]⟩, .string ⟨#[]⟩] 32) rfl (by kernel_rfl) (by simp [Value.oneCell']) ?_; intro w10 hQ10 ht10)
                      | go_in)
                    have q10 : Below w9.heap.size w9 w10 := (bel1 w9 (.cells #[.int .i64 0, .int .i64 0, .int .i64 0, .int .i64 0, .int .i64 0, .int .i64 0, .bool false, .bool false, .string ⟨#[]⟩, .string ⟨#[]⟩] 32)).trans (below_turn ht10 (Nat.le_refl _) (bel1 w9 _).size)
                    have hA10 := hA9.later q10
                    have hV10 : LF w10 L2 (D.filter (fun d => decide (d ≠ k))) := VM.later hV9 q10
                    have hf10 := hf9.later q10
                    have hO10 := hO9.later q10
                    clear hA9 hV9 hf9 hO9 ht10 q10
                    obtain ⟨⟨a0, a1, a2, a3, a4, a5, a6, a7, a8, a9⟩, -, -⟩ := hQ10.ten
                    obtain ⟨⟨b0, b1, b2, b3, b4, b5, b6, b7, b8, b9⟩, -, -⟩ := hA10.ten
                    clear hQ10 hA10
                    have hDe : D.filter (fun d => decide (d ≠ k)) = [] := by rw [hDk]; simp
                    go_wp2
                    go_roundw
                    case rel =>
                      first
                        | exact ⟨i + 1, by omega, by simp, [], by rw [← hDe]; exact hV10, hf10, Or.inl ⟨rfl, _, _, hO10⟩⟩
                        | (repeat apply Exists.intro
                           refine ⟨⟨i + 1, by omega, ?_, [], by rw [← hDe]; exact hV10, hf10, Or.inl ⟨rfl, _, _, hO10⟩⟩, rfl⟩
                           first | rfl | (simp; done))
                    case measure => simp [intOf]; omega
                · have hl1' : (dl == 1) = false := by simp [hl1]
                  obtain ⟨x, hxD, hxk⟩ := more_left hLS.dp hkD (by have := HDL.out; omega)
                  have hxN := ((hLS.iff x).1 hxD).1
                  have hxS := ((hLS.iff x).1 hxD).2
                  have hkS : k ∉ S := ((hLS.iff k).1 hkD).2
                  as_aux_lemma =>
                    go_upto_region 27 with (first
                      | (at_delete; refine wpList_delete_vm rfl _ _ rfl L2 (lD D) (k : Int) hwk Try.underlying48 rfl hLF rfl ?_; intro w8 hV8 ht8)
                      | go_in)
                    rw [vdel_lD] at hV8
                    have hO8 := hO.turn ht8 (by show ¬ _ = _; omega) (by show ¬ _ = _; omega) (fun j hj => by show ¬ _ = _; omega)
                    have hA8 := hAW.turn ht8 (by show ¬ _ = _; omega)
                    have hr8 := hrW.turn ht8 (fun j hj => by simp [Value.ownBlock] at hj; show ¬ _ = _; omega)
                    have hf8 := hfr.trans (ht8.mono (S' := fun k => k = L2 ∨ FB w7.heap.size (w4.heap.size + 1) w4.heap.size k) (fun j e => Or.inl e))
                    have hs8 := ht8.size
                    have hrg : w8.rangeAt gb (k * 10) [.int .i64 (g k).f, .int .i64 (g k).t, .int .i64 (g k).tl, .int .i64 (g k).pr, .int .i64 (g k).id, .int .i64 (g k).fr, .bool (g k).mo, .bool (g k).dn, .string (g k).op, .string (g k).da] := fun q u hu => hr8.cells (i := k) (p := g k) (at_range g hkN) q u hu
                    have hcon := HPXH.out.more hkN hkS hxN hxk hxS hLS.sp hLS.sN hSl hO8 ht0 (by omega) (i : Int) hla (by omega)
                    have hk0 : (k : Int) < (N : Int) + 1 := by omega
                    clear hlk hln hO hAW hrW hLF hfr ht8 hO8
                    go_wp2_with (first
                      | (refine wpList_load_mid rfl 32 _ rfl gb (k * 10) (by first | rfl | simp) _ _ hrg Try.underlying32 rfl (by kernel_rfl) ?_)
                      | fail)
                    refine hcon.mono ?_
                    rintro e w9 ⟨rfl, ⟨T, tu', hTp, hTm, htu, hO9⟩, ht9⟩
                    have hA9 := hA8.turn ht9 (by unfold FB; omega)
                    have hV9 : LF w9 L2 (D.filter (fun d => decide (d ≠ k))) := VM.turn hV8 ht9 (by unfold FB; omega)
                    have hf9 := hf8.trans (ht9.mono (S' := fun k => k = L2 ∨ FB w7.heap.size (w4.heap.size + 1) w4.heap.size k) (fun j e => Or.inr e))
                    have hs9 := ht9.size
                    clear hcon hrg hA8 hr8 hV8 hf8 ht9
                    go_upto_region 28 with (first
                      | (refine wpList_store_at rfl 32 _ _ rfl _ w9.heap.size #[.int .i64 0, .int .i64 0, .int .i64 0, .int .i64 0, .int .i64 0, .int .i64 0, .bool false, .bool false, .string ⟨#[]⟩, .string ⟨#[]⟩] #[.int .i64 0, .int .i64 0, .int .i64 0, .int .i64 0, .int .i64 0, .int .i64 0, .bool false, .bool false, .string ⟨#[]⟩, .string ⟨#[]⟩] rfl rfl (At.box w9 #[.int .i64 0, .int .i64 0, .int .i64 0, .int .i64 0, .int .i64 0, .int .i64 0, .bool false, .bool false, .string ⟨#[]⟩, .string ⟨#[]⟩] 32) rfl (by kernel_rfl) (by simp [Value.oneCell']) ?_; intro w10 hQ10 ht10)
                      | go_in)
                    have q10 : Below w9.heap.size w9 w10 := (bel1 w9 (.cells #[.int .i64 0, .int .i64 0, .int .i64 0, .int .i64 0, .int .i64 0, .int .i64 0, .bool false, .bool false, .string ⟨#[]⟩, .string ⟨#[]⟩] 32)).trans (below_turn ht10 (Nat.le_refl _) (bel1 w9 _).size)
                    have hA10 := hA9.later q10
                    have hV10 : LF w10 L2 (D.filter (fun d => decide (d ≠ k))) := VM.later hV9 q10
                    have hf10 := hf9.later q10
                    have hO10 := hO9.later q10
                    clear hA9 hV9 hf9 hO9 ht10 q10
                    clear hQ10 hA10
                    have hDe : D.filter (fun d => decide (d ≠ k)) ≠ [] := fun e => by
                      have : x ∈ D.filter (fun d => decide (d ≠ k)) := List.mem_filter.2 ⟨hxD, decide_eq_true hxk⟩
                      rw [e] at this
                      cases this
                    go_wp2
                    go_roundw
                    case rel =>
                      first
                        | exact ⟨i + 1, by omega, by simp, _, hV10, hf10, Or.inr ⟨hDe, T, _, tu', hLS.put hkN hTp hTm hcyc, by omega, by omega, by omega, hO10⟩⟩
                        | (repeat apply Exists.intro
                           refine ⟨⟨i + 1, by omega, ?_, _, hV10, hf10, Or.inr ⟨hDe, T, _, tu', hLS.put hkN hTp hTm hcyc, by omega, by omega, by omega, hO10⟩⟩, rfl⟩
                           first | rfl | (simp; done))
                    case measure => simp [intOf]; omega
              · rw [decide_eq_false hkD] at hlk
                clear hAW hrW
                as_aux_lemma =>
                  go_wp2
                  go_roundw
                  case rel => exact ⟨i + 1, by omega, by simp, D, hLF, hfr, Or.inr ⟨hD, S, la, tu, hLS.skip hkD hcyc, by omega, ht0, by omega, hO⟩⟩
                  case measure => simp [intOf]; omega
            · by_cases ho4 : (200 : Int) ≤ (i : Int)
              · skip
                have hwk : (Lit.int .i64 (k : Int)).wf = true := WalkArith.wf_i64 (by omega)
                have hlk := hLF.look k hwk
                by_cases hkD : k ∈ D
                · rw [decide_eq_true hkD] at hlk
                  by_cases hl1 : dl = 1
                  · replace hln : ∀ ty, (Builtin.len_ #[48] ty #[.map (some L2)]).run Try.prog wr = .ok (.int .i64 1) wr := fun ty => by rw [hln ty, hl1]
                    have hDk := one_left hLS.dp hkD (by have := HDL.out; omega)
                    clear hl1 hDl hDl2
                    have hkS : k ∉ S := ((hLS.iff k).1 hkD).2
                    have hall : ∀ x, x ≤ N → x ≠ k → x ∈ S := fun x hx hne => by
                      apply Classical.byContradiction
                      intro hn
                      have := (hLS.iff x).2 ⟨hx, hn⟩
                      rw [hDk] at this
                      exact hne (List.mem_singleton.1 this)
                    as_aux_lemma =>
                      go_upto_region 27 with (first
                        | (at_delete; refine wpList_delete_vm rfl _ _ rfl L2 (lD D) (k : Int) hwk Try.underlying48 rfl hLF rfl ?_; intro w8 hV8 ht8)
                        | go_in)
                      rw [vdel_lD] at hV8
                      have hO8 := hO.turn ht8 (by show ¬ _ = _; omega) (by show ¬ _ = _; omega) (fun j hj => by show ¬ _ = _; omega)
                      have hA8 := hAW.turn ht8 (by show ¬ _ = _; omega)
                      have hr8 := hrW.turn ht8 (fun j hj => by simp [Value.ownBlock] at hj; show ¬ _ = _; omega)
                      have hf8 := hfr.trans (ht8.mono (S' := fun k => k = L2 ∨ FB w7.heap.size (w4.heap.size + 1) w4.heap.size k) (fun j e => Or.inl e))
                      have hs8 := ht8.size
                      have hrg : w8.rangeAt gb (k * 10) [.int .i64 (g k).f, .int .i64 (g k).t, .int .i64 (g k).tl, .int .i64 (g k).pr, .int .i64 (g k).id, .int .i64 (g k).fr, .bool (g k).mo, .bool (g k).dn, .string (g k).op, .string (g k).da] := fun q u hu => hr8.cells (i := k) (p := g k) (at_range g hkN) q u hu
                      have hcon := HPXH.out.last hkN hkS hall hLS.sp hLS.sN hSl hO8 (i : Int) hla (by omega)
                      have hk0 : (k : Int) < (N : Int) + 1 := by omega
                      clear hlk hln hO hAW hrW hLF hfr ht8 hO8
                      go_wp2_with (first
                        | (refine wpList_load_mid rfl 32 _ rfl gb (k * 10) (by first | rfl | simp) _ _ hrg Try.underlying32 rfl (by kernel_rfl) ?_)
                        | fail)
                      refine hcon.mono ?_
                      rintro e w9 ⟨rfl, hO9, ht9⟩
                      have hA9 := hA8.turn ht9 (by unfold FB; omega)
                      have hV9 : LF w9 L2 (D.filter (fun d => decide (d ≠ k))) := VM.turn hV8 ht9 (by unfold FB; omega)
                      have hf9 := hf8.trans (ht9.mono (S' := fun k => k = L2 ∨ FB w7.heap.size (w4.heap.size + 1) w4.heap.size k) (fun j e => Or.inr e))
                      have hs9 := ht9.size
                      clear hcon hrg hA8 hr8 hV8 hf8 ht9
                      go_upto_region 28 with (first
                        | (refine wpList_store_at rfl 32 _ _ rfl _ w9.heap.size #[.int .i64 0, .int .i64 0, .int .i64 0, .int .i64 0, .int .i64 0, .int .i64 0, .bool false, .bool false, .string ⟨#[]⟩, .string ⟨#[]⟩] #[.int .i64 f, .int .i64 t, .int .i64 tl, .int .i64 pr, .int .i64 id, .int .i64 0, .bool false, .bool false, .string op, .string da] rfl rfl (At.box w9 #[.int .i64 0, .int .i64 0, .int .i64 0, .int .i64 0, .int .i64 0, .int .i64 0, .bool false, .bool false, .string ⟨#[]⟩, .string ⟨#[]⟩] 32) rfl (by kernel_rfl) (by simp [Value.oneCell']) ?_; intro w10 hQ10 ht10)
                        | go_in)
                      have q10 : Below w9.heap.size w9 w10 := (bel1 w9 (.cells #[.int .i64 0, .int .i64 0, .int .i64 0, .int .i64 0, .int .i64 0, .int .i64 0, .bool false, .bool false, .string ⟨#[]⟩, .string ⟨#[]⟩] 32)).trans (below_turn ht10 (Nat.le_refl _) (bel1 w9 _).size)
                      have hA10 := hA9.later q10
                      have hV10 : LF w10 L2 (D.filter (fun d => decide (d ≠ k))) := VM.later hV9 q10
                      have hf10 := hf9.later q10
                      have hO10 := hO9.later q10
                      clear hA9 hV9 hf9 hO9 ht10 q10
                      obtain ⟨⟨a0, a1, a2, a3, a4, a5, a6, a7, a8, a9⟩, -, -⟩ := hQ10.ten
                      obtain ⟨⟨b0, b1, b2, b3, b4, b5, b6, b7, b8, b9⟩, -, -⟩ := hA10.ten
                      clear hQ10 hA10
                      have hDe : D.filter (fun d => decide (d ≠ k)) = [] := by rw [hDk]; simp
                      go_wp2
                      go_roundw
                      case rel =>
                        first
                          | exact ⟨i + 1, by omega, by simp, [], by rw [← hDe]; exact hV10, hf10, Or.inl ⟨rfl, _, _, hO10⟩⟩
                          | (repeat apply Exists.intro
                             refine ⟨⟨i + 1, by omega, ?_, [], by rw [← hDe]; exact hV10, hf10, Or.inl ⟨rfl, _, _, hO10⟩⟩, rfl⟩
                             first | rfl | (simp; done))
                      case measure => simp [intOf]; omega
                  · have hl1' : (dl == 1) = false := by simp [hl1]
                    obtain ⟨x, hxD, hxk⟩ := more_left hLS.dp hkD (by have := HDL.out; omega)
                    have hxN := ((hLS.iff x).1 hxD).1
                    have hxS := ((hLS.iff x).1 hxD).2
                    have hkS : k ∉ S := ((hLS.iff k).1 hkD).2
                    as_aux_lemma =>
                      go_upto_region 27 with (first
                        | (at_delete; refine wpList_delete_vm rfl _ _ rfl L2 (lD D) (k : Int) hwk Try.underlying48 rfl hLF rfl ?_; intro w8 hV8 ht8)
                        | go_in)
                      rw [vdel_lD] at hV8
                      have hO8 := hO.turn ht8 (by show ¬ _ = _; omega) (by show ¬ _ = _; omega) (fun j hj => by show ¬ _ = _; omega)
                      have hA8 := hAW.turn ht8 (by show ¬ _ = _; omega)
                      have hr8 := hrW.turn ht8 (fun j hj => by simp [Value.ownBlock] at hj; show ¬ _ = _; omega)
                      have hf8 := hfr.trans (ht8.mono (S' := fun k => k = L2 ∨ FB w7.heap.size (w4.heap.size + 1) w4.heap.size k) (fun j e => Or.inl e))
                      have hs8 := ht8.size
                      have hrg : w8.rangeAt gb (k * 10) [.int .i64 (g k).f, .int .i64 (g k).t, .int .i64 (g k).tl, .int .i64 (g k).pr, .int .i64 (g k).id, .int .i64 (g k).fr, .bool (g k).mo, .bool (g k).dn, .string (g k).op, .string (g k).da] := fun q u hu => hr8.cells (i := k) (p := g k) (at_range g hkN) q u hu
                      have hcon := HPXH.out.more hkN hkS hxN hxk hxS hLS.sp hLS.sN hSl hO8 ht0 (by omega) (i : Int) hla (by omega)
                      have hk0 : (k : Int) < (N : Int) + 1 := by omega
                      clear hlk hln hO hAW hrW hLF hfr ht8 hO8
                      go_wp2_with (first
                        | (refine wpList_load_mid rfl 32 _ rfl gb (k * 10) (by first | rfl | simp) _ _ hrg Try.underlying32 rfl (by kernel_rfl) ?_)
                        | fail)
                      refine hcon.mono ?_
                      rintro e w9 ⟨rfl, ⟨T, tu', hTp, hTm, htu, hO9⟩, ht9⟩
                      have hA9 := hA8.turn ht9 (by unfold FB; omega)
                      have hV9 : LF w9 L2 (D.filter (fun d => decide (d ≠ k))) := VM.turn hV8 ht9 (by unfold FB; omega)
                      have hf9 := hf8.trans (ht9.mono (S' := fun k => k = L2 ∨ FB w7.heap.size (w4.heap.size + 1) w4.heap.size k) (fun j e => Or.inr e))
                      have hs9 := ht9.size
                      clear hcon hrg hA8 hr8 hV8 hf8 ht9
                      go_upto_region 28 with (first
                        | (refine wpList_store_at rfl 32 _ _ rfl _ w9.heap.size #[.int .i64 0, .int .i64 0, .int .i64 0, .int .i64 0, .int .i64 0, .int .i64 0, .bool false, .bool false, .string ⟨#[]⟩, .string ⟨#[]⟩] #[.int .i64 0, .int .i64 0, .int .i64 0, .int .i64 0, .int .i64 0, .int .i64 0, .bool false, .bool false, .string ⟨#[]⟩, .string ⟨#[]⟩] rfl rfl (At.box w9 #[.int .i64 0, .int .i64 0, .int .i64 0, .int .i64 0, .int .i64 0, .int .i64 0, .bool false, .bool false, .string ⟨#[]⟩, .string ⟨#[]⟩] 32) rfl (by kernel_rfl) (by simp [Value.oneCell']) ?_; intro w10 hQ10 ht10)
                        | go_in)
                      have q10 : Below w9.heap.size w9 w10 := (bel1 w9 (.cells #[.int .i64 0, .int .i64 0, .int .i64 0, .int .i64 0, .int .i64 0, .int .i64 0, .bool false, .bool false, .string ⟨#[]⟩, .string ⟨#[]⟩] 32)).trans (below_turn ht10 (Nat.le_refl _) (bel1 w9 _).size)
                      have hA10 := hA9.later q10
                      have hV10 : LF w10 L2 (D.filter (fun d => decide (d ≠ k))) := VM.later hV9 q10
                      have hf10 := hf9.later q10
                      have hO10 := hO9.later q10
                      clear hA9 hV9 hf9 hO9 ht10 q10
                      clear hQ10 hA10
                      have hDe : D.filter (fun d => decide (d ≠ k)) ≠ [] := fun e => by
                        have : x ∈ D.filter (fun d => decide (d ≠ k)) := List.mem_filter.2 ⟨hxD, decide_eq_true hxk⟩
                        rw [e] at this
                        cases this
                      go_wp2
                      go_roundw
                      case rel =>
                        first
                          | exact ⟨i + 1, by omega, by simp, _, hV10, hf10, Or.inr ⟨hDe, T, _, tu', hLS.put hkN hTp hTm hcyc, by omega, by omega, by omega, hO10⟩⟩
                          | (repeat apply Exists.intro
                             refine ⟨⟨i + 1, by omega, ?_, _, hV10, hf10, Or.inr ⟨hDe, T, _, tu', hLS.put hkN hTp hTm hcyc, by omega, by omega, by omega, hO10⟩⟩, rfl⟩
                             first | rfl | (simp; done))
                      case measure => simp [intOf]; omega
                · rw [decide_eq_false hkD] at hlk
                  clear hAW hrW
                  as_aux_lemma =>
                    go_wp2
                    go_roundw
                    case rel => exact ⟨i + 1, by omega, by simp, D, hLF, hfr, Or.inr ⟨hD, S, la, tu, hLS.skip hkD hcyc, by omega, ht0, by omega, hO⟩⟩
                    case measure => simp [intOf]; omega
              · skip
                have hwk : (Lit.int .i64 (k : Int)).wf = true := WalkArith.wf_i64 (by omega)
                have hlk := hLF.look k hwk
                by_cases hkD : k ∈ D
                · rw [decide_eq_true hkD] at hlk
                  by_cases hl1 : dl = 1
                  · replace hln : ∀ ty, (Builtin.len_ #[48] ty #[.map (some L2)]).run Try.prog wr = .ok (.int .i64 1) wr := fun ty => by rw [hln ty, hl1]
                    have hDk := one_left hLS.dp hkD (by have := HDL.out; omega)
                    clear hl1 hDl hDl2
                    have hkS : k ∉ S := ((hLS.iff k).1 hkD).2
                    have hall : ∀ x, x ≤ N → x ≠ k → x ∈ S := fun x hx hne => by
                      apply Classical.byContradiction
                      intro hn
                      have := (hLS.iff x).2 ⟨hx, hn⟩
                      rw [hDk] at this
                      exact hne (List.mem_singleton.1 this)
                    as_aux_lemma =>
                      go_upto_region 27 with (first
                        | (at_delete; refine wpList_delete_vm rfl _ _ rfl L2 (lD D) (k : Int) hwk Try.underlying48 rfl hLF rfl ?_; intro w8 hV8 ht8)
                        | go_in)
                      rw [vdel_lD] at hV8
                      have hO8 := hO.turn ht8 (by show ¬ _ = _; omega) (by show ¬ _ = _; omega) (fun j hj => by show ¬ _ = _; omega)
                      have hA8 := hAW.turn ht8 (by show ¬ _ = _; omega)
                      have hr8 := hrW.turn ht8 (fun j hj => by simp [Value.ownBlock] at hj; show ¬ _ = _; omega)
                      have hf8 := hfr.trans (ht8.mono (S' := fun k => k = L2 ∨ FB w7.heap.size (w4.heap.size + 1) w4.heap.size k) (fun j e => Or.inl e))
                      have hs8 := ht8.size
                      have hrg : w8.rangeAt gb (k * 10) [.int .i64 (g k).f, .int .i64 (g k).t, .int .i64 (g k).tl, .int .i64 (g k).pr, .int .i64 (g k).id, .int .i64 (g k).fr, .bool (g k).mo, .bool (g k).dn, .string (g k).op, .string (g k).da] := fun q u hu => hr8.cells (i := k) (p := g k) (at_range g hkN) q u hu
                      have hcon := HPXH.out.last hkN hkS hall hLS.sp hLS.sN hSl hO8 (i : Int) hla (by omega)
                      have hk0 : (k : Int) < (N : Int) + 1 := by omega
                      clear hlk hln hO hAW hrW hLF hfr ht8 hO8
                      go_wp2_with (first
                        | (refine wpList_load_mid rfl 32 _ rfl gb (k * 10) (by first | rfl | simp) _ _ hrg Try.underlying32 rfl (by kernel_rfl) ?_)
                        | fail)
                      refine hcon.mono ?_
                      rintro e w9 ⟨rfl, hO9, ht9⟩
                      have hA9 := hA8.turn ht9 (by unfold FB; omega)
                      have hV9 : LF w9 L2 (D.filter (fun d => decide (d ≠ k))) := VM.turn hV8 ht9 (by unfold FB; omega)
                      have hf9 := hf8.trans (ht9.mono (S' := fun k => k = L2 ∨ FB w7.heap.size (w4.heap.size + 1) w4.heap.size k) (fun j e => Or.inr e))
                      have hs9 := ht9.size
                      clear hcon hrg hA8 hr8 hV8 hf8 ht9
                      go_upto_region 28 with (first
                        | (refine wpList_store_at rfl 32 _ _ rfl _ w9.heap.size #[.int .i64 0, .int .i64 0, .int .i64 0, .int .i64 0, .int .i64 0, .int .i64 0, .bool false, .bool false, .string ⟨#[]⟩, .string ⟨#[]⟩] #[.int .i64 f, .int .i64 t, .int .i64 tl, .int .i64 pr, .int .i64 id, .int .i64 0, .bool false, .bool false, .string op, .string da] rfl rfl (At.box w9 #[.int .i64 0, .int .i64 0, .int .i64 0, .int .i64 0, .int .i64 0, .int .i64 0, .bool false, .bool false, .string ⟨#[]⟩, .string ⟨#[]⟩] 32) rfl (by kernel_rfl) (by simp [Value.oneCell']) ?_; intro w10 hQ10 ht10)
                        | go_in)
                      have q10 : Below w9.heap.size w9 w10 := (bel1 w9 (.cells #[.int .i64 0, .int .i64 0, .int .i64 0, .int .i64 0, .int .i64 0, .int .i64 0, .bool false, .bool false, .string ⟨#[]⟩, .string ⟨#[]⟩] 32)).trans (below_turn ht10 (Nat.le_refl _) (bel1 w9 _).size)
                      have hA10 := hA9.later q10
                      have hV10 : LF w10 L2 (D.filter (fun d => decide (d ≠ k))) := VM.later hV9 q10
                      have hf10 := hf9.later q10
                      have hO10 := hO9.later q10
                      clear hA9 hV9 hf9 hO9 ht10 q10
                      obtain ⟨⟨a0, a1, a2, a3, a4, a5, a6, a7, a8, a9⟩, -, -⟩ := hQ10.ten
                      obtain ⟨⟨b0, b1, b2, b3, b4, b5, b6, b7, b8, b9⟩, -, -⟩ := hA10.ten
                      clear hQ10 hA10
                      have hDe : D.filter (fun d => decide (d ≠ k)) = [] := by rw [hDk]; simp
                      go_wp2
                      go_roundw
                      case rel =>
                        first
                          | exact ⟨i + 1, by omega, by simp, [], by rw [← hDe]; exact hV10, hf10, Or.inl ⟨rfl, _, _, hO10⟩⟩
                          | (repeat apply Exists.intro
                             refine ⟨⟨i + 1, by omega, ?_, [], by rw [← hDe]; exact hV10, hf10, Or.inl ⟨rfl, _, _, hO10⟩⟩, rfl⟩
                             first | rfl | (simp; done))
                      case measure => simp [intOf]; omega
                  · have hl1' : (dl == 1) = false := by simp [hl1]
                    obtain ⟨x, hxD, hxk⟩ := more_left hLS.dp hkD (by have := HDL.out; omega)
                    have hxN := ((hLS.iff x).1 hxD).1
                    have hxS := ((hLS.iff x).1 hxD).2
                    have hkS : k ∉ S := ((hLS.iff k).1 hkD).2
                    as_aux_lemma =>
                      go_upto_region 27 with (first
                        | (at_delete; refine wpList_delete_vm rfl _ _ rfl L2 (lD D) (k : Int) hwk Try.underlying48 rfl hLF rfl ?_; intro w8 hV8 ht8)
                        | go_in)
                      rw [vdel_lD] at hV8
                      have hO8 := hO.turn ht8 (by show ¬ _ = _; omega) (by show ¬ _ = _; omega) (fun j hj => by show ¬ _ = _; omega)
                      have hA8 := hAW.turn ht8 (by show ¬ _ = _; omega)
                      have hr8 := hrW.turn ht8 (fun j hj => by simp [Value.ownBlock] at hj; show ¬ _ = _; omega)
                      have hf8 := hfr.trans (ht8.mono (S' := fun k => k = L2 ∨ FB w7.heap.size (w4.heap.size + 1) w4.heap.size k) (fun j e => Or.inl e))
                      have hs8 := ht8.size
                      have hrg : w8.rangeAt gb (k * 10) [.int .i64 (g k).f, .int .i64 (g k).t, .int .i64 (g k).tl, .int .i64 (g k).pr, .int .i64 (g k).id, .int .i64 (g k).fr, .bool (g k).mo, .bool (g k).dn, .string (g k).op, .string (g k).da] := fun q u hu => hr8.cells (i := k) (p := g k) (at_range g hkN) q u hu
                      have hcon := HPXH.out.more hkN hkS hxN hxk hxS hLS.sp hLS.sN hSl hO8 ht0 (by omega) (i : Int) hla (by omega)
                      have hk0 : (k : Int) < (N : Int) + 1 := by omega
                      clear hlk hln hO hAW hrW hLF hfr ht8 hO8
                      go_wp2_with (first
                        | (refine wpList_load_mid rfl 32 _ rfl gb (k * 10) (by first | rfl | simp) _ _ hrg Try.underlying32 rfl (by kernel_rfl) ?_)
                        | fail)
                      refine hcon.mono ?_
                      rintro e w9 ⟨rfl, ⟨T, tu', hTp, hTm, htu, hO9⟩, ht9⟩
                      have hA9 := hA8.turn ht9 (by unfold FB; omega)
                      have hV9 : LF w9 L2 (D.filter (fun d => decide (d ≠ k))) := VM.turn hV8 ht9 (by unfold FB; omega)
                      have hf9 := hf8.trans (ht9.mono (S' := fun k => k = L2 ∨ FB w7.heap.size (w4.heap.size + 1) w4.heap.size k) (fun j e => Or.inr e))
                      have hs9 := ht9.size
                      clear hcon hrg hA8 hr8 hV8 hf8 ht9
                      go_upto_region 28 with (first
                        | (refine wpList_store_at rfl 32 _ _ rfl _ w9.heap.size #[.int .i64 0, .int .i64 0, .int .i64 0, .int .i64 0, .int .i64 0, .int .i64 0, .bool false, .bool false, .string ⟨#[]⟩, .string ⟨#[]⟩] #[.int .i64 0, .int .i64 0, .int .i64 0, .int .i64 0, .int .i64 0, .int .i64 0, .bool false, .bool false, .string ⟨#[]⟩, .string ⟨#[]⟩] rfl rfl (At.box w9 #[.int .i64 0, .int .i64 0, .int .i64 0, .int .i64 0, .int .i64 0, .int .i64 0, .bool false, .bool false, .string ⟨#[]⟩, .string ⟨#[]⟩] 32) rfl (by kernel_rfl) (by simp [Value.oneCell']) ?_; intro w10 hQ10 ht10)
                        | go_in)
                      have q10 : Below w9.heap.size w9 w10 := (bel1 w9 (.cells #[.int .i64 0, .int .i64 0, .int .i64 0, .int .i64 0, .int .i64 0, .int .i64 0, .bool false, .bool false, .string ⟨#[]⟩, .string ⟨#[]⟩] 32)).trans (below_turn ht10 (Nat.le_refl _) (bel1 w9 _).size)
                      have hA10 := hA9.later q10
                      have hV10 : LF w10 L2 (D.filter (fun d => decide (d ≠ k))) := VM.later hV9 q10
                      have hf10 := hf9.later q10
                      have hO10 := hO9.later q10
                      clear hA9 hV9 hf9 hO9 ht10 q10
                      clear hQ10 hA10
                      have hDe : D.filter (fun d => decide (d ≠ k)) ≠ [] := fun e => by
                        have : x ∈ D.filter (fun d => decide (d ≠ k)) := List.mem_filter.2 ⟨hxD, decide_eq_true hxk⟩
                        rw [e] at this
                        cases this
                      go_wp2
                      go_roundw
                      case rel =>
                        first
                          | exact ⟨i + 1, by omega, by simp, _, hV10, hf10, Or.inr ⟨hDe, T, _, tu', hLS.put hkN hTp hTm hcyc, by omega, by omega, by omega, hO10⟩⟩
                          | (repeat apply Exists.intro
                             refine ⟨⟨i + 1, by omega, ?_, _, hV10, hf10, Or.inr ⟨hDe, T, _, tu', hLS.put hkN hTp hTm hcyc, by omega, by omega, by omega, hO10⟩⟩, rfl⟩
                             first | rfl | (simp; done))
                      case measure => simp [intOf]; omega
                · rw [decide_eq_false hkD] at hlk
                  have hkS : k ∈ S := by
                    apply Classical.byContradiction
                    intro hn
                    exact hkD ((hLS.iff k).2 ⟨hkN, hn⟩)
                  have hN1' : 1 ≤ N := by
                    cases D with
                    | nil => exact absurd rfl hD
                    | cons d r =>
                      have h1 := (hLS.iff d).1 (List.mem_cons_self ..)
                      have h2 : d ≠ k := fun e => h1.2 (by rw [e]; exact hkS)
                      omega
                  have HN1 : Hid (1 ≤ N) := hN1'
                  have HKS : Hid (k ∈ S) := hkS
                  have HCY : Hid (200 ≤ i → i % (N + 1) = k) := hcyc
                  have HKD : Hid (k ∉ D) := hkD
                  have HLSS : Hid (LS N i D S) := hLS
                  have hi26 : i ≤ 260 := hi260
                  obtain ⟨iz, hiz⟩ : ∃ iz : Int, iz = (i : Int) := ⟨_, rfl⟩
                  have HIZ : Hid (iz = (i : Int) ∧ i ≤ 260 ∧ tu ≤ (i : Int)) := ⟨hiz, hi260, ht1⟩
                  have hz2 : ¬ 200 ≤ iz := by omega
                  have hlz : la ≤ iz := by omega
                  have hiz0 : iz ≤ 1000 := by omega
                  have hiz1 : 0 ≤ iz := by omega
                  rw [← hiz]
                  rw [← hiz] at hrm ho1
                  clear hN1' hkS hcyc hkD hLS hla ht1 hi hi260 hi26 hiz
                  as_aux_lemma =>
                    go_upto_region 25 with fail
                    go_upto_if 119 with fail
                    have hz9 : decide (200 ≤ iz) = false := decide_eq_false (by omega)
                    try rw [hz9]
                    go_upto_region 26 with fail
                    go_upto_region 27 with (first
                      | (at_delete; refine wpList_delete_vm rfl _ _ rfl L2 (lD D) (k : Int) hwk Try.underlying48 rfl hLF rfl ?_; intro w8 hV8 ht8)
                      | go_in)
                    rw [vdel_lD] at hV8
                    have hO8 := hO.turn ht8 (by show ¬ _ = _; omega) (by show ¬ _ = _; omega) (fun j hj => by show ¬ _ = _; omega)
                    have hA8 := hAW.turn ht8 (by show ¬ _ = _; omega)
                    have hr8 := hrW.turn ht8 (fun j hj => by simp [Value.ownBlock] at hj; show ¬ _ = _; omega)
                    have hf8 := hfr.trans (ht8.mono (S' := fun k => k = L2 ∨ FB w7.heap.size (w4.heap.size + 1) w4.heap.size k) (fun j e => Or.inl e))
                    have hs8 := ht8.size
                    have hrg : w8.rangeAt gb (k * 10) [.int .i64 (g k).f, .int .i64 (g k).t, .int .i64 (g k).tl, .int .i64 (g k).pr, .int .i64 (g k).id, .int .i64 (g k).fr, .bool (g k).mo, .bool (g k).dn, .string (g k).op, .string (g k).da] := fun q u hu => hr8.cells (i := k) (p := g k) (at_range g hkN) q u hu
                    have hcon := HPXH.out.has hkN HN1.out HKS.out hO8 iz hlz (by omega)
                    have hk0 : (k : Int) < (N : Int) + 1 := by omega
                    clear hlk hln hO hAW hrW hLF hfr ht8 hO8
                    go_wp2_with (first
                      | (refine wpList_load_mid rfl 32 _ rfl gb (k * 10) (by first | rfl | simp) _ _ hrg Try.underlying32 rfl (by kernel_rfl) ?_)
                      | fail)
                    refine hcon.mono ?_
                    rintro e w9 ⟨rfl, hO9, ht9⟩
                    have hA9 := hA8.turn ht9 (by unfold FB; omega)
                    have hV9 : LF w9 L2 (D.filter (fun d => decide (d ≠ k))) := VM.turn hV8 ht9 (by unfold FB; omega)
                    have hf9 := hf8.trans (ht9.mono (S' := fun k => k = L2 ∨ FB w7.heap.size (w4.heap.size + 1) w4.heap.size k) (fun j e => Or.inr e))
                    have hs9 := ht9.size
                    clear hcon hrg hA8 hr8 hV8 hf8 ht9
                    go_upto_region 28 with (first
                      | (refine wpList_store_at rfl 32 _ _ rfl _ w9.heap.size #[.int .i64 0, .int .i64 0, .int .i64 0, .int .i64 0, .int .i64 0, .int .i64 0, .bool false, .bool false, .string ⟨#[]⟩, .string ⟨#[]⟩] #[.int .i64 0, .int .i64 0, .int .i64 0, .int .i64 0, .int .i64 0, .int .i64 0, .bool false, .bool false, .string ⟨#[]⟩, .string ⟨#[]⟩] rfl rfl (At.box w9 #[.int .i64 0, .int .i64 0, .int .i64 0, .int .i64 0, .int .i64 0, .int .i64 0, .bool false, .bool false, .string ⟨#[]⟩, .string ⟨#[]⟩] 32) rfl (by kernel_rfl) (by simp [Value.oneCell']) ?_; intro w10 hQ10 ht10)
                      | go_in)
                    have q10 : Below w9.heap.size w9 w10 := (bel1 w9 (.cells #[.int .i64 0, .int .i64 0, .int .i64 0, .int .i64 0, .int .i64 0, .int .i64 0, .bool false, .bool false, .string ⟨#[]⟩, .string ⟨#[]⟩] 32)).trans (below_turn ht10 (Nat.le_refl _) (bel1 w9 _).size)
                    have hA10 := hA9.later q10
                    have hV10 : LF w10 L2 (D.filter (fun d => decide (d ≠ k))) := VM.later hV9 q10
                    have hf10 := hf9.later q10
                    have hO10 := hO9.later q10
                    clear hA9 hV9 hf9 hO9 ht10 q10
                    clear hQ10 hA10
                    rw [filter_self HKD.out] at hV10
                    go_wp2
                    go_roundw
                    case rel =>
                      have hq := HIZ.out
                      first
                        | exact ⟨i + 1, by omega, by rw [hq.1]; simp, D, hV10, hf10, Or.inr ⟨hD, S, _, tu, HLSS.out.skip HKD.out HCY.out, by omega, ht0, by omega, hO10⟩⟩
                        | (repeat apply Exists.intro
                           refine ⟨⟨i + 1, by omega, ?_, D, hV10, hf10, Or.inr ⟨hD, S, _, tu, HLSS.out.skip HKD.out HCY.out, by omega, ht0, by omega, hO10⟩⟩, rfl⟩
                           rw [hq.1]
                           first | rfl | (simp; done))
                    case measure => have hq := HIZ.out; simp [intOf]; omega
end Go.Proofs.Ytcjhniehbafhpaa
