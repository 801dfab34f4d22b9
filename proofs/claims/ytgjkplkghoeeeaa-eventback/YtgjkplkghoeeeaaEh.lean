/- Add of a log, on both sides. -/
import Derived.Test.YtgjkplkghoeeeaaEg
namespace Go.Proofs.Ytgjkplkghoeeeaa
open Go.RowKit Go.Maps
set_option maxRecDepth 100000
set_option linter.unusedVariables false
set_option linter.unusedSimpArgs false

set_option maxHeartbeats 1000000 in
theorem add_bad {w : World} {b : Nat} {v : Value} {l : List Ev} {k t : Int} {d : ByteArray} (h : LG w b v l) (hd : d.size ≤ maxLen) (hn : l.length ≤ 1000000) (hm : mayE ⟨k, t, d⟩ = false) :
    Calls Try.prog 17 #[.pointer (some ⟨b, 0, none⟩), .agg #[.int .i64 k, .int .i64 t, .string d]] w fun e w' => e = .returned (.tuple #[.int .i64 0, .int .i64 230]) ∧ Below w.heap.size w w' := by
  have hX := At.box w #[.int .i64 k, .int .i64 t, .string d] 23
  have hl := bel1 w (.cells #[.int .i64 k, .int .i64 t, .string d] 23)
  have hb0 : b < w.heap.size := h.at_.1
  have hL := h.later hl
  go_enter Try.func17, Try.ntmps17
  obtain ⟨⟨c0, c1, c2⟩, -, -⟩ := hX.three
  go_wp2_with fail
  refine (check_any k t d _ hd).mono ?_
  rw [codeE_f hm]
  rintro e w1 ⟨rfl, h1⟩
  have hl := bt hl h1
  have hX := hX.later h1
  have hL := hL.later h1
  clear h1 c0 c1 c2
  go_wp2
  go_ret2
  exact ⟨rfl, hl⟩
set_option maxHeartbeats 1000000 in
theorem add_old {w : World} {b : Nat} {v : Value} {l : List Ev} {k t : Int} {d : ByteArray} (h : LG w b v l) (hd : d.size ≤ maxLen) (hn : l.length ≤ 1000000) (hm : mayE ⟨k, t, d⟩ = true) (ht : t < nowE l) :
    Calls Try.prog 17 #[.pointer (some ⟨b, 0, none⟩), .agg #[.int .i64 k, .int .i64 t, .string d]] w fun e w' => e = .returned (.tuple #[.int .i64 0, .int .i64 1]) ∧ Below w.heap.size w w' := by
  have t1 : decide (t < nowE l) = true := decide_eq_true ht
  have hX := At.box w #[.int .i64 k, .int .i64 t, .string d] 23
  have hl := bel1 w (.cells #[.int .i64 k, .int .i64 t, .string d] 23)
  have hb0 : b < w.heap.size := h.at_.1
  have hL := h.later hl
  go_enter Try.func17, Try.ntmps17
  obtain ⟨⟨c0, c1, c2⟩, -, -⟩ := hX.three
  go_wp2_with fail
  refine (check_any k t d _ hd).mono ?_
  rw [codeE_t hm]
  rintro e w1 ⟨rfl, h1⟩
  have hl := bt hl h1
  have hX := hX.later h1
  have hL := hL.later h1
  clear h1 c0 c1 c2
  go_wp2
  refine wp_region_held_drew (S := (fun W => Below w1.drew.heap.size w1.drew W ∧ At W w.heap.size #[.int .i64 k, .int .i64 t, .string d] ∧ LG W b v l)) (by kernel_rfl) ?_ (fun hHeld => ?_)
  · first | exact ⟨Below.refl _ _, hX.later (Below.refl _ _).drew, hL.later (Below.refl _ _).drew⟩ | assumption
  refine wpAnyH_take (i := 0) (oi := ({ dst := some 11, op := Go.Op.fieldAddr 23 (Go.Operand.tmp 3) 1, type := 0, pos := "log.go:22", after := #[], guard := none } : Go.Oper)) (v := .pointer (some ⟨w.heap.size, 1, none⟩)) rfl (by kernel_rfl) (by kernel_rfl) (by kernel_rfl) (fun _ _ _ h => h) (Or.inl ⟨by rfl, ?_⟩) (by assumption) ?_
  · intro wx hSw
    try dsimp only at hSw
    obtain ⟨-, u0, -⟩ := hSw
    obtain ⟨⟨x0, x1, x2⟩, -, -⟩ := u0.three
    go_simp
    try with_reducible rfl
  try simp only [Act.put, List.setIfInBounds_toArray, List.set_cons_zero, List.set_cons_succ]
  refine wpAnyH_take (i := 1) (oi := ({ dst := some 12, op := Go.Op.load 3 (Go.Operand.tmp 11), type := 3, pos := "log.go:22", after := #[{ on := 0, ground := Go.Ground.data }], guard := none } : Go.Oper)) (v := .int .i64 t) rfl (by kernel_rfl) (by kernel_rfl) (by kernel_rfl) (fun _ _ _ h => h) (Or.inl ⟨by rfl, ?_⟩) (by assumption) ?_
  · intro wx hSw
    try dsimp only at hSw
    obtain ⟨-, u0, -⟩ := hSw
    obtain ⟨⟨x0, x1, x2⟩, -, -⟩ := u0.three
    go_simp
    try with_reducible rfl
  try simp only [Act.put, List.setIfInBounds_toArray, List.set_cons_zero, List.set_cons_succ]
  refine wpAnyH_take (i := 2) (oi := ({ dst := some 13, op := Go.Op.move (Go.Operand.tmp 0), type := 37, pos := "log.go:22", after := #[], guard := none } : Go.Oper)) (v := .pointer (some ⟨b, 0, none⟩)) rfl (by kernel_rfl) (by kernel_rfl) (by kernel_rfl) (fun _ _ _ h => h) (Or.inl ⟨by rfl, ?_⟩) (by assumption) ?_
  · intro wx hSw
    try dsimp only at hSw
    obtain ⟨-, u0, -⟩ := hSw
    obtain ⟨⟨x0, x1, x2⟩, -, -⟩ := u0.three
    go_simp
    try with_reducible rfl
  try simp only [Act.put, List.setIfInBounds_toArray, List.set_cons_zero, List.set_cons_succ]
  refine wpAnyH_ready (rs := [3]) (by kernel_rfl) (by simp) ?_
  refine AllReadyH.cons (o := ({ dst := some 14, op := Go.Op.call { callee := Go.Callee.value (Go.Operand.func 20), args := #[Go.Operand.tmp 13], argTypes := #[37] }, type := 3, pos := "log.go:22", after := #[{ on := 2, ground := Go.Ground.data }], guard := none } : Go.Oper)) rfl (fun K hK => ?_) AllReadyH.nil
  go_simp
  refine (now_any hHeld.2.2 hn).mono ?_
  rintro e wk ⟨rfl, hbk⟩
  refine hK.out _ _ ⟨bt hHeld.1 hbk, hHeld.2.1.later hbk, hHeld.2.2.later hbk⟩ (fun hHeld => ?_)
  clear hK K
  try simp only [Act.put, List.setIfInBounds_toArray, List.set_cons_zero, List.set_cons_succ]
  refine wpAnyH_take (i := 4) (oi := ({ dst := some 15, op := Go.Op.binOp Go.BinOp.lss 3 (Go.Operand.tmp 12) (Go.Operand.tmp 14) 3, type := 4, pos := "log.go:22", after := #[{ on := 1, ground := Go.Ground.data }, { on := 3, ground := Go.Ground.data }], guard := none } : Go.Oper)) (v := .bool true) rfl (by kernel_rfl) (by kernel_rfl) (by kernel_rfl) (fun _ _ _ h => h) (Or.inl ⟨by rfl, ?_⟩) (by assumption) ?_
  · intro wx hSw
    try dsimp only at hSw
    obtain ⟨-, u0, -⟩ := hSw
    obtain ⟨⟨x0, x1, x2⟩, -, -⟩ := u0.three
    go_simp
    try with_reducible rfl
  try simp only [Act.put, List.setIfInBounds_toArray, List.set_cons_zero, List.set_cons_succ]
  refine wpAnyH_take (i := 5) (oi := ({ dst := some 10, op := Go.Op.assign (Go.Operand.tmp 15), type := 4, pos := "log.go:22", after := #[{ on := 4, ground := Go.Ground.data }, { on := 3, ground := Go.Ground.chain }], guard := none } : Go.Oper)) (v := .bool true) rfl (by kernel_rfl) (by kernel_rfl) (by kernel_rfl) (fun _ _ _ h => h) (Or.inl ⟨by rfl, ?_⟩) (by assumption) ?_
  · intro wx hSw
    try dsimp only at hSw
    obtain ⟨-, u0, -⟩ := hSw
    obtain ⟨⟨x0, x1, x2⟩, -, -⟩ := u0.three
    go_simp
    try with_reducible rfl
  try simp only [Act.put, List.setIfInBounds_toArray, List.set_cons_zero, List.set_cons_succ]
  refine wpAnyH_done (by kernel_rfl) ?_ _
  obtain ⟨hb2, hX, hL⟩ := hHeld
  have hl := bt hl (belU hb2)
  go_wp2
  go_ret2
  exact ⟨rfl, hl⟩
set_option maxHeartbeats 1000000 in
theorem radd_bad {w : World} {b : Nat} {v : Value} {l : List Ev} {k t : Int} {d : ByteArray} (h : LG w b v l) (hd : d.size ≤ maxLen) (hn : l.length ≤ 1000000) (hm : mayE ⟨k, t, d⟩ = false) :
    Calls Try.prog 18 #[.pointer (some ⟨b, 0, none⟩), .agg #[.int .i64 k, .int .i64 t, .string d]] w fun e w' => e = .returned (.tuple #[.int .i64 0, .int .i64 230]) ∧ Below w.heap.size w w' := by
  have hX := At.box w #[.int .i64 k, .int .i64 t, .string d] 23
  have hl := bel1 w (.cells #[.int .i64 k, .int .i64 t, .string d] 23)
  have hb0 : b < w.heap.size := h.at_.1
  have hL := h.later hl
  go_enter Try.func18, Try.ntmps18
  obtain ⟨⟨c0, c1, c2⟩, -, -⟩ := hX.three
  go_wp2_with fail
  refine (rchk_any k t d _ hd).mono ?_
  rw [codeE_f hm]
  rintro e w1 ⟨rfl, h1⟩
  have hl := bt hl h1
  have hX := hX.later h1
  have hL := hL.later h1
  clear h1 c0 c1 c2
  go_wp2
  go_ret2
  exact ⟨rfl, hl⟩
set_option maxHeartbeats 1000000 in
theorem radd_old {w : World} {b : Nat} {v : Value} {l : List Ev} {k t : Int} {d : ByteArray} (h : LG w b v l) (hd : d.size ≤ maxLen) (hn : l.length ≤ 1000000) (hm : mayE ⟨k, t, d⟩ = true) (ht : t < nowE l) :
    Calls Try.prog 18 #[.pointer (some ⟨b, 0, none⟩), .agg #[.int .i64 k, .int .i64 t, .string d]] w fun e w' => e = .returned (.tuple #[.int .i64 0, .int .i64 1]) ∧ Below w.heap.size w w' := by
  have t1 : decide (t < nowE l) = true := decide_eq_true ht
  have hX := At.box w #[.int .i64 k, .int .i64 t, .string d] 23
  have hl := bel1 w (.cells #[.int .i64 k, .int .i64 t, .string d] 23)
  have hb0 : b < w.heap.size := h.at_.1
  have hL := h.later hl
  go_enter Try.func18, Try.ntmps18
  obtain ⟨⟨c0, c1, c2⟩, -, -⟩ := hX.three
  go_wp2_with fail
  refine (rchk_any k t d _ hd).mono ?_
  rw [codeE_t hm]
  rintro e w1 ⟨rfl, h1⟩
  have hl := bt hl h1
  have hX := hX.later h1
  have hL := hL.later h1
  clear h1 c0 c1 c2
  go_wp2
  refine wp_region_held_drew (S := (fun W => Below w1.drew.heap.size w1.drew W ∧ At W w.heap.size #[.int .i64 k, .int .i64 t, .string d] ∧ LG W b v l)) (by kernel_rfl) ?_ (fun hHeld => ?_)
  · first | exact ⟨Below.refl _ _, hX.later (Below.refl _ _).drew, hL.later (Below.refl _ _).drew⟩ | assumption
  refine wpAnyH_take (i := 0) (oi := ({ dst := some 12, op := Go.Op.fieldAddr 23 (Go.Operand.tmp 3) 1, type := 0, pos := "ref.go:83", after := #[], guard := none } : Go.Oper)) (v := .pointer (some ⟨w.heap.size, 1, none⟩)) rfl (by kernel_rfl) (by kernel_rfl) (by kernel_rfl) (fun _ _ _ h => h) (Or.inl ⟨by rfl, ?_⟩) (by assumption) ?_
  · intro wx hSw
    try dsimp only at hSw
    obtain ⟨-, u0, -⟩ := hSw
    obtain ⟨⟨x0, x1, x2⟩, -, -⟩ := u0.three
    go_simp
    try with_reducible rfl
  try simp only [Act.put, List.setIfInBounds_toArray, List.set_cons_zero, List.set_cons_succ]
  refine wpAnyH_take (i := 1) (oi := ({ dst := some 13, op := Go.Op.load 3 (Go.Operand.tmp 12), type := 3, pos := "ref.go:83", after := #[{ on := 0, ground := Go.Ground.data }], guard := none } : Go.Oper)) (v := .int .i64 t) rfl (by kernel_rfl) (by kernel_rfl) (by kernel_rfl) (fun _ _ _ h => h) (Or.inl ⟨by rfl, ?_⟩) (by assumption) ?_
  · intro wx hSw
    try dsimp only at hSw
    obtain ⟨-, u0, -⟩ := hSw
    obtain ⟨⟨x0, x1, x2⟩, -, -⟩ := u0.three
    go_simp
    try with_reducible rfl
  try simp only [Act.put, List.setIfInBounds_toArray, List.set_cons_zero, List.set_cons_succ]
  refine wpAnyH_take (i := 2) (oi := ({ dst := some 14, op := Go.Op.move (Go.Operand.tmp 0), type := 39, pos := "ref.go:83", after := #[], guard := none } : Go.Oper)) (v := .pointer (some ⟨b, 0, none⟩)) rfl (by kernel_rfl) (by kernel_rfl) (by kernel_rfl) (fun _ _ _ h => h) (Or.inl ⟨by rfl, ?_⟩) (by assumption) ?_
  · intro wx hSw
    try dsimp only at hSw
    obtain ⟨-, u0, -⟩ := hSw
    obtain ⟨⟨x0, x1, x2⟩, -, -⟩ := u0.three
    go_simp
    try with_reducible rfl
  try simp only [Act.put, List.setIfInBounds_toArray, List.set_cons_zero, List.set_cons_succ]
  refine wpAnyH_ready (rs := [3]) (by kernel_rfl) (by simp) ?_
  refine AllReadyH.cons (o := ({ dst := some 15, op := Go.Op.call { callee := Go.Callee.value (Go.Operand.func 21), args := #[Go.Operand.tmp 14], argTypes := #[39] }, type := 3, pos := "ref.go:83", after := #[{ on := 2, ground := Go.Ground.data }], guard := none } : Go.Oper)) rfl (fun K hK => ?_) AllReadyH.nil
  go_simp
  refine (rnow_any hHeld.2.2 hn).mono ?_
  rintro e wk ⟨rfl, hbk⟩
  refine hK.out _ _ ⟨bt hHeld.1 hbk, hHeld.2.1.later hbk, hHeld.2.2.later hbk⟩ (fun hHeld => ?_)
  clear hK K
  try simp only [Act.put, List.setIfInBounds_toArray, List.set_cons_zero, List.set_cons_succ]
  refine wpAnyH_take (i := 4) (oi := ({ dst := some 16, op := Go.Op.binOp Go.BinOp.lss 3 (Go.Operand.tmp 13) (Go.Operand.tmp 15) 3, type := 4, pos := "ref.go:83", after := #[{ on := 1, ground := Go.Ground.data }, { on := 3, ground := Go.Ground.data }], guard := none } : Go.Oper)) (v := .bool true) rfl (by kernel_rfl) (by kernel_rfl) (by kernel_rfl) (fun _ _ _ h => h) (Or.inl ⟨by rfl, ?_⟩) (by assumption) ?_
  · intro wx hSw
    try dsimp only at hSw
    obtain ⟨-, u0, -⟩ := hSw
    obtain ⟨⟨x0, x1, x2⟩, -, -⟩ := u0.three
    go_simp
    try with_reducible rfl
  try simp only [Act.put, List.setIfInBounds_toArray, List.set_cons_zero, List.set_cons_succ]
  refine wpAnyH_done (by kernel_rfl) ?_ _
  obtain ⟨hb2, hX, hL⟩ := hHeld
  have hl := bt hl (belU hb2)
  go_wp2
  go_ret2
  exact ⟨rfl, hl⟩
set_option maxHeartbeats 4000000 in
theorem add_ok {w : World} {b : Nat} {v : Value} {l : List Ev} {k t : Int} {d : ByteArray} (h : LG w b v l) (hd : d.size ≤ maxLen) (hn : l.length ≤ 1000000) (hm : mayE ⟨k, t, d⟩ = true) (ht : ¬ t < nowE l) (h4 : l.length < 4096) :
    Calls Try.prog 17 #[.pointer (some ⟨b, 0, none⟩), .agg #[.int .i64 k, .int .i64 t, .string d]] w fun e w' => ∃ v', e = .returned (.tuple #[.int .i64 ((l.length : Int) + 1), .int .i64 0]) ∧ LG w' b v' (l ++ [⟨k, t, d⟩]) ∧ Turn (fun j => j = b ∨ v.ownBlock = some j) w w' ∧ (v'.ownBlock = v.ownBlock ∨ ∃ g, v'.ownBlock = some g ∧ w.heap.size ≤ g) := by
  have t1 : decide (t < nowE l) = false := decide_eq_false ht
  have t2 : ((l.length : Int) == 4096) = false := by simp; omega
  have hX := At.box w #[.int .i64 k, .int .i64 t, .string d] 23
  have hl := bel1 w (.cells #[.int .i64 k, .int .i64 t, .string d] 23)
  have hb0 : b < w.heap.size := h.at_.1
  have hL := h.later hl
  go_enter Try.func17, Try.ntmps17
  obtain ⟨⟨c0, c1, c2⟩, -, -⟩ := hX.three
  go_wp2_with fail
  refine (check_any k t d _ hd).mono ?_
  rw [codeE_t hm]
  rintro e w1 ⟨rfl, h1⟩
  have hl := bt hl h1
  have hX := hX.later h1
  have hL := hL.later h1
  clear h1 c0 c1 c2
  go_wp2
  refine wp_region_held_drew (S := (fun W => Below w1.drew.heap.size w1.drew W ∧ At W w.heap.size #[.int .i64 k, .int .i64 t, .string d] ∧ LG W b v l)) (by kernel_rfl) ?_ (fun hHeld => ?_)
  · first | exact ⟨Below.refl _ _, hX.later (Below.refl _ _).drew, hL.later (Below.refl _ _).drew⟩ | assumption
  refine wpAnyH_take (i := 0) (oi := ({ dst := some 11, op := Go.Op.fieldAddr 23 (Go.Operand.tmp 3) 1, type := 0, pos := "log.go:22", after := #[], guard := none } : Go.Oper)) (v := .pointer (some ⟨w.heap.size, 1, none⟩)) rfl (by kernel_rfl) (by kernel_rfl) (by kernel_rfl) (fun _ _ _ h => h) (Or.inl ⟨by rfl, ?_⟩) (by assumption) ?_
  · intro wx hSw
    try dsimp only at hSw
    obtain ⟨-, u0, -⟩ := hSw
    obtain ⟨⟨x0, x1, x2⟩, -, -⟩ := u0.three
    go_simp
    try with_reducible rfl
  try simp only [Act.put, List.setIfInBounds_toArray, List.set_cons_zero, List.set_cons_succ]
  refine wpAnyH_take (i := 1) (oi := ({ dst := some 12, op := Go.Op.load 3 (Go.Operand.tmp 11), type := 3, pos := "log.go:22", after := #[{ on := 0, ground := Go.Ground.data }], guard := none } : Go.Oper)) (v := .int .i64 t) rfl (by kernel_rfl) (by kernel_rfl) (by kernel_rfl) (fun _ _ _ h => h) (Or.inl ⟨by rfl, ?_⟩) (by assumption) ?_
  · intro wx hSw
    try dsimp only at hSw
    obtain ⟨-, u0, -⟩ := hSw
    obtain ⟨⟨x0, x1, x2⟩, -, -⟩ := u0.three
    go_simp
    try with_reducible rfl
  try simp only [Act.put, List.setIfInBounds_toArray, List.set_cons_zero, List.set_cons_succ]
  refine wpAnyH_take (i := 2) (oi := ({ dst := some 13, op := Go.Op.move (Go.Operand.tmp 0), type := 37, pos := "log.go:22", after := #[], guard := none } : Go.Oper)) (v := .pointer (some ⟨b, 0, none⟩)) rfl (by kernel_rfl) (by kernel_rfl) (by kernel_rfl) (fun _ _ _ h => h) (Or.inl ⟨by rfl, ?_⟩) (by assumption) ?_
  · intro wx hSw
    try dsimp only at hSw
    obtain ⟨-, u0, -⟩ := hSw
    obtain ⟨⟨x0, x1, x2⟩, -, -⟩ := u0.three
    go_simp
    try with_reducible rfl
  try simp only [Act.put, List.setIfInBounds_toArray, List.set_cons_zero, List.set_cons_succ]
  refine wpAnyH_ready (rs := [3]) (by kernel_rfl) (by simp) ?_
  refine AllReadyH.cons (o := ({ dst := some 14, op := Go.Op.call { callee := Go.Callee.value (Go.Operand.func 20), args := #[Go.Operand.tmp 13], argTypes := #[37] }, type := 3, pos := "log.go:22", after := #[{ on := 2, ground := Go.Ground.data }], guard := none } : Go.Oper)) rfl (fun K hK => ?_) AllReadyH.nil
  go_simp
  refine (now_any hHeld.2.2 hn).mono ?_
  rintro e wk ⟨rfl, hbk⟩
  refine hK.out _ _ ⟨bt hHeld.1 hbk, hHeld.2.1.later hbk, hHeld.2.2.later hbk⟩ (fun hHeld => ?_)
  clear hK K
  try simp only [Act.put, List.setIfInBounds_toArray, List.set_cons_zero, List.set_cons_succ]
  refine wpAnyH_take (i := 4) (oi := ({ dst := some 15, op := Go.Op.binOp Go.BinOp.lss 3 (Go.Operand.tmp 12) (Go.Operand.tmp 14) 3, type := 4, pos := "log.go:22", after := #[{ on := 1, ground := Go.Ground.data }, { on := 3, ground := Go.Ground.data }], guard := none } : Go.Oper)) (v := .bool false) rfl (by kernel_rfl) (by kernel_rfl) (by kernel_rfl) (fun _ _ _ h => h) (Or.inl ⟨by rfl, ?_⟩) (by assumption) ?_
  · intro wx hSw
    try dsimp only at hSw
    obtain ⟨-, u0, -⟩ := hSw
    obtain ⟨⟨x0, x1, x2⟩, -, -⟩ := u0.three
    go_simp
    try with_reducible rfl
  try simp only [Act.put, List.setIfInBounds_toArray, List.set_cons_zero, List.set_cons_succ]
  refine wpAnyH_take (i := 5) (oi := ({ dst := some 10, op := Go.Op.assign (Go.Operand.tmp 15), type := 4, pos := "log.go:22", after := #[{ on := 4, ground := Go.Ground.data }, { on := 3, ground := Go.Ground.chain }], guard := none } : Go.Oper)) (v := .bool false) rfl (by kernel_rfl) (by kernel_rfl) (by kernel_rfl) (fun _ _ _ h => h) (Or.inl ⟨by rfl, ?_⟩) (by assumption) ?_
  · intro wx hSw
    try dsimp only at hSw
    obtain ⟨-, u0, -⟩ := hSw
    obtain ⟨⟨x0, x1, x2⟩, -, -⟩ := u0.three
    go_simp
    try with_reducible rfl
  try simp only [Act.put, List.setIfInBounds_toArray, List.set_cons_zero, List.set_cons_succ]
  refine wpAnyH_done (by kernel_rfl) ?_ _
  obtain ⟨hb2, hX, hL⟩ := hHeld
  have hl := bt hl (belU hb2)
  clear hb2
  go_wp2_with fail
  refine (len_any hL).mono ?_
  rintro e w3 ⟨rfl, hw3⟩
  subst hw3
  obtain ⟨a, c, rfl⟩ := hL.eo.shape
  have hX : At w3.drew w.heap.size #[.int .i64 k, .int .i64 t, .string d] := hX.later (Below.refl _ _).drew
  have hL : LG w3.drew b (.slice a l.length c) l := hL.later (Below.refl _ _).drew
  have hl : Below w.heap.size w w3.drew := hl.drew
  have hXa := hX.later (bel1 w3.drew (.cells #[.int .i64 k, .int .i64 t, .string d] 23))
  have hLa := hL.later (bel1 w3.drew (.cells #[.int .i64 k, .int .i64 t, .string d] 23))
  have hG := At.box w3.drew #[.int .i64 k, .int .i64 t, .string d] 23
  have hla := bt hl (bel1 w3.drew (.cells #[.int .i64 k, .int .i64 t, .string d] 23))
  obtain ⟨v', w', hrun, hE', ht', hlies⟩ := hLa.eo.push (c := 1) hG (Nat.le_trans (Nat.succ_le_of_lt hb0) hla.size) (by omega) 29
  have hne : ∀ j, (Value.slice a l.length c).ownBlock = some j → j ≠ w.heap.size ∧ b + 1 ≤ j := fun j hj => ⟨fun e => by have := h.eo.lt hj; omega, hL.eo.ge j hj⟩
  have hXb := hXa.turn ht' (fun e => (hne _ e).1 rfl)
  have hBb := hLa.at_.turn ht' (fun e => by have := (hne _ e).2; omega)
  obtain ⟨k31, k32⟩ := hBb.one
  obtain ⟨L2, hL2⟩ : ∃ L2, l ++ [Ev.mk k t d] = L2 := ⟨_, rfl⟩
  have hlen : Hid (L2.length = l.length + 1) := by show L2.length = l.length + 1; rw [← hL2]; simp
  rw [hL2] at hE'
  obtain ⟨av, cv, rfl⟩ := hE'.shape
  have hXc := hXb.turn (turn_set w' b 0 (.slice av L2.length cv)) (by omega)
  have hBc := hBb.set 0 (.slice av L2.length cv)
  have hEc := hE'.turn (turn_set w' b 0 (.slice av L2.length cv)) (fun j hj e => by have := hE'.ge j hj; omega)
  have hLc : LG (w'.setCell ⟨b, 0, none⟩ (.slice av L2.length cv)) b (.slice av L2.length cv) L2 := ⟨hBc, hEc⟩
  have hT : Turn (fun j => j = b ∨ (Value.slice a l.length c).ownBlock = some j) w (w'.setCell ⟨b, 0, none⟩ (.slice av L2.length cv)) :=
    (Turn.of_below hla).trans (ht'.mono (fun _ h => Or.inr h)) |>.trans ((turn_set w' b 0 _).mono (fun _ h => Or.inl h))
  have hP : (Value.slice av L2.length cv).ownBlock = (Value.slice a l.length c).ownBlock ∨ ∃ g, (Value.slice av L2.length cv).ownBlock = some g ∧ w.heap.size ≤ g :=
    hlies.imp id (fun e => ⟨_, e, hla.size⟩)
  obtain ⟨q0, -⟩ := hL.at_.one
  obtain ⟨q1, -⟩ := hLa.at_.one
  have q2 : (w3.alloc (.cells #[.int .i64 k, .int .i64 t, .string d] 23)).drew.cell? ⟨b, 0, none⟩ = some (.slice a l.length c) := q1
  clear hlies ht' hE' hBb hEc hBc hG hLa hne
  have HT : Hid (Turn (fun j => j = b ∨ (Value.slice a l.length c).ownBlock = some j) w (w'.setCell ⟨b, 0, none⟩ (.slice av L2.length cv))) := hT
  have HP : Hid ((Value.slice av L2.length cv).ownBlock = (Value.slice a l.length c).ownBlock ∨ ∃ g, (Value.slice av L2.length cv).ownBlock = some g ∧ w.heap.size ≤ g) := hP
  clear hT hP hl
  go_wp2
  refine wp_region_held_drew (S := (fun W => At W w.heap.size #[.int .i64 k, .int .i64 t, .string d])) (by kernel_rfl) ?_ (fun hHeld => ?_)
  · first | exact hX | assumption
  refine wpAnyH_take (i := 0) (oi := ({ dst := some 20, op := Go.Op.move (Go.Operand.tmp 0), type := 37, pos := "log.go:27", after := #[], guard := none } : Go.Oper)) (v := .pointer (some ⟨b, 0, none⟩)) rfl (by kernel_rfl) (by kernel_rfl) (by kernel_rfl) (fun _ _ _ h => h) (Or.inl ⟨by rfl, ?_⟩) (by assumption) ?_
  · intro wx hSw
    try dsimp only at hSw
    obtain ⟨⟨x0, x1, x2⟩, -, -⟩ := hSw.three
    go_simp
    try with_reducible rfl
  try simp only [Act.put, List.setIfInBounds_toArray, List.set_cons_zero, List.set_cons_succ]
  refine wpAnyH_take (i := 1) (oi := ({ dst := some 21, op := Go.Op.move (Go.Operand.tmp 0), type := 37, pos := "log.go:27", after := #[], guard := none } : Go.Oper)) (v := .pointer (some ⟨b, 0, none⟩)) rfl (by kernel_rfl) (by kernel_rfl) (by kernel_rfl) (fun _ _ _ h => h) (Or.inl ⟨by rfl, ?_⟩) (by assumption) ?_
  · intro wx hSw
    try dsimp only at hSw
    obtain ⟨⟨x0, x1, x2⟩, -, -⟩ := hSw.three
    go_simp
    try with_reducible rfl
  try simp only [Act.put, List.setIfInBounds_toArray, List.set_cons_zero, List.set_cons_succ]
  refine wpAnyH_take (i := 2) (oi := ({ dst := some 22, op := Go.Op.nilCheck (Go.Operand.tmp 21), type := 0, pos := "log.go:27", after := #[{ on := 1, ground := Go.Ground.data }], guard := none } : Go.Oper)) (v := .pointer (some ⟨b, 0, none⟩)) rfl (by kernel_rfl) (by kernel_rfl) (by kernel_rfl) (fun _ _ _ h => h) (Or.inl ⟨by rfl, ?_⟩) (by assumption) ?_
  · intro wx hSw
    try dsimp only at hSw
    obtain ⟨⟨x0, x1, x2⟩, -, -⟩ := hSw.three
    go_simp
    try with_reducible rfl
  try simp only [Act.put, List.setIfInBounds_toArray, List.set_cons_zero, List.set_cons_succ]
  refine wpAnyH_take (i := 3) (oi := ({ dst := some 23, op := Go.Op.fieldAddr 57 (Go.Operand.tmp 22) 0, type := 0, pos := "log.go:27", after := #[{ on := 2, ground := Go.Ground.data }], guard := none } : Go.Oper)) (v := .pointer (some ⟨b, 0, none⟩)) rfl (by kernel_rfl) (by kernel_rfl) (by kernel_rfl) (fun _ _ _ h => h) (Or.inl ⟨by rfl, ?_⟩) (by assumption) ?_
  · intro wx hSw
    try dsimp only at hSw
    obtain ⟨⟨x0, x1, x2⟩, -, -⟩ := hSw.three
    go_simp
    try with_reducible rfl
  try simp only [Act.put, List.setIfInBounds_toArray, List.set_cons_zero, List.set_cons_succ]
  refine wpAnyH_take (i := 5) (oi := ({ dst := some 25, op := Go.Op.load 23 (Go.Operand.tmp 3), type := 23, pos := "log.go:27", after := #[], guard := none } : Go.Oper)) (v := .agg #[.int .i64 k, .int .i64 t, .string d]) rfl (by kernel_rfl) (by kernel_rfl) (by kernel_rfl) (fun _ _ _ h => h) (Or.inl ⟨by rfl, ?_⟩) (by assumption) ?_
  · intro wx hSw
    try dsimp only at hSw
    obtain ⟨⟨x0, x1, x2⟩, -, -⟩ := hSw.three
    go_simp
    try with_reducible rfl
  try simp only [Act.put, List.setIfInBounds_toArray, List.set_cons_zero, List.set_cons_succ]
  refine wpAnyH_ready (rs := [4, 6]) (by kernel_rfl) (by simp) ?_
  refine AllReadyH.cons (o := ({ dst := some 24, op := Go.Op.load 29 (Go.Operand.tmp 23), type := 29, pos := "log.go:27", after := #[{ on := 3, ground := Go.Ground.data }], guard := none } : Go.Oper)) rfl (fun K hK => ?_) (AllReadyH.cons (o := ({ dst := some 26, op := Go.Op.buildSlice 29 1 #[(0, Go.Operand.tmp 25)], type := 29, pos := "log.go:27", after := #[{ on := 5, ground := Go.Ground.data }], guard := none } : Go.Oper)) rfl (fun K hK => ?_) AllReadyH.nil)
  · go_simp
    refine hK.out _ _ hHeld (fun hHeld => ?_)
    clear hK K
    try simp only [Act.put, List.setIfInBounds_toArray, List.set_cons_zero, List.set_cons_succ]
    refine wpAnyH_ready (rs := [6]) (by kernel_rfl) (by simp) ?_
    refine AllReadyH.cons (o := ({ dst := some 26, op := Go.Op.buildSlice 29 1 #[(0, Go.Operand.tmp 25)], type := 29, pos := "log.go:27", after := #[{ on := 5, ground := Go.Ground.data }], guard := none } : Go.Oper)) rfl (fun K hK => ?_) AllReadyH.nil
    · go_simp
      refine hK.out _ _ hXa (fun hHeld => ?_)
      clear hK K
      try simp only [Act.put, List.setIfInBounds_toArray, List.set_cons_zero, List.set_cons_succ]
      refine wpAnyH_ready (rs := [7]) (by kernel_rfl) (by simp) ?_
      refine AllReadyH.cons (o := ({ dst := some 27, op := Go.Op.call { callee := Go.Callee.builtin Go.Builtin.append, args := #[Go.Operand.tmp 24, Go.Operand.tmp 26], argTypes := #[29, 29] }, type := 29, pos := "log.go:27", after := #[{ on := 4, ground := Go.Ground.data }, { on := 6, ground := Go.Ground.data }], guard := none } : Go.Oper)) rfl (fun K hK => ?_) AllReadyH.nil
      · refine step_append_str (by rfl) _ _ (by rfl) (by rfl) (by rfl) hrun ?_
        refine hK.out _ _ hXb (fun hHeld => ?_)
        clear hK K
        try simp only [Act.put, List.setIfInBounds_toArray, List.set_cons_zero, List.set_cons_succ]
        refine wpAnyH_take (i := 8) (oi := ({ dst := some 28, op := Go.Op.nilCheck (Go.Operand.tmp 20), type := 0, pos := "log.go:27", after := #[{ on := 0, ground := Go.Ground.data }, { on := 0, ground := Go.Ground.phase }, { on := 1, ground := Go.Ground.phase }, { on := 2, ground := Go.Ground.phase }, { on := 3, ground := Go.Ground.phase }, { on := 4, ground := Go.Ground.phase }, { on := 5, ground := Go.Ground.phase }, { on := 6, ground := Go.Ground.phase }, { on := 7, ground := Go.Ground.phase }], guard := none } : Go.Oper)) (v := .pointer (some ⟨b, 0, none⟩)) rfl (by kernel_rfl) (by kernel_rfl) (by kernel_rfl) (fun _ _ _ h => h) (Or.inl ⟨by rfl, ?_⟩) (by assumption) ?_
        · intro wx hSw
          try dsimp only at hSw
          obtain ⟨⟨x0, x1, x2⟩, -, -⟩ := hSw.three
          go_simp
          try with_reducible rfl
        try simp only [Act.put, List.setIfInBounds_toArray, List.set_cons_zero, List.set_cons_succ]
        refine wpAnyH_take (i := 9) (oi := ({ dst := some 29, op := Go.Op.fieldAddr 57 (Go.Operand.tmp 28) 0, type := 0, pos := "log.go:27", after := #[{ on := 8, ground := Go.Ground.data }, { on := 0, ground := Go.Ground.phase }, { on := 1, ground := Go.Ground.phase }, { on := 2, ground := Go.Ground.phase }, { on := 3, ground := Go.Ground.phase }, { on := 4, ground := Go.Ground.phase }, { on := 5, ground := Go.Ground.phase }, { on := 6, ground := Go.Ground.phase }, { on := 7, ground := Go.Ground.phase }], guard := none } : Go.Oper)) (v := .pointer (some ⟨b, 0, none⟩)) rfl (by kernel_rfl) (by kernel_rfl) (by kernel_rfl) (fun _ _ _ h => h) (Or.inl ⟨by rfl, ?_⟩) (by assumption) ?_
        · intro wx hSw
          try dsimp only at hSw
          obtain ⟨⟨x0, x1, x2⟩, -, -⟩ := hSw.three
          go_simp
          try with_reducible rfl
        try simp only [Act.put, List.setIfInBounds_toArray, List.set_cons_zero, List.set_cons_succ]
        refine wpAnyH_ready (rs := [10]) (by kernel_rfl) (by simp) ?_
        refine AllReadyH.cons (o := ({ dst := none, op := Go.Op.store 29 (Go.Operand.tmp 29) (Go.Operand.tmp 27), type := 0, pos := "log.go:27", after := #[{ on := 9, ground := Go.Ground.data }, { on := 7, ground := Go.Ground.data }, { on := 7, ground := Go.Ground.chain }, { on := 0, ground := Go.Ground.phase }, { on := 1, ground := Go.Ground.phase }, { on := 2, ground := Go.Ground.phase }, { on := 3, ground := Go.Ground.phase }, { on := 4, ground := Go.Ground.phase }, { on := 5, ground := Go.Ground.phase }, { on := 6, ground := Go.Ground.phase }, { on := 7, ground := Go.Ground.phase }], guard := none } : Go.Oper)) rfl (fun K hK => ?_) AllReadyH.nil
        · go_simp
          refine hK.out _ _ hXc (fun hHeld => ?_)
          clear hK K
          try simp only [Act.put, List.setIfInBounds_toArray, List.set_cons_zero, List.set_cons_succ]
          refine wpAnyH_done (by kernel_rfl) ?_ _
          go_wp2_with fail
          refine (len_any hLc).mono ?_
          rintro e w9 ⟨rfl, hw9⟩
          subst hw9
          go_wp2
          go_ret2
          exact ⟨_, by rw [show L2.length = l.length + 1 from hlen]; rfl, by rw [hL2]; exact hLc, HT, HP⟩
  · go_simp
    refine hK.out _ _ hXa (fun hHeld => ?_)
    clear hK K
    try simp only [Act.put, List.setIfInBounds_toArray, List.set_cons_zero, List.set_cons_succ]
    refine wpAnyH_ready (rs := [4]) (by kernel_rfl) (by simp) ?_
    refine AllReadyH.cons (o := ({ dst := some 24, op := Go.Op.load 29 (Go.Operand.tmp 23), type := 29, pos := "log.go:27", after := #[{ on := 3, ground := Go.Ground.data }], guard := none } : Go.Oper)) rfl (fun K hK => ?_) AllReadyH.nil
    · go_simp
      refine hK.out _ _ hHeld (fun hHeld => ?_)
      clear hK K
      try simp only [Act.put, List.setIfInBounds_toArray, List.set_cons_zero, List.set_cons_succ]
      refine wpAnyH_ready (rs := [7]) (by kernel_rfl) (by simp) ?_
      refine AllReadyH.cons (o := ({ dst := some 27, op := Go.Op.call { callee := Go.Callee.builtin Go.Builtin.append, args := #[Go.Operand.tmp 24, Go.Operand.tmp 26], argTypes := #[29, 29] }, type := 29, pos := "log.go:27", after := #[{ on := 4, ground := Go.Ground.data }, { on := 6, ground := Go.Ground.data }], guard := none } : Go.Oper)) rfl (fun K hK => ?_) AllReadyH.nil
      · refine step_append_str (by rfl) _ _ (by rfl) (by rfl) (by rfl) hrun ?_
        refine hK.out _ _ hXb (fun hHeld => ?_)
        clear hK K
        try simp only [Act.put, List.setIfInBounds_toArray, List.set_cons_zero, List.set_cons_succ]
        refine wpAnyH_take (i := 8) (oi := ({ dst := some 28, op := Go.Op.nilCheck (Go.Operand.tmp 20), type := 0, pos := "log.go:27", after := #[{ on := 0, ground := Go.Ground.data }, { on := 0, ground := Go.Ground.phase }, { on := 1, ground := Go.Ground.phase }, { on := 2, ground := Go.Ground.phase }, { on := 3, ground := Go.Ground.phase }, { on := 4, ground := Go.Ground.phase }, { on := 5, ground := Go.Ground.phase }, { on := 6, ground := Go.Ground.phase }, { on := 7, ground := Go.Ground.phase }], guard := none } : Go.Oper)) (v := .pointer (some ⟨b, 0, none⟩)) rfl (by kernel_rfl) (by kernel_rfl) (by kernel_rfl) (fun _ _ _ h => h) (Or.inl ⟨by rfl, ?_⟩) (by assumption) ?_
        · intro wx hSw
          try dsimp only at hSw
          obtain ⟨⟨x0, x1, x2⟩, -, -⟩ := hSw.three
          go_simp
          try with_reducible rfl
        try simp only [Act.put, List.setIfInBounds_toArray, List.set_cons_zero, List.set_cons_succ]
        refine wpAnyH_take (i := 9) (oi := ({ dst := some 29, op := Go.Op.fieldAddr 57 (Go.Operand.tmp 28) 0, type := 0, pos := "log.go:27", after := #[{ on := 8, ground := Go.Ground.data }, { on := 0, ground := Go.Ground.phase }, { on := 1, ground := Go.Ground.phase }, { on := 2, ground := Go.Ground.phase }, { on := 3, ground := Go.Ground.phase }, { on := 4, ground := Go.Ground.phase }, { on := 5, ground := Go.Ground.phase }, { on := 6, ground := Go.Ground.phase }, { on := 7, ground := Go.Ground.phase }], guard := none } : Go.Oper)) (v := .pointer (some ⟨b, 0, none⟩)) rfl (by kernel_rfl) (by kernel_rfl) (by kernel_rfl) (fun _ _ _ h => h) (Or.inl ⟨by rfl, ?_⟩) (by assumption) ?_
        · intro wx hSw
          try dsimp only at hSw
          obtain ⟨⟨x0, x1, x2⟩, -, -⟩ := hSw.three
          go_simp
          try with_reducible rfl
        try simp only [Act.put, List.setIfInBounds_toArray, List.set_cons_zero, List.set_cons_succ]
        refine wpAnyH_ready (rs := [10]) (by kernel_rfl) (by simp) ?_
        refine AllReadyH.cons (o := ({ dst := none, op := Go.Op.store 29 (Go.Operand.tmp 29) (Go.Operand.tmp 27), type := 0, pos := "log.go:27", after := #[{ on := 9, ground := Go.Ground.data }, { on := 7, ground := Go.Ground.data }, { on := 7, ground := Go.Ground.chain }, { on := 0, ground := Go.Ground.phase }, { on := 1, ground := Go.Ground.phase }, { on := 2, ground := Go.Ground.phase }, { on := 3, ground := Go.Ground.phase }, { on := 4, ground := Go.Ground.phase }, { on := 5, ground := Go.Ground.phase }, { on := 6, ground := Go.Ground.phase }, { on := 7, ground := Go.Ground.phase }], guard := none } : Go.Oper)) rfl (fun K hK => ?_) AllReadyH.nil
        · go_simp
          refine hK.out _ _ hXc (fun hHeld => ?_)
          clear hK K
          try simp only [Act.put, List.setIfInBounds_toArray, List.set_cons_zero, List.set_cons_succ]
          refine wpAnyH_done (by kernel_rfl) ?_ _
          go_wp2_with fail
          refine (len_any hLc).mono ?_
          rintro e w9 ⟨rfl, hw9⟩
          subst hw9
          go_wp2
          go_ret2
          exact ⟨_, by rw [show L2.length = l.length + 1 from hlen]; rfl, by rw [hL2]; exact hLc, HT, HP⟩
end Go.Proofs.Ytgjkplkghoeeeaa
