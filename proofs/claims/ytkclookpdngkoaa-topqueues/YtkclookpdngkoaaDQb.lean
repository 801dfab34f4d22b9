/- New, number, place, State, Write. -/
import Derived.Test.YtkclookpdngkoaaDQa
namespace Go.Proofs.Ytkclookpdngkoaa.S
open Go.RowKit Go.Maps Go.Lib
set_option maxRecDepth 100000
set_option linter.unusedVariables false
set_option linter.unusedSimpArgs false


abbrev PQ (q : Nat) : Value := .pointer (some ⟨q, 0, none⟩)
theorem belD (w : World) (n : Nat) : Below w.heap.size w (w.drewN n) := below_drewN (Below.refl _ _) n
theorem new_t (first room : Int) (w : World) (h0 : 0 ≤ first) (h1 : first ≤ 4294967295) (r0 : 1 ≤ room) (r1 : room ≤ 65536) :
    Calls Try.prog 5 #[.int .i64 first, .int .i64 room] w fun e w' => e = .returned (.tuple #[PQ w.heap.size, .int .i64 0]) ∧ QX w' (fun k => w.heap.size ≤ k) w.heap.size ⟨room, first, 0, [], []⟩ (.slice none 0 0) (.slice none 0 0) ∧ Below w.heap.size w w' := by
  have hc := check_any first w
  rw [show numB first = true from decide_eq_true ⟨h0, h1⟩, codeOf_true] at hc
  go_enter Try.func5, Try.ntmps5
  go_wp2_with fail
  refine hc.mono ?_
  rintro e w' ⟨rfl, rfl⟩
  go_wp2
  go_ret2
  exact ⟨rfl, ⟨At.box w' _ 53, Kd.box _ _ _, Nat.le_refl _, BO.nil _ _, PO.nil _ _⟩, bel1 _ _⟩
def newB (first room : Int) : Bool := numB first && decide (1 ≤ room ∧ room ≤ 65536)
theorem new_f (first room : Int) (w : World) (h : newB first room = false) :
    Calls Try.prog 5 #[.int .i64 first, .int .i64 room] w fun e w' => e = .returned (.tuple #[.pointer none, .int .i64 1]) ∧ w' = w := by
  have hc := check_any first w
  unfold newB at h
  cases hn : numB first
  · rw [hn, codeOf_false] at hc
    clear h
    go_enter Try.func5, Try.ntmps5
    go_wp2_with fail
    refine hc.mono ?_
    rintro e w' ⟨rfl, rfl⟩
    go_wp2
    go_ret2
    exact ⟨rfl, rfl⟩
  · rw [hn, codeOf_true] at hc
    rw [hn, Bool.true_and, decide_eq_false_iff_not] at h
    by_cases hr : room < 1
    · clear h
      go_enter Try.func5, Try.ntmps5
      go_wp2_with fail
      refine hc.mono ?_
      rintro e w' ⟨rfl, rfl⟩
      go_wp2
      go_ret2
      exact ⟨rfl, rfl⟩
    · have hr2 : 65536 < room := by omega
      clear h
      go_enter Try.func5, Try.ntmps5
      go_wp2_with fail
      refine hc.mono ?_
      rintro e w' ⟨rfl, rfl⟩
      go_wp2
      go_ret2
      exact ⟨rfl, rfl⟩
theorem number_any {w : World} {R : Bk} {q : Nat} {Q : Qu} {vb vp : Value} (h : QX w R q Q vb vp) (hf : Q.Fine) (k : Nat) (hk : k ≤ 65536) :
    Calls Try.prog 21 #[PQ q, .int .i64 (k : Int)] w fun e w' => e = .returned (.int .i64 ((Q.left + (k : Int)) % 4294967296)) ∧ w' = w := by
  have hc := add_any Q.left (k : Int) w
  have e1 : numB Q.left = true := decide_eq_true ⟨hf.l0, hf.l1⟩
  have e2 : stepB (k : Int) = true := decide_eq_true (by omega)
  rw [addV, e1, e2] at hc
  obtain ⟨⟨c0, c1, c2, c3, c4⟩, -⟩ := h.at5.five
  clear h e1 e2
  go_enter Try.func21, Try.ntmps21
  go_wp2_with fail
  refine hc.mono ?_
  rintro e w' ⟨rfl, rfl⟩
  go_wp2
  go_ret
  exact ⟨rfl, rfl⟩
def placeB (Q : Qu) (n : Int) : Bool := numB n && decide ((n - Q.left) % 4294967296 ≤ (Q.sent : Int))
theorem place_any {w : World} {R : Bk} {q : Nat} {Q : Qu} {vb vp : Value} (h : QX w R q Q vb vp) (hf : Q.Fine) (n : Int) :
    Calls Try.prog 27 #[PQ q, .int .i64 n] w fun e w' => e = .returned (.tuple #[.int .i64 (distV Q.left n), .bool (placeB Q n)]) ∧ Below w.heap.size w w' := by
  have hc := dist_any Q.left n w
  have e1 : numB Q.left = true := decide_eq_true ⟨hf.l0, hf.l1⟩
  unfold placeB
  rw [distV, e1, Bool.true_and] at hc ⊢
  obtain ⟨⟨c0, c1, c2, c3, c4⟩, -⟩ := h.at5.five
  have hl0 := hf.l0
  have hl1 := hf.l1
  have hs1 : (Q.sent : Int) ≤ 65536 := by have := hf.sn; have := hf.ln; have := hf.r1; omega
  clear h e1 hf
  cases hn : numB n
  · rw [hn] at hc
    simp only [Bool.false_eq_true, if_false, codeOf_false] at hc ⊢
    go_enter Try.func27, Try.ntmps27
    go_wp2_with fail
    refine hc.mono ?_
    rintro e w' ⟨rfl, rfl⟩
    go_upto_region 2 with fail
    refine wp_region_held_drew (S := (fun W => Below w'.heap.size w' W)) (by kernel_rfl) ?_ (fun hHeld => ?_)
    · first | exact (Below.refl _ _).drew | assumption
    refine wpAnyH_take (i := 0) (oi := ({ dst := some 16, op := Go.Op.move (Go.Operand.tmp 4), type := 3, pos := "sendq.go:119", after := #[], guard := none } : Go.Oper)) (v := .int .i64 0) rfl (by kernel_rfl) (by kernel_rfl) (by kernel_rfl) (fun _ _ _ h => h) (Or.inl ⟨by rfl, ?_⟩) (by assumption) ?_
    · intro wx hSw
      try dsimp only at hSw
      go_simp
      try with_reducible rfl
    try simp only [Act.put, List.setIfInBounds_toArray, List.set_cons_zero, List.set_cons_succ]
    refine wpAnyH_take (i := 1) (oi := ({ dst := some 17, op := Go.Op.move (Go.Operand.tmp 6), type := 25, pos := "sendq.go:119", after := #[], guard := none } : Go.Oper)) (v := .int .i64 1) rfl (by kernel_rfl) (by kernel_rfl) (by kernel_rfl) (fun _ _ _ h => h) (Or.inl ⟨by rfl, ?_⟩) (by assumption) ?_
    · intro wx hSw
      try dsimp only at hSw
      go_simp
      try with_reducible rfl
    try simp only [Act.put, List.setIfInBounds_toArray, List.set_cons_zero, List.set_cons_succ]
    refine wpAnyH_take (i := 2) (oi := ({ dst := some 18, op := Go.Op.binOp Go.BinOp.eql 25 (Go.Operand.tmp 17) (Go.Operand.const (Go.Value.int Go.IntKind.i64 0)) 25, type := 4, pos := "sendq.go:119", after := #[{ on := 1, ground := Go.Ground.data }], guard := none } : Go.Oper)) (v := .bool false) rfl (by kernel_rfl) (by kernel_rfl) (by kernel_rfl) (fun _ _ _ h => h) (Or.inl ⟨by rfl, ?_⟩) (by assumption) ?_
    · intro wx hSw
      try dsimp only at hSw
      go_simp
      try with_reducible rfl
    try simp only [Act.put, List.setIfInBounds_toArray, List.set_cons_zero, List.set_cons_succ]
    refine wpAnyH_take (i := 3) (oi := ({ dst := some 19, op := Go.Op.move (Go.Operand.tmp 18), type := 4, pos := "sendq.go:119", after := #[{ on := 2, ground := Go.Ground.data }], guard := none } : Go.Oper)) (v := .bool false) rfl (by kernel_rfl) (by kernel_rfl) (by kernel_rfl) (fun _ _ _ h => h) (Or.inl ⟨by rfl, ?_⟩) (by assumption) ?_
    · intro wx hSw
      try dsimp only at hSw
      go_simp
      try with_reducible rfl
    try simp only [Act.put, List.setIfInBounds_toArray, List.set_cons_zero, List.set_cons_succ]
    refine wpAnyH_take (i := 4) (oi := ({ dst := some 20, op := Go.Op.move (Go.Operand.tmp 4), type := 3, pos := "sendq.go:119", after := #[{ on := 3, ground := Go.Ground.guard }], guard := some (3, true) } : Go.Oper)) (v := undef) rfl (by kernel_rfl) (by kernel_rfl) (by kernel_rfl) (fun _ _ _ h => h) (Or.inr ⟨by rfl, rfl⟩) (by assumption) ?_
    try simp only [Act.put, List.setIfInBounds_toArray, List.set_cons_zero, List.set_cons_succ]
    refine wpAnyH_take (i := 5) (oi := ({ dst := some 21, op := Go.Op.move (Go.Operand.tmp 0), type := 24, pos := "sendq.go:119", after := #[{ on := 3, ground := Go.Ground.guard }, { on := 11, ground := Go.Ground.gcOnly Go.Departure.lateStores }], guard := some (3, true) } : Go.Oper)) (v := undef) rfl (by kernel_rfl) (by kernel_rfl) (by kernel_rfl) (fun _ _ _ h => h) (Or.inr ⟨by rfl, rfl⟩) (by assumption) ?_
    try simp only [Act.put, List.setIfInBounds_toArray, List.set_cons_zero, List.set_cons_succ]
    refine wpAnyH_take (i := 6) (oi := ({ dst := some 22, op := Go.Op.nilCheck (Go.Operand.tmp 21), type := 0, pos := "sendq.go:119", after := #[{ on := 5, ground := Go.Ground.data }, { on := 3, ground := Go.Ground.guard }, { on := 11, ground := Go.Ground.gcOnly Go.Departure.lateStores }], guard := some (3, true) } : Go.Oper)) (v := undef) rfl (by kernel_rfl) (by kernel_rfl) (by kernel_rfl) (fun _ _ _ h => h) (Or.inr ⟨by rfl, rfl⟩) (by assumption) ?_
    try simp only [Act.put, List.setIfInBounds_toArray, List.set_cons_zero, List.set_cons_succ]
    refine wpAnyH_take (i := 7) (oi := ({ dst := some 23, op := Go.Op.fieldAddr 53 (Go.Operand.tmp 22) 2, type := 0, pos := "sendq.go:119", after := #[{ on := 6, ground := Go.Ground.data }, { on := 3, ground := Go.Ground.guard }, { on := 11, ground := Go.Ground.gcOnly Go.Departure.lateStores }], guard := some (3, true) } : Go.Oper)) (v := undef) rfl (by kernel_rfl) (by kernel_rfl) (by kernel_rfl) (fun _ _ _ h => h) (Or.inr ⟨by rfl, rfl⟩) (by assumption) ?_
    try simp only [Act.put, List.setIfInBounds_toArray, List.set_cons_zero, List.set_cons_succ]
    refine wpAnyH_take (i := 8) (oi := ({ dst := some 24, op := Go.Op.load 3 (Go.Operand.tmp 23), type := 3, pos := "sendq.go:119", after := #[{ on := 7, ground := Go.Ground.data }, { on := 3, ground := Go.Ground.guard }, { on := 11, ground := Go.Ground.gcOnly Go.Departure.lateStores }], guard := some (3, true) } : Go.Oper)) (v := undef) rfl (by kernel_rfl) (by kernel_rfl) (by kernel_rfl) (fun _ _ _ h => h) (Or.inr ⟨by rfl, rfl⟩) (by assumption) ?_
    try simp only [Act.put, List.setIfInBounds_toArray, List.set_cons_zero, List.set_cons_succ]
    refine wpAnyH_take (i := 9) (oi := ({ dst := some 25, op := Go.Op.binOp Go.BinOp.leq 3 (Go.Operand.tmp 20) (Go.Operand.tmp 24) 3, type := 4, pos := "sendq.go:119", after := #[{ on := 4, ground := Go.Ground.data }, { on := 8, ground := Go.Ground.data }, { on := 3, ground := Go.Ground.guard }, { on := 11, ground := Go.Ground.gcOnly Go.Departure.lateStores }], guard := some (3, true) } : Go.Oper)) (v := undef) rfl (by kernel_rfl) (by kernel_rfl) (by kernel_rfl) (fun _ _ _ h => h) (Or.inr ⟨by rfl, rfl⟩) (by assumption) ?_
    try simp only [Act.put, List.setIfInBounds_toArray, List.set_cons_zero, List.set_cons_succ]
    refine wpAnyH_take (i := 10) (oi := ({ dst := some 26, op := Go.Op.pick (Go.Operand.tmp 19) (Go.Operand.tmp 25) (Go.Operand.const (Go.Value.bool false)), type := 4, pos := "sendq.go:119", after := #[{ on := 3, ground := Go.Ground.data }, { on := 9, ground := Go.Ground.data }, { on := 11, ground := Go.Ground.gcOnly Go.Departure.lateStores }], guard := none } : Go.Oper)) (v := .bool false) rfl (by kernel_rfl) (by kernel_rfl) (by kernel_rfl) (fun _ _ _ h => h) (Or.inl ⟨by rfl, ?_⟩) (by assumption) ?_
    · intro wx hSw
      try dsimp only at hSw
      go_simp
      try with_reducible rfl
    try simp only [Act.put, List.setIfInBounds_toArray, List.set_cons_zero, List.set_cons_succ]
    refine wpAnyH_take (i := 11) (oi := ({ dst := some 4, op := Go.Op.assign (Go.Operand.tmp 16), type := 3, pos := "sendq.go:119", after := #[{ on := 0, ground := Go.Ground.data }, { on := 3, ground := Go.Ground.chain }, { on := 0, ground := Go.Ground.phase }, { on := 1, ground := Go.Ground.textOnly Go.Departure.lateStores }, { on := 2, ground := Go.Ground.textOnly Go.Departure.lateStores }, { on := 3, ground := Go.Ground.textOnly Go.Departure.lateStores }, { on := 4, ground := Go.Ground.phase }, { on := 5, ground := Go.Ground.textOnly Go.Departure.lateStores }, { on := 6, ground := Go.Ground.textOnly Go.Departure.lateStores }, { on := 7, ground := Go.Ground.textOnly Go.Departure.lateStores }, { on := 8, ground := Go.Ground.textOnly Go.Departure.lateStores }, { on := 9, ground := Go.Ground.textOnly Go.Departure.lateStores }, { on := 10, ground := Go.Ground.textOnly Go.Departure.lateStores }], guard := none } : Go.Oper)) (v := .int .i64 0) rfl (by kernel_rfl) (by kernel_rfl) (by kernel_rfl) (fun _ _ _ h => h) (Or.inl ⟨by rfl, ?_⟩) (by assumption) ?_
    · intro wx hSw
      try dsimp only at hSw
      go_simp
      try with_reducible rfl
    try simp only [Act.put, List.setIfInBounds_toArray, List.set_cons_zero, List.set_cons_succ]
    refine wpAnyH_take (i := 12) (oi := ({ dst := some 5, op := Go.Op.assign (Go.Operand.tmp 26), type := 4, pos := "sendq.go:119", after := #[{ on := 10, ground := Go.Ground.data }, { on := 11, ground := Go.Ground.chain }, { on := 0, ground := Go.Ground.phase }, { on := 1, ground := Go.Ground.phase }, { on := 2, ground := Go.Ground.phase }, { on := 3, ground := Go.Ground.phase }, { on := 4, ground := Go.Ground.phase }, { on := 5, ground := Go.Ground.phase }, { on := 6, ground := Go.Ground.phase }, { on := 7, ground := Go.Ground.phase }, { on := 8, ground := Go.Ground.phase }, { on := 9, ground := Go.Ground.phase }, { on := 10, ground := Go.Ground.phase }, { on := 11, ground := Go.Ground.phase }], guard := none } : Go.Oper)) (v := .bool false) rfl (by kernel_rfl) (by kernel_rfl) (by kernel_rfl) (fun _ _ _ h => h) (Or.inl ⟨by rfl, ?_⟩) (by assumption) ?_
    · intro wx hSw
      try dsimp only at hSw
      go_simp
      try with_reducible rfl
    try simp only [Act.put, List.setIfInBounds_toArray, List.set_cons_zero, List.set_cons_succ]
    refine wpAnyH_done (by kernel_rfl) ?_ _
    go_wp2
    go_ret2
    exact ⟨rfl, hHeld⟩
  · rw [hn] at hc
    have hm0 := Int.emod_nonneg (n - Q.left) (show (4294967296 : Int) ≠ 0 by omega)
    have hm1 := Int.emod_lt_of_pos (n - Q.left) (show (0 : Int) < 4294967296 by omega)
    simp only [if_true, codeOf_true] at hc ⊢
    obtain ⟨d, hd⟩ : ∃ d, d = (n - Q.left) % 4294967296 := ⟨_, rfl⟩
    rw [← hd] at hc hm0 hm1 ⊢
    clear hd
    go_enter Try.func27, Try.ntmps27
    go_wp2_with fail
    refine hc.mono ?_
    rintro e w' ⟨rfl, rfl⟩
    have hc2 : ∀ W, Below w'.heap.size w' W → W.cell? ⟨q, 2, none⟩ = some (.int .i64 (Q.sent : Int)) := fun W hW => later hW c2
    go_upto_region 2 with fail
    refine wp_region_held_drew (S := (fun W => Below w'.heap.size w' W)) (by kernel_rfl) ?_ (fun hHeld => ?_)
    · first | exact (Below.refl _ _).drew | assumption
    refine wpAnyH_take (i := 0) (oi := ({ dst := some 16, op := Go.Op.move (Go.Operand.tmp 4), type := 3, pos := "sendq.go:119", after := #[], guard := none } : Go.Oper)) (v := .int .i64 d) rfl (by kernel_rfl) (by kernel_rfl) (by kernel_rfl) (fun _ _ _ h => h) (Or.inl ⟨by rfl, ?_⟩) (by assumption) ?_
    · intro wx hSw
      try dsimp only at hSw
      have u2 := hc2 wx hSw
      go_simp
      try with_reducible rfl
    try simp only [Act.put, List.setIfInBounds_toArray, List.set_cons_zero, List.set_cons_succ]
    refine wpAnyH_take (i := 1) (oi := ({ dst := some 17, op := Go.Op.move (Go.Operand.tmp 6), type := 25, pos := "sendq.go:119", after := #[], guard := none } : Go.Oper)) (v := .int .i64 0) rfl (by kernel_rfl) (by kernel_rfl) (by kernel_rfl) (fun _ _ _ h => h) (Or.inl ⟨by rfl, ?_⟩) (by assumption) ?_
    · intro wx hSw
      try dsimp only at hSw
      have u2 := hc2 wx hSw
      go_simp
      try with_reducible rfl
    try simp only [Act.put, List.setIfInBounds_toArray, List.set_cons_zero, List.set_cons_succ]
    refine wpAnyH_take (i := 2) (oi := ({ dst := some 18, op := Go.Op.binOp Go.BinOp.eql 25 (Go.Operand.tmp 17) (Go.Operand.const (Go.Value.int Go.IntKind.i64 0)) 25, type := 4, pos := "sendq.go:119", after := #[{ on := 1, ground := Go.Ground.data }], guard := none } : Go.Oper)) (v := .bool true) rfl (by kernel_rfl) (by kernel_rfl) (by kernel_rfl) (fun _ _ _ h => h) (Or.inl ⟨by rfl, ?_⟩) (by assumption) ?_
    · intro wx hSw
      try dsimp only at hSw
      have u2 := hc2 wx hSw
      go_simp
      try with_reducible rfl
    try simp only [Act.put, List.setIfInBounds_toArray, List.set_cons_zero, List.set_cons_succ]
    refine wpAnyH_take (i := 3) (oi := ({ dst := some 19, op := Go.Op.move (Go.Operand.tmp 18), type := 4, pos := "sendq.go:119", after := #[{ on := 2, ground := Go.Ground.data }], guard := none } : Go.Oper)) (v := .bool true) rfl (by kernel_rfl) (by kernel_rfl) (by kernel_rfl) (fun _ _ _ h => h) (Or.inl ⟨by rfl, ?_⟩) (by assumption) ?_
    · intro wx hSw
      try dsimp only at hSw
      have u2 := hc2 wx hSw
      go_simp
      try with_reducible rfl
    try simp only [Act.put, List.setIfInBounds_toArray, List.set_cons_zero, List.set_cons_succ]
    refine wpAnyH_take (i := 4) (oi := ({ dst := some 20, op := Go.Op.move (Go.Operand.tmp 4), type := 3, pos := "sendq.go:119", after := #[{ on := 3, ground := Go.Ground.guard }], guard := some (3, true) } : Go.Oper)) (v := .int .i64 d) rfl (by kernel_rfl) (by kernel_rfl) (by kernel_rfl) (fun _ _ _ h => h) (Or.inl ⟨by rfl, ?_⟩) (by assumption) ?_
    · intro wx hSw
      try dsimp only at hSw
      have u2 := hc2 wx hSw
      go_simp
      try with_reducible rfl
    try simp only [Act.put, List.setIfInBounds_toArray, List.set_cons_zero, List.set_cons_succ]
    refine wpAnyH_take (i := 5) (oi := ({ dst := some 21, op := Go.Op.move (Go.Operand.tmp 0), type := 24, pos := "sendq.go:119", after := #[{ on := 3, ground := Go.Ground.guard }, { on := 11, ground := Go.Ground.gcOnly Go.Departure.lateStores }], guard := some (3, true) } : Go.Oper)) (v := .pointer (some ⟨q, 0, none⟩)) rfl (by kernel_rfl) (by kernel_rfl) (by kernel_rfl) (fun _ _ _ h => h) (Or.inl ⟨by rfl, ?_⟩) (by assumption) ?_
    · intro wx hSw
      try dsimp only at hSw
      have u2 := hc2 wx hSw
      go_simp
      try with_reducible rfl
    try simp only [Act.put, List.setIfInBounds_toArray, List.set_cons_zero, List.set_cons_succ]
    refine wpAnyH_take (i := 6) (oi := ({ dst := some 22, op := Go.Op.nilCheck (Go.Operand.tmp 21), type := 0, pos := "sendq.go:119", after := #[{ on := 5, ground := Go.Ground.data }, { on := 3, ground := Go.Ground.guard }, { on := 11, ground := Go.Ground.gcOnly Go.Departure.lateStores }], guard := some (3, true) } : Go.Oper)) (v := .pointer (some ⟨q, 0, none⟩)) rfl (by kernel_rfl) (by kernel_rfl) (by kernel_rfl) (fun _ _ _ h => h) (Or.inl ⟨by rfl, ?_⟩) (by assumption) ?_
    · intro wx hSw
      try dsimp only at hSw
      have u2 := hc2 wx hSw
      go_simp
      try with_reducible rfl
    try simp only [Act.put, List.setIfInBounds_toArray, List.set_cons_zero, List.set_cons_succ]
    refine wpAnyH_take (i := 7) (oi := ({ dst := some 23, op := Go.Op.fieldAddr 53 (Go.Operand.tmp 22) 2, type := 0, pos := "sendq.go:119", after := #[{ on := 6, ground := Go.Ground.data }, { on := 3, ground := Go.Ground.guard }, { on := 11, ground := Go.Ground.gcOnly Go.Departure.lateStores }], guard := some (3, true) } : Go.Oper)) (v := .pointer (some ⟨q, 2, none⟩)) rfl (by kernel_rfl) (by kernel_rfl) (by kernel_rfl) (fun _ _ _ h => h) (Or.inl ⟨by rfl, ?_⟩) (by assumption) ?_
    · intro wx hSw
      try dsimp only at hSw
      have u2 := hc2 wx hSw
      go_simp
      try with_reducible rfl
    try simp only [Act.put, List.setIfInBounds_toArray, List.set_cons_zero, List.set_cons_succ]
    refine wpAnyH_take (i := 8) (oi := ({ dst := some 24, op := Go.Op.load 3 (Go.Operand.tmp 23), type := 3, pos := "sendq.go:119", after := #[{ on := 7, ground := Go.Ground.data }, { on := 3, ground := Go.Ground.guard }, { on := 11, ground := Go.Ground.gcOnly Go.Departure.lateStores }], guard := some (3, true) } : Go.Oper)) (v := .int .i64 (Q.sent : Int)) rfl (by kernel_rfl) (by kernel_rfl) (by kernel_rfl) (fun _ _ _ h => h) (Or.inl ⟨by rfl, ?_⟩) (by assumption) ?_
    · intro wx hSw
      try dsimp only at hSw
      have u2 := hc2 wx hSw
      go_simp
      try with_reducible rfl
    try simp only [Act.put, List.setIfInBounds_toArray, List.set_cons_zero, List.set_cons_succ]
    refine wpAnyH_take (i := 9) (oi := ({ dst := some 25, op := Go.Op.binOp Go.BinOp.leq 3 (Go.Operand.tmp 20) (Go.Operand.tmp 24) 3, type := 4, pos := "sendq.go:119", after := #[{ on := 4, ground := Go.Ground.data }, { on := 8, ground := Go.Ground.data }, { on := 3, ground := Go.Ground.guard }, { on := 11, ground := Go.Ground.gcOnly Go.Departure.lateStores }], guard := some (3, true) } : Go.Oper)) (v := .bool (decide (d ≤ (Q.sent : Int)))) rfl (by kernel_rfl) (by kernel_rfl) (by kernel_rfl) (fun _ _ _ h => h) (Or.inl ⟨by rfl, ?_⟩) (by assumption) ?_
    · intro wx hSw
      try dsimp only at hSw
      have u2 := hc2 wx hSw
      go_simp
      try with_reducible rfl
    try simp only [Act.put, List.setIfInBounds_toArray, List.set_cons_zero, List.set_cons_succ]
    refine wpAnyH_take (i := 10) (oi := ({ dst := some 26, op := Go.Op.pick (Go.Operand.tmp 19) (Go.Operand.tmp 25) (Go.Operand.const (Go.Value.bool false)), type := 4, pos := "sendq.go:119", after := #[{ on := 3, ground := Go.Ground.data }, { on := 9, ground := Go.Ground.data }, { on := 11, ground := Go.Ground.gcOnly Go.Departure.lateStores }], guard := none } : Go.Oper)) (v := .bool (decide (d ≤ (Q.sent : Int)))) rfl (by kernel_rfl) (by kernel_rfl) (by kernel_rfl) (fun _ _ _ h => h) (Or.inl ⟨by rfl, ?_⟩) (by assumption) ?_
    · intro wx hSw
      try dsimp only at hSw
      have u2 := hc2 wx hSw
      go_simp
      try with_reducible rfl
    try simp only [Act.put, List.setIfInBounds_toArray, List.set_cons_zero, List.set_cons_succ]
    refine wpAnyH_take (i := 11) (oi := ({ dst := some 4, op := Go.Op.assign (Go.Operand.tmp 16), type := 3, pos := "sendq.go:119", after := #[{ on := 0, ground := Go.Ground.data }, { on := 3, ground := Go.Ground.chain }, { on := 0, ground := Go.Ground.phase }, { on := 1, ground := Go.Ground.textOnly Go.Departure.lateStores }, { on := 2, ground := Go.Ground.textOnly Go.Departure.lateStores }, { on := 3, ground := Go.Ground.textOnly Go.Departure.lateStores }, { on := 4, ground := Go.Ground.phase }, { on := 5, ground := Go.Ground.textOnly Go.Departure.lateStores }, { on := 6, ground := Go.Ground.textOnly Go.Departure.lateStores }, { on := 7, ground := Go.Ground.textOnly Go.Departure.lateStores }, { on := 8, ground := Go.Ground.textOnly Go.Departure.lateStores }, { on := 9, ground := Go.Ground.textOnly Go.Departure.lateStores }, { on := 10, ground := Go.Ground.textOnly Go.Departure.lateStores }], guard := none } : Go.Oper)) (v := .int .i64 d) rfl (by kernel_rfl) (by kernel_rfl) (by kernel_rfl) (fun _ _ _ h => h) (Or.inl ⟨by rfl, ?_⟩) (by assumption) ?_
    · intro wx hSw
      try dsimp only at hSw
      have u2 := hc2 wx hSw
      go_simp
      try with_reducible rfl
    try simp only [Act.put, List.setIfInBounds_toArray, List.set_cons_zero, List.set_cons_succ]
    refine wpAnyH_take (i := 12) (oi := ({ dst := some 5, op := Go.Op.assign (Go.Operand.tmp 26), type := 4, pos := "sendq.go:119", after := #[{ on := 10, ground := Go.Ground.data }, { on := 11, ground := Go.Ground.chain }, { on := 0, ground := Go.Ground.phase }, { on := 1, ground := Go.Ground.phase }, { on := 2, ground := Go.Ground.phase }, { on := 3, ground := Go.Ground.phase }, { on := 4, ground := Go.Ground.phase }, { on := 5, ground := Go.Ground.phase }, { on := 6, ground := Go.Ground.phase }, { on := 7, ground := Go.Ground.phase }, { on := 8, ground := Go.Ground.phase }, { on := 9, ground := Go.Ground.phase }, { on := 10, ground := Go.Ground.phase }, { on := 11, ground := Go.Ground.phase }], guard := none } : Go.Oper)) (v := .bool (decide (d ≤ (Q.sent : Int)))) rfl (by kernel_rfl) (by kernel_rfl) (by kernel_rfl) (fun _ _ _ h => h) (Or.inl ⟨by rfl, ?_⟩) (by assumption) ?_
    · intro wx hSw
      try dsimp only at hSw
      have u2 := hc2 wx hSw
      go_simp
      try with_reducible rfl
    try simp only [Act.put, List.setIfInBounds_toArray, List.set_cons_zero, List.set_cons_succ]
    refine wpAnyH_done (by kernel_rfl) ?_ _
    go_wp2
    go_ret2
    exact ⟨by simp, hHeld⟩
end Go.Proofs.Ytkclookpdngkoaa.S
