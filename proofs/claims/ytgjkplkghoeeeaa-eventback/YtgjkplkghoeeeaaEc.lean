/- Bytes as an event: cut and Decode, the document's first and Decode. -/
import Derived.Test.YtgjkplkghoeeeaaEb
namespace Go.Proofs.Ytgjkplkghoeeeaa
open Go.RowKit
set_option maxRecDepth 100000
set_option linter.unusedVariables false
set_option linter.unusedSimpArgs false


theorem sl_sl (s v : ByteArray) (a b : Int) (hx : s.extract a.toNat b.toNat = v) (h0 : 0 ≤ a) (h1 : a ≤ b) (h2 : b ≤ (s.size : Int)) : ∀ W, (Instr.slice 9 (.string s) (some (.int .i64 a)) (some (.int .i64 b)) none).run Try.prog W = .ok (.string v) W := fun W => by
  rw [run_slice_string_if W 9 s .i64 .i64 a b Try.underlying9, if_pos ⟨by omega, by omega⟩, if_pos ⟨by omega, by omega⟩, ← hx]
theorem sl_from (s v : ByteArray) (a : Int) (hx : s.extract a.toNat s.size = v) (h0 : 0 ≤ a) (h : a ≤ (s.size : Int)) : ∀ W, (Instr.slice 9 (.string s) (some (.int .i64 a)) none none).run Try.prog W = .ok (.string v) W := fun W => by
  rw [run_slice_string_from_if W 9 s .i64 a Try.underlying9, if_pos ⟨by omega, by omega⟩, ← hx]
theorem sl_to (s v : ByteArray) (b : Int) (hx : s.extract 0 b.toNat = v) (h0 : 0 ≤ b) (h : b ≤ (s.size : Int)) : ∀ W, (Instr.slice 9 (.string s) none (some (.int .i64 b)) none).run Try.prog W = .ok (.string v) W := fun W => by
  rw [run_slice_string_h W 9 s Try.underlying9 .i64 b h0 h, ← hx]
theorem ix_at (s : ByteArray) (i : Nat) (x : Int) (h : i < s.size) (hx : (s[i].toNat : Int) = x) : ∀ W, (Instr.index 9 (.string s) (.int .i64 (i : Int))).run Try.prog W = .ok (.int .u8 x) W := fun W => by
  rw [run_index_string W 9 s .i64 i Try.underlying9, dif_pos ⟨by omega, by omega⟩, ← hx]; rfl
theorem get_at (s : ByteArray) (a k : Int) (w : World) (hs : s.size ≤ maxLen) (k0 : 1 ≤ k) (k1 : k ≤ 6) (h0 : 0 ≤ a) (h : a + k ≤ (s.size : Int)) :
    Calls Try.prog 37 #[.string s, .int .i64 a, .int .i64 k] w fun e w' => e = .returned (.tuple #[.int .i64 (numS (s.extract a.toNat (a + k).toNat)), .int .i64 0]) ∧ Below w.heap.size w w' := by
  have := get_any s a k w hs
  have hb : getB s.size a k = true := getB_t ⟨k0, k1, h0, by omega⟩
  rw [getV, if_pos hb, hb] at this
  exact this
/-- The numbers that bytes begin with. -/
theorem one_byte (s : ByteArray) (h : 0 < s.size) : numS (s.extract 0 1) = (s[0].toNat : Int) := by
  unfold numS
  rw [ext_toList, List.drop_zero]
  have hl := len_toList s
  cases e : s.data.toList with
  | nil => rw [e] at hl; simp at hl; omega
  | cons x r =>
    have : s[0] = x := by
      show s.data[0] = x
      rw [← Array.getElem_toList]
      simp [e]
    rw [this]
    simp [numL]

/-! ### cut -/
theorem cut_short {s : ByteArray} (h : s.size < 9) (w : World) :
    Calls Try.prog 29 #[.string s] w fun e w' => e = .returned (.tuple #[zE.v, .string ⟨#[]⟩, .bool false]) ∧ Below w.heap.size w w' := by
  obtain ⟨⟨r0, r1, r2⟩, ⟨f0, f1, f2⟩, hlt⟩ := (At.box w zE.vs 23).three
  have hl := bel1 w (.cells zE.vs 23)
  have t1 : decide ((s.size : Int) < 9) = true := decide_eq_true (by omega)
  go_enter Try.func29, Try.ntmps29
  go_wp2
  exact bodyPost_ret (v := .tuple #[zE.v, .string ⟨#[]⟩, .bool false]) (by simp [results, Try.results29, go_sem, r0, r1, r2]) rfl ⟨rfl, hl⟩
set_option maxHeartbeats 1000000 in
theorem cut_less (s : ByteArray) (w : World) (K T L : Int) (t1 : decide ((s.size : Int) < 9) = false)
    (g0 : ∀ W, Calls Try.prog 37 #[.string s, .int .i64 0, .int .i64 1] W fun e w' => e = .returned (.tuple #[.int .i64 K, .int .i64 0]) ∧ Below W.heap.size W w')
    (g1 : ∀ W, Calls Try.prog 37 #[.string s, .int .i64 1, .int .i64 6] W fun e w' => e = .returned (.tuple #[.int .i64 T, .int .i64 0]) ∧ Below W.heap.size W w')
    (g2 : ∀ W, Calls Try.prog 37 #[.string s, .int .i64 7, .int .i64 2] W fun e w' => e = .returned (.tuple #[.int .i64 L, .int .i64 0]) ∧ Below W.heap.size W w')
    (r : ByteArray) (q1 : ∀ W, (Instr.slice 9 (.string s) (some (.int .i64 9)) none none).run Try.prog W = .ok (.string r) W)
    (t2 : decide ((r.size : Int) < L) = true) :
    Calls Try.prog 29 #[.string s] w fun e w' => e = .returned (.tuple #[zE.v, .string ⟨#[]⟩, .bool false]) ∧ Below w.heap.size w w' := by
  have hR := At.box w zE.vs 23
  have hl := bel1 w (.cells zE.vs 23)
  go_enter Try.func29, Try.ntmps29
  go_wp2_with fail
  refine (g0 _).mono ?_
  rintro e w1 ⟨rfl, h1⟩
  have hl := bt hl h1
  have hR := hR.later h1
  clear h1
  go_wp2_with fail
  refine (g1 _).mono ?_
  rintro e w2 ⟨rfl, h2⟩
  have hl := bt hl h2
  have hR := hR.later h2
  clear h2
  go_wp2_with fail
  refine (g2 _).mono ?_
  rintro e w3 ⟨rfl, h3⟩
  have hl := bt hl h3
  have hR := hR.later h3
  clear h3
  clear g0 g1 g2
  obtain ⟨⟨r0, r1, r2⟩, ⟨f0, f1, f2⟩, hlt⟩ := hR.three
  go_wp2
  exact bodyPost_ret (v := .tuple #[zE.v, .string ⟨#[]⟩, .bool false]) (by simp [results, Try.results29, go_sem, r0, r1, r2]) rfl ⟨rfl, below3 hl (Nat.le_refl _) _ _ _⟩
set_option maxHeartbeats 2000000 in
theorem cut_t (s : ByteArray) (w : World) (K T L : Int) (t1 : decide ((s.size : Int) < 9) = false)
    (g0 : ∀ W, Calls Try.prog 37 #[.string s, .int .i64 0, .int .i64 1] W fun e w' => e = .returned (.tuple #[.int .i64 K, .int .i64 0]) ∧ Below W.heap.size W w')
    (g1 : ∀ W, Calls Try.prog 37 #[.string s, .int .i64 1, .int .i64 6] W fun e w' => e = .returned (.tuple #[.int .i64 T, .int .i64 0]) ∧ Below W.heap.size W w')
    (g2 : ∀ W, Calls Try.prog 37 #[.string s, .int .i64 7, .int .i64 2] W fun e w' => e = .returned (.tuple #[.int .i64 L, .int .i64 0]) ∧ Below W.heap.size W w')
    (r : ByteArray) (q1 : ∀ W, (Instr.slice 9 (.string s) (some (.int .i64 9)) none none).run Try.prog W = .ok (.string r) W)
    (t2 : decide ((r.size : Int) < L) = false) (dd rest : ByteArray) (q2 : ∀ W, (Instr.slice 9 (.string r) none (some (.int .i64 L)) none).run Try.prog W = .ok (.string dd) W) (q3 : ∀ W, (Instr.slice 9 (.string r) (some (.int .i64 L)) none none).run Try.prog W = .ok (.string rest) W)
    (hc : ∀ W, Calls Try.prog 12 #[.agg #[.int .i64 K, .int .i64 T, .string dd]] W fun e w' => e = .returned (.int .i64 0) ∧ Below W.heap.size W w') :
    Calls Try.prog 29 #[.string s] w fun e w' => e = .returned (.tuple #[.agg #[.int .i64 K, .int .i64 T, .string dd], .string rest, .bool true]) ∧ Below w.heap.size w w' := by
  have hR := At.box w zE.vs 23
  have hl := bel1 w (.cells zE.vs 23)
  go_enter Try.func29, Try.ntmps29
  go_wp2_with fail
  refine (g0 _).mono ?_
  rintro e w1 ⟨rfl, h1⟩
  have hl := bt hl h1
  have hR := hR.later h1
  clear h1
  go_wp2_with fail
  refine (g1 _).mono ?_
  rintro e w2 ⟨rfl, h2⟩
  have hl := bt hl h2
  have hR := hR.later h2
  clear h2
  go_wp2_with fail
  refine (g2 _).mono ?_
  rintro e w3 ⟨rfl, h3⟩
  have hl := bt hl h3
  have hR := hR.later h3
  clear h3
  clear g0 g1 g2
  obtain ⟨⟨r0, r1, r2⟩, ⟨f0, f1, f2⟩, hlt⟩ := hR.three
  go_wp2
  have hA := hR.set3 (.int .i64 K) (.int .i64 T) (.string dd)
  have hl := below3 hl (Nat.le_refl _) (.int .i64 K) (.int .i64 T) (.string dd)
  clear hR r0 r1 r2 f0 f1 f2 hlt
  generalize ((w3.setCell ⟨w.heap.size, 0, none⟩ (.int .i64 K)).setCell ⟨w.heap.size, 1, none⟩ (.int .i64 T)).setCell ⟨w.heap.size, 2, none⟩ (.string dd) = w4 at *
  refine wp_region_held_drew (S := (fun W => Below w.heap.size w W ∧ At W w.heap.size #[.int .i64 K, .int .i64 T, .string dd])) (by kernel_rfl) ?_ (fun hHeld => ?_)
  · first | exact ⟨hl.drew, hA.later (Below.refl _ _).drew⟩ | assumption
  refine wpAnyH_take (i := 0) (oi := ({ dst := some 43, op := Go.Op.load 23 (Go.Operand.tmp 2), type := 23, pos := "event.go:87", after := #[], guard := none } : Go.Oper)) (v := .agg #[.int .i64 K, .int .i64 T, .string dd]) rfl (by kernel_rfl) (by kernel_rfl) (by kernel_rfl) (fun _ _ _ h => h) (Or.inl ⟨by rfl, ?_⟩) (by assumption) ?_
  · intro wx hSw
    try dsimp only at hSw
    have u := hSw.2.three
    obtain ⟨⟨u0, u1, u2⟩, -, -⟩ := u
    go_simp
    try with_reducible rfl
  try simp only [Act.put, List.setIfInBounds_toArray, List.set_cons_zero, List.set_cons_succ]
  refine wpAnyH_take (i := 1) (oi := ({ dst := some 44, op := Go.Op.move (Go.Operand.tmp 0), type := 9, pos := "event.go:87", after := #[], guard := none } : Go.Oper)) (v := .string r) rfl (by kernel_rfl) (by kernel_rfl) (by kernel_rfl) (fun _ _ _ h => h) (Or.inl ⟨by rfl, ?_⟩) (by assumption) ?_
  · intro wx hSw
    try dsimp only at hSw
    have u := hSw.2.three
    obtain ⟨⟨u0, u1, u2⟩, -, -⟩ := u
    go_simp
    try with_reducible rfl
  try simp only [Act.put, List.setIfInBounds_toArray, List.set_cons_zero, List.set_cons_succ]
  refine wpAnyH_take (i := 2) (oi := ({ dst := some 45, op := Go.Op.move (Go.Operand.tmp 9), type := 3, pos := "event.go:87", after := #[], guard := none } : Go.Oper)) (v := .int .i64 L) rfl (by kernel_rfl) (by kernel_rfl) (by kernel_rfl) (fun _ _ _ h => h) (Or.inl ⟨by rfl, ?_⟩) (by assumption) ?_
  · intro wx hSw
    try dsimp only at hSw
    have u := hSw.2.three
    obtain ⟨⟨u0, u1, u2⟩, -, -⟩ := u
    go_simp
    try with_reducible rfl
  try simp only [Act.put, List.setIfInBounds_toArray, List.set_cons_zero, List.set_cons_succ]
  refine wpAnyH_take (i := 3) (oi := ({ dst := some 46, op := Go.Op.slice 9 (Go.Operand.tmp 44) (some (Go.Operand.tmp 45)) none none, type := 9, pos := "event.go:87", after := #[{ on := 1, ground := Go.Ground.data }, { on := 2, ground := Go.Ground.data }], guard := none } : Go.Oper)) (v := .string rest) rfl (by kernel_rfl) (by kernel_rfl) (by kernel_rfl) (fun _ _ _ h => h) (Or.inl ⟨by rfl, ?_⟩) (by assumption) ?_
  · intro wx hSw
    try dsimp only at hSw
    have u := hSw.2.three
    obtain ⟨⟨u0, u1, u2⟩, -, -⟩ := u
    go_simp
    try with_reducible rfl
  try simp only [Act.put, List.setIfInBounds_toArray, List.set_cons_zero, List.set_cons_succ]
  refine wpAnyH_take (i := 4) (oi := ({ dst := some 47, op := Go.Op.load 23 (Go.Operand.tmp 2), type := 23, pos := "event.go:87", after := #[], guard := none } : Go.Oper)) (v := .agg #[.int .i64 K, .int .i64 T, .string dd]) rfl (by kernel_rfl) (by kernel_rfl) (by kernel_rfl) (fun _ _ _ h => h) (Or.inl ⟨by rfl, ?_⟩) (by assumption) ?_
  · intro wx hSw
    try dsimp only at hSw
    have u := hSw.2.three
    obtain ⟨⟨u0, u1, u2⟩, -, -⟩ := u
    go_simp
    try with_reducible rfl
  try simp only [Act.put, List.setIfInBounds_toArray, List.set_cons_zero, List.set_cons_succ]
  refine wpAnyH_ready (rs := [5]) (by kernel_rfl) (by simp) ?_
  refine AllReadyH.cons (o := ({ dst := some 48, op := Go.Op.call { callee := Go.Callee.value (Go.Operand.func 12), args := #[Go.Operand.tmp 47], argTypes := #[23] }, type := 24, pos := "event.go:87", after := #[{ on := 4, ground := Go.Ground.data }], guard := none } : Go.Oper)) rfl (fun K hK => ?_) AllReadyH.nil
  go_simp
  refine (hc _).mono ?_
  rintro e wk ⟨rfl, hbk⟩
  refine hK.out _ _ ⟨bt hHeld.1 hbk, hHeld.2.later hbk⟩ (fun hHeld => ?_)
  clear hK K
  try simp only [Act.put, List.setIfInBounds_toArray, List.set_cons_zero, List.set_cons_succ]
  refine wpAnyH_take (i := 6) (oi := ({ dst := some 49, op := Go.Op.binOp Go.BinOp.eql 24 (Go.Operand.tmp 48) (Go.Operand.const (Go.Value.int Go.IntKind.i64 0)) 24, type := 4, pos := "event.go:87", after := #[{ on := 5, ground := Go.Ground.data }, { on := 8, ground := Go.Ground.gcOnly Go.Departure.lateStores }], guard := none } : Go.Oper)) (v := .bool true) rfl (by kernel_rfl) (by kernel_rfl) (by kernel_rfl) (fun _ _ _ h => h) (Or.inl ⟨by rfl, ?_⟩) (by assumption) ?_
  · intro wx hSw
    try dsimp only at hSw
    have u := hSw.2.three
    obtain ⟨⟨u0, u1, u2⟩, -, -⟩ := u
    go_simp
    try with_reducible rfl
  try simp only [Act.put, List.setIfInBounds_toArray, List.set_cons_zero, List.set_cons_succ]
  refine wpAnyH_ready (rs := [7]) (by kernel_rfl) (by simp) ?_
  refine AllReadyH.cons (o := ({ dst := none, op := Go.Op.store 23 (Go.Operand.tmp 2) (Go.Operand.tmp 43), type := 0, pos := "event.go:87", after := #[{ on := 0, ground := Go.Ground.data }, { on := 5, ground := Go.Ground.chain }, { on := 0, ground := Go.Ground.phase }, { on := 1, ground := Go.Ground.textOnly Go.Departure.lateStores }, { on := 2, ground := Go.Ground.textOnly Go.Departure.lateStores }, { on := 3, ground := Go.Ground.textOnly Go.Departure.lateStoresUnsure }, { on := 4, ground := Go.Ground.phase }, { on := 5, ground := Go.Ground.textOnly Go.Departure.lateStoresUnsure }, { on := 6, ground := Go.Ground.textOnly Go.Departure.lateStores }], guard := none } : Go.Oper)) rfl (fun K hK => ?_) AllReadyH.nil
  obtain ⟨hb1, hA1⟩ := hHeld
  obtain ⟨⟨r0, r1, r2⟩, ⟨f0, f1, f2⟩, hlt⟩ := hA1.three
  go_simp
  refine hK.out _ _ ⟨below3 hb1 (Nat.le_refl _) _ _ _, hA1.set3 _ _ _⟩ (fun hHeld => ?_)
  clear hK K
  try simp only [Act.put, List.setIfInBounds_toArray, List.set_cons_zero, List.set_cons_succ]
  refine wpAnyH_take (i := 8) (oi := ({ dst := some 3, op := Go.Op.assign (Go.Operand.tmp 46), type := 9, pos := "event.go:87", after := #[{ on := 3, ground := Go.Ground.data }, { on := 7, ground := Go.Ground.chain }, { on := 0, ground := Go.Ground.phase }, { on := 1, ground := Go.Ground.phase }, { on := 2, ground := Go.Ground.phase }, { on := 3, ground := Go.Ground.phase }, { on := 4, ground := Go.Ground.phase }, { on := 5, ground := Go.Ground.textOnly Go.Departure.lateStoresUnsure }, { on := 6, ground := Go.Ground.textOnly Go.Departure.lateStores }, { on := 7, ground := Go.Ground.phase }], guard := none } : Go.Oper)) (v := .string rest) rfl (by kernel_rfl) (by kernel_rfl) (by kernel_rfl) (fun _ _ _ h => h) (Or.inl ⟨by rfl, ?_⟩) (by assumption) ?_
  · intro wx hSw
    try dsimp only at hSw
    have u := hSw.2.three
    obtain ⟨⟨u0, u1, u2⟩, -, -⟩ := u
    go_simp
    try with_reducible rfl
  try simp only [Act.put, List.setIfInBounds_toArray, List.set_cons_zero, List.set_cons_succ]
  refine wpAnyH_take (i := 9) (oi := ({ dst := some 4, op := Go.Op.assign (Go.Operand.tmp 49), type := 4, pos := "event.go:87", after := #[{ on := 6, ground := Go.Ground.data }, { on := 8, ground := Go.Ground.chain }, { on := 0, ground := Go.Ground.phase }, { on := 1, ground := Go.Ground.phase }, { on := 2, ground := Go.Ground.phase }, { on := 3, ground := Go.Ground.phase }, { on := 4, ground := Go.Ground.phase }, { on := 5, ground := Go.Ground.phase }, { on := 6, ground := Go.Ground.phase }, { on := 7, ground := Go.Ground.phase }, { on := 8, ground := Go.Ground.phase }], guard := none } : Go.Oper)) (v := .bool true) rfl (by kernel_rfl) (by kernel_rfl) (by kernel_rfl) (fun _ _ _ h => h) (Or.inl ⟨by rfl, ?_⟩) (by assumption) ?_
  · intro wx hSw
    try dsimp only at hSw
    have u := hSw.2.three
    obtain ⟨⟨u0, u1, u2⟩, -, -⟩ := u
    go_simp
    try with_reducible rfl
  try simp only [Act.put, List.setIfInBounds_toArray, List.set_cons_zero, List.set_cons_succ]
  refine wpAnyH_done (by kernel_rfl) ?_ _
  obtain ⟨hb1, hA1⟩ := hHeld
  obtain ⟨⟨r0, r1, r2⟩, ⟨f0, f1, f2⟩, hlt⟩ := hA1.three
  go_wp2
  exact bodyPost_ret (v := .tuple #[.agg #[.int .i64 K, .int .i64 T, .string dd], .string rest, .bool true]) (by simp [results, Try.results29, go_sem, r0, r1, r2]) rfl ⟨rfl, hb1⟩
set_option maxHeartbeats 2000000 in
theorem cut_f (s : ByteArray) (w : World) (K T L : Int) (t1 : decide ((s.size : Int) < 9) = false)
    (g0 : ∀ W, Calls Try.prog 37 #[.string s, .int .i64 0, .int .i64 1] W fun e w' => e = .returned (.tuple #[.int .i64 K, .int .i64 0]) ∧ Below W.heap.size W w')
    (g1 : ∀ W, Calls Try.prog 37 #[.string s, .int .i64 1, .int .i64 6] W fun e w' => e = .returned (.tuple #[.int .i64 T, .int .i64 0]) ∧ Below W.heap.size W w')
    (g2 : ∀ W, Calls Try.prog 37 #[.string s, .int .i64 7, .int .i64 2] W fun e w' => e = .returned (.tuple #[.int .i64 L, .int .i64 0]) ∧ Below W.heap.size W w')
    (r : ByteArray) (q1 : ∀ W, (Instr.slice 9 (.string s) (some (.int .i64 9)) none none).run Try.prog W = .ok (.string r) W)
    (t2 : decide ((r.size : Int) < L) = false) (dd rest : ByteArray) (q2 : ∀ W, (Instr.slice 9 (.string r) none (some (.int .i64 L)) none).run Try.prog W = .ok (.string dd) W) (q3 : ∀ W, (Instr.slice 9 (.string r) (some (.int .i64 L)) none none).run Try.prog W = .ok (.string rest) W)
    (hc : ∀ W, Calls Try.prog 12 #[.agg #[.int .i64 K, .int .i64 T, .string dd]] W fun e w' => e = .returned (.int .i64 230) ∧ Below W.heap.size W w') :
    Calls Try.prog 29 #[.string s] w fun e w' => e = .returned (.tuple #[.agg #[.int .i64 K, .int .i64 T, .string dd], .string rest, .bool false]) ∧ Below w.heap.size w w' := by
  have hR := At.box w zE.vs 23
  have hl := bel1 w (.cells zE.vs 23)
  go_enter Try.func29, Try.ntmps29
  go_wp2_with fail
  refine (g0 _).mono ?_
  rintro e w1 ⟨rfl, h1⟩
  have hl := bt hl h1
  have hR := hR.later h1
  clear h1
  go_wp2_with fail
  refine (g1 _).mono ?_
  rintro e w2 ⟨rfl, h2⟩
  have hl := bt hl h2
  have hR := hR.later h2
  clear h2
  go_wp2_with fail
  refine (g2 _).mono ?_
  rintro e w3 ⟨rfl, h3⟩
  have hl := bt hl h3
  have hR := hR.later h3
  clear h3
  clear g0 g1 g2
  obtain ⟨⟨r0, r1, r2⟩, ⟨f0, f1, f2⟩, hlt⟩ := hR.three
  go_wp2
  have hA := hR.set3 (.int .i64 K) (.int .i64 T) (.string dd)
  have hl := below3 hl (Nat.le_refl _) (.int .i64 K) (.int .i64 T) (.string dd)
  clear hR r0 r1 r2 f0 f1 f2 hlt
  generalize ((w3.setCell ⟨w.heap.size, 0, none⟩ (.int .i64 K)).setCell ⟨w.heap.size, 1, none⟩ (.int .i64 T)).setCell ⟨w.heap.size, 2, none⟩ (.string dd) = w4 at *
  refine wp_region_held_drew (S := (fun W => Below w.heap.size w W ∧ At W w.heap.size #[.int .i64 K, .int .i64 T, .string dd])) (by kernel_rfl) ?_ (fun hHeld => ?_)
  · first | exact ⟨hl.drew, hA.later (Below.refl _ _).drew⟩ | assumption
  refine wpAnyH_take (i := 0) (oi := ({ dst := some 43, op := Go.Op.load 23 (Go.Operand.tmp 2), type := 23, pos := "event.go:87", after := #[], guard := none } : Go.Oper)) (v := .agg #[.int .i64 K, .int .i64 T, .string dd]) rfl (by kernel_rfl) (by kernel_rfl) (by kernel_rfl) (fun _ _ _ h => h) (Or.inl ⟨by rfl, ?_⟩) (by assumption) ?_
  · intro wx hSw
    try dsimp only at hSw
    have u := hSw.2.three
    obtain ⟨⟨u0, u1, u2⟩, -, -⟩ := u
    go_simp
    try with_reducible rfl
  try simp only [Act.put, List.setIfInBounds_toArray, List.set_cons_zero, List.set_cons_succ]
  refine wpAnyH_take (i := 1) (oi := ({ dst := some 44, op := Go.Op.move (Go.Operand.tmp 0), type := 9, pos := "event.go:87", after := #[], guard := none } : Go.Oper)) (v := .string r) rfl (by kernel_rfl) (by kernel_rfl) (by kernel_rfl) (fun _ _ _ h => h) (Or.inl ⟨by rfl, ?_⟩) (by assumption) ?_
  · intro wx hSw
    try dsimp only at hSw
    have u := hSw.2.three
    obtain ⟨⟨u0, u1, u2⟩, -, -⟩ := u
    go_simp
    try with_reducible rfl
  try simp only [Act.put, List.setIfInBounds_toArray, List.set_cons_zero, List.set_cons_succ]
  refine wpAnyH_take (i := 2) (oi := ({ dst := some 45, op := Go.Op.move (Go.Operand.tmp 9), type := 3, pos := "event.go:87", after := #[], guard := none } : Go.Oper)) (v := .int .i64 L) rfl (by kernel_rfl) (by kernel_rfl) (by kernel_rfl) (fun _ _ _ h => h) (Or.inl ⟨by rfl, ?_⟩) (by assumption) ?_
  · intro wx hSw
    try dsimp only at hSw
    have u := hSw.2.three
    obtain ⟨⟨u0, u1, u2⟩, -, -⟩ := u
    go_simp
    try with_reducible rfl
  try simp only [Act.put, List.setIfInBounds_toArray, List.set_cons_zero, List.set_cons_succ]
  refine wpAnyH_take (i := 3) (oi := ({ dst := some 46, op := Go.Op.slice 9 (Go.Operand.tmp 44) (some (Go.Operand.tmp 45)) none none, type := 9, pos := "event.go:87", after := #[{ on := 1, ground := Go.Ground.data }, { on := 2, ground := Go.Ground.data }], guard := none } : Go.Oper)) (v := .string rest) rfl (by kernel_rfl) (by kernel_rfl) (by kernel_rfl) (fun _ _ _ h => h) (Or.inl ⟨by rfl, ?_⟩) (by assumption) ?_
  · intro wx hSw
    try dsimp only at hSw
    have u := hSw.2.three
    obtain ⟨⟨u0, u1, u2⟩, -, -⟩ := u
    go_simp
    try with_reducible rfl
  try simp only [Act.put, List.setIfInBounds_toArray, List.set_cons_zero, List.set_cons_succ]
  refine wpAnyH_take (i := 4) (oi := ({ dst := some 47, op := Go.Op.load 23 (Go.Operand.tmp 2), type := 23, pos := "event.go:87", after := #[], guard := none } : Go.Oper)) (v := .agg #[.int .i64 K, .int .i64 T, .string dd]) rfl (by kernel_rfl) (by kernel_rfl) (by kernel_rfl) (fun _ _ _ h => h) (Or.inl ⟨by rfl, ?_⟩) (by assumption) ?_
  · intro wx hSw
    try dsimp only at hSw
    have u := hSw.2.three
    obtain ⟨⟨u0, u1, u2⟩, -, -⟩ := u
    go_simp
    try with_reducible rfl
  try simp only [Act.put, List.setIfInBounds_toArray, List.set_cons_zero, List.set_cons_succ]
  refine wpAnyH_ready (rs := [5]) (by kernel_rfl) (by simp) ?_
  refine AllReadyH.cons (o := ({ dst := some 48, op := Go.Op.call { callee := Go.Callee.value (Go.Operand.func 12), args := #[Go.Operand.tmp 47], argTypes := #[23] }, type := 24, pos := "event.go:87", after := #[{ on := 4, ground := Go.Ground.data }], guard := none } : Go.Oper)) rfl (fun K hK => ?_) AllReadyH.nil
  go_simp
  refine (hc _).mono ?_
  rintro e wk ⟨rfl, hbk⟩
  refine hK.out _ _ ⟨bt hHeld.1 hbk, hHeld.2.later hbk⟩ (fun hHeld => ?_)
  clear hK K
  try simp only [Act.put, List.setIfInBounds_toArray, List.set_cons_zero, List.set_cons_succ]
  refine wpAnyH_take (i := 6) (oi := ({ dst := some 49, op := Go.Op.binOp Go.BinOp.eql 24 (Go.Operand.tmp 48) (Go.Operand.const (Go.Value.int Go.IntKind.i64 0)) 24, type := 4, pos := "event.go:87", after := #[{ on := 5, ground := Go.Ground.data }, { on := 8, ground := Go.Ground.gcOnly Go.Departure.lateStores }], guard := none } : Go.Oper)) (v := .bool false) rfl (by kernel_rfl) (by kernel_rfl) (by kernel_rfl) (fun _ _ _ h => h) (Or.inl ⟨by rfl, ?_⟩) (by assumption) ?_
  · intro wx hSw
    try dsimp only at hSw
    have u := hSw.2.three
    obtain ⟨⟨u0, u1, u2⟩, -, -⟩ := u
    go_simp
    try with_reducible rfl
  try simp only [Act.put, List.setIfInBounds_toArray, List.set_cons_zero, List.set_cons_succ]
  refine wpAnyH_ready (rs := [7]) (by kernel_rfl) (by simp) ?_
  refine AllReadyH.cons (o := ({ dst := none, op := Go.Op.store 23 (Go.Operand.tmp 2) (Go.Operand.tmp 43), type := 0, pos := "event.go:87", after := #[{ on := 0, ground := Go.Ground.data }, { on := 5, ground := Go.Ground.chain }, { on := 0, ground := Go.Ground.phase }, { on := 1, ground := Go.Ground.textOnly Go.Departure.lateStores }, { on := 2, ground := Go.Ground.textOnly Go.Departure.lateStores }, { on := 3, ground := Go.Ground.textOnly Go.Departure.lateStoresUnsure }, { on := 4, ground := Go.Ground.phase }, { on := 5, ground := Go.Ground.textOnly Go.Departure.lateStoresUnsure }, { on := 6, ground := Go.Ground.textOnly Go.Departure.lateStores }], guard := none } : Go.Oper)) rfl (fun K hK => ?_) AllReadyH.nil
  obtain ⟨hb1, hA1⟩ := hHeld
  obtain ⟨⟨r0, r1, r2⟩, ⟨f0, f1, f2⟩, hlt⟩ := hA1.three
  go_simp
  refine hK.out _ _ ⟨below3 hb1 (Nat.le_refl _) _ _ _, hA1.set3 _ _ _⟩ (fun hHeld => ?_)
  clear hK K
  try simp only [Act.put, List.setIfInBounds_toArray, List.set_cons_zero, List.set_cons_succ]
  refine wpAnyH_take (i := 8) (oi := ({ dst := some 3, op := Go.Op.assign (Go.Operand.tmp 46), type := 9, pos := "event.go:87", after := #[{ on := 3, ground := Go.Ground.data }, { on := 7, ground := Go.Ground.chain }, { on := 0, ground := Go.Ground.phase }, { on := 1, ground := Go.Ground.phase }, { on := 2, ground := Go.Ground.phase }, { on := 3, ground := Go.Ground.phase }, { on := 4, ground := Go.Ground.phase }, { on := 5, ground := Go.Ground.textOnly Go.Departure.lateStoresUnsure }, { on := 6, ground := Go.Ground.textOnly Go.Departure.lateStores }, { on := 7, ground := Go.Ground.phase }], guard := none } : Go.Oper)) (v := .string rest) rfl (by kernel_rfl) (by kernel_rfl) (by kernel_rfl) (fun _ _ _ h => h) (Or.inl ⟨by rfl, ?_⟩) (by assumption) ?_
  · intro wx hSw
    try dsimp only at hSw
    have u := hSw.2.three
    obtain ⟨⟨u0, u1, u2⟩, -, -⟩ := u
    go_simp
    try with_reducible rfl
  try simp only [Act.put, List.setIfInBounds_toArray, List.set_cons_zero, List.set_cons_succ]
  refine wpAnyH_take (i := 9) (oi := ({ dst := some 4, op := Go.Op.assign (Go.Operand.tmp 49), type := 4, pos := "event.go:87", after := #[{ on := 6, ground := Go.Ground.data }, { on := 8, ground := Go.Ground.chain }, { on := 0, ground := Go.Ground.phase }, { on := 1, ground := Go.Ground.phase }, { on := 2, ground := Go.Ground.phase }, { on := 3, ground := Go.Ground.phase }, { on := 4, ground := Go.Ground.phase }, { on := 5, ground := Go.Ground.phase }, { on := 6, ground := Go.Ground.phase }, { on := 7, ground := Go.Ground.phase }, { on := 8, ground := Go.Ground.phase }], guard := none } : Go.Oper)) (v := .bool false) rfl (by kernel_rfl) (by kernel_rfl) (by kernel_rfl) (fun _ _ _ h => h) (Or.inl ⟨by rfl, ?_⟩) (by assumption) ?_
  · intro wx hSw
    try dsimp only at hSw
    have u := hSw.2.three
    obtain ⟨⟨u0, u1, u2⟩, -, -⟩ := u
    go_simp
    try with_reducible rfl
  try simp only [Act.put, List.setIfInBounds_toArray, List.set_cons_zero, List.set_cons_succ]
  refine wpAnyH_done (by kernel_rfl) ?_ _
  obtain ⟨hb1, hA1⟩ := hHeld
  obtain ⟨⟨r0, r1, r2⟩, ⟨f0, f1, f2⟩, hlt⟩ := hA1.three
  go_wp2
  exact bodyPost_ret (v := .tuple #[.agg #[.int .i64 K, .int .i64 T, .string dd], .string rest, .bool false]) (by simp [results, Try.results29, go_sem, r0, r1, r2]) rfl ⟨rfl, hb1⟩

/-- What lies behind the head. -/
theorem tail_cut (s : ByteArray) (n : Nat) (h : 9 + n ≤ s.size) : (s.extract 9 s.size).extract 0 n = s.extract 9 (9 + n) ∧ (s.extract 9 s.size).extract n (s.extract 9 s.size).size = s.extract (9 + n) s.size ∧ (s.extract 9 s.size).size = s.size - 9 := by
  have hl := len_toList s
  have hz : (s.extract 9 s.size).size = s.size - 9 := by rw [ByteArray.size_extract]; omega
  refine ⟨?_, ?_, hz⟩
  · apply ba_toList
    rw [ext_toList, ext_toList, ext_toList, List.drop_zero, List.take_take]
    congr 1
    omega
  · apply ba_toList
    rw [ext_toList, ext_toList, ext_toList, hz, List.drop_take, List.drop_drop, List.take_take]
    congr 1
    omega
theorem cut_any (s : ByteArray) (w : World) (hs : s.size ≤ maxLen) :
    Calls Try.prog 29 #[.string s] w fun e w' => e = .returned (.tuple #[(cutX s).v, .string (cutR s), .bool (cutB s)]) ∧ Below w.heap.size w w' := by
  have hm := hs
  unfold maxLen at hs
  by_cases h9 : s.size < 9
  · have e : headB s = false := decide_eq_false (by omega)
    unfold cutX cutR cutB
    rw [e, if_neg (by decide), if_neg (by decide)]
    exact cut_short h9 w
  have t1 : decide ((s.size : Int) < 9) = false := decide_eq_false (by omega)
  have hL := longS_bd s (by omega)
  have g0 := fun W => get_at s 0 1 W hm (by decide) (by decide) (by decide) (by omega)
  have g1 := fun W => get_at s 1 6 W hm (by decide) (by decide) (by decide) (by omega)
  have g2 := fun W => get_at s 7 2 W hm (by decide) (by decide) (by decide) (by omega)
  have q1 := sl_from s (s.extract 9 s.size) 9 rfl (by decide) (by omega)
  have hz : (s.extract 9 s.size).size = s.size - 9 := by rw [ByteArray.size_extract]; omega
  by_cases hf : 9 + longS s ≤ (s.size : Int)
  · have e : headB s = true := decide_eq_true ⟨by omega, hf⟩
    have hp := headB_parts e
    obtain ⟨e1, e2, -⟩ := tail_cut s (longS s).toNat hp.2.2.2
    have t2 : decide (((s.extract 9 s.size).size : Int) < longS s) = false := decide_eq_false (by omega)
    have q2 := sl_to (s.extract 9 s.size) _ (longS s) e1 hL.1 (by omega)
    have q3 := sl_from (s.extract 9 s.size) _ (longS s) e2 hL.1 (by omega)
    unfold cutX cutR cutB
    rw [e, if_pos rfl, if_pos rfl, Bool.true_and]
    have hd : (evS s).d.size ≤ maxLen := by rw [evS_size e]; unfold maxLen; omega
    rcases Bool.eq_false_or_eq_true (mayE (evS s)) with h | h
    · have hc := fun W => check_any (evS s).k (evS s).t (evS s).d W hd
      rw [show (⟨(evS s).k, (evS s).t, (evS s).d⟩ : Ev) = evS s from rfl, codeE_t h] at hc
      rw [h]
      exact cut_t s w _ _ _ t1 g0 g1 g2 _ q1 t2 _ _ q2 q3 hc
    · have hc := fun W => check_any (evS s).k (evS s).t (evS s).d W hd
      rw [show (⟨(evS s).k, (evS s).t, (evS s).d⟩ : Ev) = evS s from rfl, codeE_f h] at hc
      rw [h]
      exact cut_f s w _ _ _ t1 g0 g1 g2 _ q1 t2 _ _ q2 q3 hc
  · have e : headB s = false := decide_eq_false (by omega)
    have t2 : decide (((s.extract 9 s.size).size : Int) < longS s) = true := decide_eq_true (by omega)
    unfold cutX cutR cutB
    rw [e, if_neg (by decide), if_neg (by decide)]
    exact cut_less s w _ _ _ t1 g0 g1 g2 _ q1 t2
theorem dec_a (s : ByteArray) (w : World) (hs : s.size ≤ maxLen) (X : Ev) (R : ByteArray) (B : Bool) (hB : cutB s = B) (hX : cutX s = X) (hR' : cutR s = R) (h : B = false) :
    Calls Try.prog 8 #[.string s] w fun e w' => e = .returned (.tuple #[zE.v, .int .i64 230]) ∧ Below w.heap.size w w' := by
  have hR := At.box w zE.vs 23
  have hl := bel1 w (.cells zE.vs 23)
  have hc := cut_any s (w.alloc (.cells zE.vs 23)) hs
  rw [hB, hX, hR'] at hc
  clear hB hX hR'
  subst h
  obtain ⟨K, T, D⟩ := X
  go_enter Try.func8, Try.ntmps8
  go_wp2_with fail
  refine hc.mono ?_
  rintro e w1 ⟨rfl, h1⟩
  have hl := bt hl h1
  have hR := hR.later h1
  clear h1 hc
  have hA := At.box w1 #[.int .i64 K, .int .i64 T, .string D] 23
  have hl := bt hl (bel1 w1 (.cells #[.int .i64 K, .int .i64 T, .string D] 23))
  have hR := hR.later (bel1 w1 (.cells #[.int .i64 K, .int .i64 T, .string D] 23))
  obtain ⟨⟨r0, r1, r2⟩, ⟨f0, f1, f2⟩, hlt⟩ := hR.three
  obtain ⟨⟨c0, c1, c2⟩, -, -⟩ := hA.three
  clear hA hR
  go_wp2
  exact bodyPost_ret (v := .tuple #[zE.v, .int .i64 230]) (by simp [results, Try.results8, go_sem, r0, r1, r2]) rfl ⟨rfl, below3 hl (Nat.le_refl _) _ _ _⟩
theorem dec_b (s : ByteArray) (w : World) (hs : s.size ≤ maxLen) (X : Ev) (R : ByteArray) (B : Bool) (hB : cutB s = B) (hX : cutX s = X) (hR' : cutR s = R) (h : B = true) (hr : R.toList.isEmpty = false) :
    Calls Try.prog 8 #[.string s] w fun e w' => e = .returned (.tuple #[zE.v, .int .i64 230]) ∧ Below w.heap.size w w' := by
  have hR := At.box w zE.vs 23
  have hl := bel1 w (.cells zE.vs 23)
  have hc := cut_any s (w.alloc (.cells zE.vs 23)) hs
  rw [hB, hX, hR'] at hc
  clear hB hX hR'
  subst h
  obtain ⟨K, T, D⟩ := X
  go_enter Try.func8, Try.ntmps8
  go_wp2_with fail
  refine hc.mono ?_
  rintro e w1 ⟨rfl, h1⟩
  have hl := bt hl h1
  have hR := hR.later h1
  clear h1 hc
  have hA := At.box w1 #[.int .i64 K, .int .i64 T, .string D] 23
  have hl := bt hl (bel1 w1 (.cells #[.int .i64 K, .int .i64 T, .string D] 23))
  have hR := hR.later (bel1 w1 (.cells #[.int .i64 K, .int .i64 T, .string D] 23))
  obtain ⟨⟨r0, r1, r2⟩, ⟨f0, f1, f2⟩, hlt⟩ := hR.three
  obtain ⟨⟨c0, c1, c2⟩, -, -⟩ := hA.three
  clear hA hR
  go_wp2
  exact bodyPost_ret (v := .tuple #[zE.v, .int .i64 230]) (by simp [results, Try.results8, go_sem, r0, r1, r2]) rfl ⟨rfl, below3 hl (Nat.le_refl _) _ _ _⟩
theorem dec_c (s : ByteArray) (w : World) (hs : s.size ≤ maxLen) (X : Ev) (R : ByteArray) (B : Bool) (hB : cutB s = B) (hX : cutX s = X) (hR' : cutR s = R) (h : B = true) (hr : R.toList.isEmpty = true) :
    Calls Try.prog 8 #[.string s] w fun e w' => e = .returned (.tuple #[X.v, .int .i64 0]) ∧ Below w.heap.size w w' := by
  have hR := At.box w zE.vs 23
  have hl := bel1 w (.cells zE.vs 23)
  have hc := cut_any s (w.alloc (.cells zE.vs 23)) hs
  rw [hB, hX, hR'] at hc
  clear hB hX hR'
  subst h
  obtain ⟨K, T, D⟩ := X
  go_enter Try.func8, Try.ntmps8
  go_wp2_with fail
  refine hc.mono ?_
  rintro e w1 ⟨rfl, h1⟩
  have hl := bt hl h1
  have hR := hR.later h1
  clear h1 hc
  have hA := At.box w1 #[.int .i64 K, .int .i64 T, .string D] 23
  have hl := bt hl (bel1 w1 (.cells #[.int .i64 K, .int .i64 T, .string D] 23))
  have hR := hR.later (bel1 w1 (.cells #[.int .i64 K, .int .i64 T, .string D] 23))
  obtain ⟨⟨r0, r1, r2⟩, ⟨f0, f1, f2⟩, hlt⟩ := hR.three
  obtain ⟨⟨c0, c1, c2⟩, -, -⟩ := hA.three
  clear hA hR
  go_wp2
  exact bodyPost_ret (v := .tuple #[.agg #[.int .i64 K, .int .i64 T, .string D], .int .i64 0]) (by simp [results, Try.results8, go_sem, r0, r1, r2]) rfl ⟨rfl, below3 hl (Nat.le_refl _) _ _ _⟩

theorem dec_any (s : ByteArray) (w : World) (hs : s.size ≤ maxLen) :
    Calls Try.prog 8 #[.string s] w fun e w' => e = .returned (.tuple #[(decV s).v, .int .i64 (decC s)]) ∧ Below w.heap.size w w' := by
  unfold decV decC
  rcases Bool.eq_false_or_eq_true (cutB s) with h | h
  · obtain ⟨h1, h2⟩ := cutB_parts h
    have hz := restS_size h1
    have hp := headB_parts h1
    have eR : cutR s = restS s := if_pos h1
    have eX : cutX s = evS s := if_pos h1
    by_cases hd : (s.size : Int) = 9 + longS s
    · have e : decB s = true := by unfold decB; rw [h, decide_eq_true hd]; rfl
      rw [e, if_pos rfl, if_pos rfl]
      exact dec_c s w hs _ _ true h eX eR rfl (em_t (by omega))
    · have e : decB s = false := by unfold decB; rw [h, decide_eq_false hd]; rfl
      rw [e, if_neg (by decide), if_neg (by decide)]
      exact dec_b s w hs _ _ true h eX eR rfl (em_f (by omega))
  · have e : decB s = false := by unfold decB; rw [h]; rfl
    rw [e, if_neg (by decide), if_neg (by decide)]
    exact dec_a s w hs _ _ false h rfl rfl rfl
theorem first_short {s : ByteArray} (h : s.size < 9) (w : World) :
    Calls Try.prog 30 #[.string s] w fun e w' => e = .returned (.tuple #[zE.v, .int .i64 0]) ∧ Below w.heap.size w w' := by
  have t1 : decide ((s.size : Int) < 9) = true := decide_eq_true (by omega)
  have hR := At.box w zE.vs 23
  have hl := bel1 w (.cells zE.vs 23)
  go_enter Try.func30, Try.ntmps30
  obtain ⟨⟨r0, r1, r2⟩, ⟨f0, f1, f2⟩, hlt⟩ := hR.three
  go_wp2
  exact bodyPost_ret (v := .tuple #[zE.v, .int .i64 0]) (by simp [results, Try.results30, go_sem, r0, r1, r2]) rfl ⟨rfl, hl⟩
theorem first_less (s : ByteArray) (w : World) (t1 : decide ((s.size : Int) < 9) = false) (pL : ByteArray) (zL : pL.size ≤ 6) (q0 : ∀ W, (Instr.slice 9 (.string s) (some (.int .i64 7)) (some (.int .i64 9)) none).run Try.prog W = .ok (.string pL) W)
    (b0 : 0 ≤ numS pL) (b1 : numS pL ≤ 65535) (t2 : decide ((s.size : Int) < 9 + numS pL) = true) :
    Calls Try.prog 30 #[.string s] w fun e w' => e = .returned (.tuple #[zE.v, .int .i64 0]) ∧ Below w.heap.size w w' := by
  have hR := At.box w zE.vs 23
  have hl := bel1 w (.cells zE.vs 23)
  go_enter Try.func30, Try.ntmps30
  go_wp2_with fail
  refine (num_any _ _ zL).mono ?_
  rintro e w1 ⟨rfl, rfl⟩
  obtain ⟨⟨r0, r1, r2⟩, ⟨f0, f1, f2⟩, hlt⟩ := hR.three
  go_wp2
  exact bodyPost_ret (v := .tuple #[zE.v, .int .i64 0]) (by simp [results, Try.results30, go_sem, r0, r1, r2]) rfl ⟨rfl, hl⟩
set_option maxHeartbeats 2000000 in
theorem first_t (s : ByteArray) (w : World) (t1 : decide ((s.size : Int) < 9) = false) (pL : ByteArray) (zL : pL.size ≤ 6) (q0 : ∀ W, (Instr.slice 9 (.string s) (some (.int .i64 7)) (some (.int .i64 9)) none).run Try.prog W = .ok (.string pL) W)
    (b0 : 0 ≤ numS pL) (b1 : numS pL ≤ 65535) (t2 : decide ((s.size : Int) < 9 + numS pL) = false)
    (K : Int) (pT dd : ByteArray) (zT : pT.size ≤ 6) (q1 : ∀ W, (Instr.index 9 (.string s) (.int .i64 0)).run Try.prog W = .ok (.int .u8 K) W) (kw : IntKind.i64.wrap K = K) (q2 : ∀ W, (Instr.slice 9 (.string s) (some (.int .i64 1)) (some (.int .i64 7)) none).run Try.prog W = .ok (.string pT) W)
    (q3 : ∀ W, (Instr.slice 9 (.string s) (some (.int .i64 9)) (some (.int .i64 (9 + numS pL))) none).run Try.prog W = .ok (.string dd) W)
    (hc : ∀ W, Calls Try.prog 13 #[.agg #[.int .i64 K, .int .i64 (numS pT), .string dd]] W fun e w' => e = .returned (.int .i64 0) ∧ Below W.heap.size W w') :
    Calls Try.prog 30 #[.string s] w fun e w' => e = .returned (.tuple #[.agg #[.int .i64 K, .int .i64 (numS pT), .string dd], .int .i64 (9 + numS pL)]) ∧ Below w.heap.size w w' := by
  have hR := At.box w zE.vs 23
  have hl := bel1 w (.cells zE.vs 23)
  go_enter Try.func30, Try.ntmps30
  go_wp2_with fail
  refine (num_any _ _ zL).mono ?_
  rintro e w1 ⟨rfl, rfl⟩
  generalize w.alloc (.cells zE.vs 23) = W0 at *
  go_wp2
  go_region_held3 (fun _ => True) (trivial) ((go_at_call 38; refine (num_any _ _ (by assumption)).mono ?_; rintro e w' ⟨rfl, rfl⟩))
  all_goals
    clear q0 q1 q2 q3 t1 t2
    go_wp2_with fail
    refine (hc _).mono ?_
    rintro e w4 ⟨rfl, hb4'⟩
    have hb4 := bel_undrew hb4'
    clear hb4'
    obtain ⟨⟨r0, r1, r2⟩, ⟨f0, f1, f2⟩, hlt⟩ := (hR.later (bt (bel1 W0 _) hb4)).three
    obtain ⟨⟨c0, c1, c2⟩, -, -⟩ := ((At.box W0 #[.int .i64 K, .int .i64 (numS pT), .string dd] 23).later hb4).three
    have hbl := bt hl (bt (bel1 W0 _) hb4)
    clear hR hl hb4 hc
    generalize W0.heap.size = b3 at *
    go_wp2
    exact bodyPost_ret (v := .tuple #[.agg #[.int .i64 K, .int .i64 (numS pT), .string dd], .int .i64 (9 + numS pL)]) (by simp [results, Try.results30, go_sem, r0, r1, r2]) rfl ⟨rfl, below3 hbl (Nat.le_refl _) _ _ _⟩
set_option maxHeartbeats 2000000 in
theorem first_f (s : ByteArray) (w : World) (t1 : decide ((s.size : Int) < 9) = false) (pL : ByteArray) (zL : pL.size ≤ 6) (q0 : ∀ W, (Instr.slice 9 (.string s) (some (.int .i64 7)) (some (.int .i64 9)) none).run Try.prog W = .ok (.string pL) W)
    (b0 : 0 ≤ numS pL) (b1 : numS pL ≤ 65535) (t2 : decide ((s.size : Int) < 9 + numS pL) = false)
    (K : Int) (pT dd : ByteArray) (zT : pT.size ≤ 6) (q1 : ∀ W, (Instr.index 9 (.string s) (.int .i64 0)).run Try.prog W = .ok (.int .u8 K) W) (kw : IntKind.i64.wrap K = K) (q2 : ∀ W, (Instr.slice 9 (.string s) (some (.int .i64 1)) (some (.int .i64 7)) none).run Try.prog W = .ok (.string pT) W)
    (q3 : ∀ W, (Instr.slice 9 (.string s) (some (.int .i64 9)) (some (.int .i64 (9 + numS pL))) none).run Try.prog W = .ok (.string dd) W)
    (hc : ∀ W, Calls Try.prog 13 #[.agg #[.int .i64 K, .int .i64 (numS pT), .string dd]] W fun e w' => e = .returned (.int .i64 230) ∧ Below W.heap.size W w') :
    Calls Try.prog 30 #[.string s] w fun e w' => e = .returned (.tuple #[zE.v, .int .i64 0]) ∧ Below w.heap.size w w' := by
  have hR := At.box w zE.vs 23
  have hl := bel1 w (.cells zE.vs 23)
  go_enter Try.func30, Try.ntmps30
  go_wp2_with fail
  refine (num_any _ _ zL).mono ?_
  rintro e w1 ⟨rfl, rfl⟩
  generalize w.alloc (.cells zE.vs 23) = W0 at *
  go_wp2
  go_region_held3 (fun _ => True) (trivial) ((go_at_call 38; refine (num_any _ _ (by assumption)).mono ?_; rintro e w' ⟨rfl, rfl⟩))
  all_goals
    clear q0 q1 q2 q3 t1 t2
    go_wp2_with fail
    refine (hc _).mono ?_
    rintro e w4 ⟨rfl, hb4'⟩
    have hb4 := bel_undrew hb4'
    clear hb4'
    obtain ⟨⟨r0, r1, r2⟩, ⟨f0, f1, f2⟩, hlt⟩ := (hR.later (bt (bel1 W0 _) hb4)).three
    obtain ⟨⟨c0, c1, c2⟩, -, -⟩ := ((At.box W0 #[.int .i64 K, .int .i64 (numS pT), .string dd] 23).later hb4).three
    have hbl := bt hl (bt (bel1 W0 _) hb4)
    clear hR hl hb4 hc
    generalize W0.heap.size = b3 at *
    go_wp2
    exact bodyPost_ret (v := .tuple #[zE.v, .int .i64 0]) (by simp [results, Try.results30, go_sem, r0, r1, r2]) rfl ⟨rfl, below3 hbl (Nat.le_refl _) _ _ _⟩

theorem first_any (s : ByteArray) (w : World) (hs : s.size ≤ maxLen) :
    Calls Try.prog 30 #[.string s] w fun e w' => e = .returned (.tuple #[(firstX s).v, .int .i64 (firstN s)]) ∧ Below w.heap.size w w' := by
  have hm := hs
  unfold maxLen at hs
  unfold firstX firstN
  by_cases h9 : s.size < 9
  · have e : cutB s = false := by unfold cutB headB; rw [decide_eq_false (by omega)]; rfl
    rw [e, if_neg (by decide), if_neg (by decide)]
    exact first_short h9 w
  have t1 : decide ((s.size : Int) < 9) = false := decide_eq_false (by omega)
  have hL := longS_bd s (by omega)
  have q0 := sl_sl s (s.extract 7 9) 7 9 rfl (by decide) (by decide) (by omega)
  have zL : (s.extract 7 9).size ≤ 6 := by rw [ByteArray.size_extract]; omega
  by_cases hf : 9 + longS s ≤ (s.size : Int)
  · have e : headB s = true := decide_eq_true ⟨by omega, hf⟩
    have t2 : decide ((s.size : Int) < 9 + longS s) = false := decide_eq_false (by omega)
    have q1 := ix_at s 0 (numS (s.extract 0 1)) (by omega) (one_byte s (by omega)).symm
    have kb := numS_bd s 0 1 (by omega) (by decide)
    have q2 := sl_sl s (s.extract 1 7) 1 7 rfl (by decide) (by decide) (by omega)
    have zT : (s.extract 1 7).size ≤ 6 := by rw [ByteArray.size_extract]; omega
    have q3 := sl_sl s (s.extract 9 (9 + (longS s).toNat)) 9 (9 + longS s) (by rw [show (9 + longS s).toNat = 9 + (longS s).toNat by omega]; rfl) (by decide) (by omega) hf
    have hd : (evS s).d.size ≤ maxLen := by rw [evS_size e]; unfold maxLen; omega
    have kw : IntKind.i64.wrap (numS (s.extract 0 1)) = numS (s.extract 0 1) := by rw [IntKind.wrap_i64]; omega
    unfold cutB
    rw [e, Bool.true_and]
    have hc := fun W => rchk_any (evS s).k (evS s).t (evS s).d W hd
    rcases Bool.eq_false_or_eq_true (mayE (evS s)) with h | h
    · rw [show (⟨(evS s).k, (evS s).t, (evS s).d⟩ : Ev) = evS s from rfl, codeE_t h] at hc
      rw [h, if_pos rfl, if_pos rfl]
      exact first_t s w t1 _ zL q0 hL.1 hL.2 t2 _ _ _ zT q1 kw q2 q3 hc
    · rw [show (⟨(evS s).k, (evS s).t, (evS s).d⟩ : Ev) = evS s from rfl, codeE_f h] at hc
      rw [h, if_neg (by decide), if_neg (by decide)]
      exact first_f s w t1 _ zL q0 hL.1 hL.2 t2 _ _ _ zT q1 kw q2 q3 hc
  · have e : headB s = false := decide_eq_false (by omega)
    have t2 : decide ((s.size : Int) < 9 + longS s) = true := decide_eq_true (by omega)
    unfold cutB
    rw [e, Bool.false_and, if_neg (by decide), if_neg (by decide)]
    exact first_less s w t1 _ zL q0 hL.1 hL.2 t2
theorem rdec_a (s : ByteArray) (w : World) (hs : s.size ≤ maxLen) (X : Ev) (M : Int) (hM : firstN s = M) (hX : firstX s = X) (h : M = 0) :
    Calls Try.prog 9 #[.string s] w fun e w' => e = .returned (.tuple #[zE.v, .int .i64 230]) ∧ Below w.heap.size w w' := by
  have hR := At.box w zE.vs 23
  have hl := bel1 w (.cells zE.vs 23)
  have hc := first_any s (w.alloc (.cells zE.vs 23)) hs
  rw [hM, hX] at hc
  clear hM hX
  subst h
  obtain ⟨K, T, D⟩ := X
  go_enter Try.func9, Try.ntmps9
  go_wp2_with fail
  refine hc.mono ?_
  rintro e w1 ⟨rfl, h1⟩
  have hl := bt hl h1
  have hR := hR.later h1
  clear h1 hc
  have hA := At.box w1 #[.int .i64 K, .int .i64 T, .string D] 23
  have hl := bt hl (bel1 w1 (.cells #[.int .i64 K, .int .i64 T, .string D] 23))
  have hR := hR.later (bel1 w1 (.cells #[.int .i64 K, .int .i64 T, .string D] 23))
  obtain ⟨⟨r0, r1, r2⟩, ⟨f0, f1, f2⟩, hlt⟩ := hR.three
  obtain ⟨⟨c0, c1, c2⟩, -, -⟩ := hA.three
  clear hA hR
  go_wp2
  exact bodyPost_ret (v := .tuple #[zE.v, .int .i64 230]) (by simp [results, Try.results9, go_sem, r0, r1, r2]) rfl ⟨rfl, below3 hl (Nat.le_refl _) _ _ _⟩
theorem rdec_b (s : ByteArray) (w : World) (hs : s.size ≤ maxLen) (X : Ev) (M : Int) (hM : firstN s = M) (hX : firstX s = X) (h : (M == 0) = false) (hr : (M != (s.size : Int)) = true) :
    Calls Try.prog 9 #[.string s] w fun e w' => e = .returned (.tuple #[zE.v, .int .i64 230]) ∧ Below w.heap.size w w' := by
  have hR := At.box w zE.vs 23
  have hl := bel1 w (.cells zE.vs 23)
  have hc := first_any s (w.alloc (.cells zE.vs 23)) hs
  rw [hM, hX] at hc
  clear hM hX
  skip
  obtain ⟨K, T, D⟩ := X
  go_enter Try.func9, Try.ntmps9
  go_wp2_with fail
  refine hc.mono ?_
  rintro e w1 ⟨rfl, h1⟩
  have hl := bt hl h1
  have hR := hR.later h1
  clear h1 hc
  have hA := At.box w1 #[.int .i64 K, .int .i64 T, .string D] 23
  have hl := bt hl (bel1 w1 (.cells #[.int .i64 K, .int .i64 T, .string D] 23))
  have hR := hR.later (bel1 w1 (.cells #[.int .i64 K, .int .i64 T, .string D] 23))
  obtain ⟨⟨r0, r1, r2⟩, ⟨f0, f1, f2⟩, hlt⟩ := hR.three
  obtain ⟨⟨c0, c1, c2⟩, -, -⟩ := hA.three
  clear hA hR
  go_wp2
  exact bodyPost_ret (v := .tuple #[zE.v, .int .i64 230]) (by simp [results, Try.results9, go_sem, r0, r1, r2]) rfl ⟨rfl, below3 hl (Nat.le_refl _) _ _ _⟩
theorem rdec_c (s : ByteArray) (w : World) (hs : s.size ≤ maxLen) (X : Ev) (M : Int) (hM : firstN s = M) (hX : firstX s = X) (h : (M == 0) = false) (hr : (M != (s.size : Int)) = false) :
    Calls Try.prog 9 #[.string s] w fun e w' => e = .returned (.tuple #[X.v, .int .i64 0]) ∧ Below w.heap.size w w' := by
  have hR := At.box w zE.vs 23
  have hl := bel1 w (.cells zE.vs 23)
  have hc := first_any s (w.alloc (.cells zE.vs 23)) hs
  rw [hM, hX] at hc
  clear hM hX
  skip
  obtain ⟨K, T, D⟩ := X
  go_enter Try.func9, Try.ntmps9
  go_wp2_with fail
  refine hc.mono ?_
  rintro e w1 ⟨rfl, h1⟩
  have hl := bt hl h1
  have hR := hR.later h1
  clear h1 hc
  have hA := At.box w1 #[.int .i64 K, .int .i64 T, .string D] 23
  have hl := bt hl (bel1 w1 (.cells #[.int .i64 K, .int .i64 T, .string D] 23))
  have hR := hR.later (bel1 w1 (.cells #[.int .i64 K, .int .i64 T, .string D] 23))
  obtain ⟨⟨r0, r1, r2⟩, ⟨f0, f1, f2⟩, hlt⟩ := hR.three
  obtain ⟨⟨c0, c1, c2⟩, -, -⟩ := hA.three
  clear hA hR
  go_wp2
  exact bodyPost_ret (v := .tuple #[.agg #[.int .i64 K, .int .i64 T, .string D], .int .i64 0]) (by simp [results, Try.results9, go_sem, r0, r1, r2]) rfl ⟨rfl, below3 hl (Nat.le_refl _) _ _ _⟩

theorem rdec_any (s : ByteArray) (w : World) (hs : s.size ≤ maxLen) :
    Calls Try.prog 9 #[.string s] w fun e w' => e = .returned (.tuple #[(decV s).v, .int .i64 (decC s)]) ∧ Below w.heap.size w w' := by
  unfold decV decC
  rcases Bool.eq_false_or_eq_true (cutB s) with h | h
  · obtain ⟨h1, h2⟩ := cutB_parts h
    have hp := headB_parts h1
    have eN : firstN s = 9 + longS s := if_pos h
    have eX : firstX s = evS s := if_pos h
    by_cases hd : (s.size : Int) = 9 + longS s
    · have e : decB s = true := by unfold decB; rw [h, decide_eq_true hd]; rfl
      rw [e, if_pos rfl, if_pos rfl]
      exact rdec_c s w hs _ _ eN eX (by simp; omega) (by simp; omega)
    · have e : decB s = false := by unfold decB; rw [h, decide_eq_false hd]; rfl
      rw [e, if_neg (by decide), if_neg (by decide)]
      exact rdec_b s w hs _ _ eN eX (by simp; omega) (by simp; omega)
  · have e : decB s = false := by unfold decB; rw [h]; rfl
    have eN : firstN s = 0 := if_neg (by rw [h]; decide)
    rw [e, if_neg (by decide), if_neg (by decide)]
    exact rdec_a s w hs _ _ eN rfl rfl
end Go.Proofs.Ytgjkplkghoeeeaa
