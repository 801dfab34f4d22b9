/- EventWrites: which events may be, their bytes, any bytes as events: as the document has it. -/
import Derived.Test.YtgjkplkghoeeeaaEe
namespace Go.Proofs.Ytgjkplkghoeeeaa
open Go.RowKit Go.Maps
set_option maxRecDepth 100000
set_option linter.unusedVariables false
set_option linter.unusedSimpArgs false


theorem listP_len (s : ByteArray) : (listP s).length ≤ 65536 := by
  have h : ∀ (n : Nat) (s : ByteArray) (l : List Ev), partsF n s = some l → l.length ≤ n := by
    intro n
    induction n with
    | zero =>
      intro s l e
      unfold partsF at e
      split at e
      · cases e; exact Nat.le_refl _
      · cases e
    | succ n ih =>
      intro s l e
      unfold partsF at e
      split at e
      · cases e; exact Nat.zero_le _
      · split at e
        · cases hq : partsF n (restS s) with
          | none => rw [hq] at e; cases e
          | some r =>
            rw [hq] at e
            cases e
            have := ih _ _ hq
            simp
            omega
        · cases e
  by_cases hz : s.size ≤ 65536
  · cases e : partsF s.size s with
    | none => rw [(parts_none hz e).2]; simp
    | some l => rw [(parts_some hz e).2]; exact Nat.le_trans (h _ _ _ e) hz
  · rw [(parts_long hz).2]; simp
set_option maxHeartbeats 4000000 in
theorem writes_any (k t : Int) (d s : ByteArray) (w : World) (hd' : d.size ≤ maxLen) (hs : s.size ≤ maxLen) :
    Calls Try.prog 3 #[.agg #[.int .i64 k, .int .i64 t, .string d], .string s] w fun e w' => e = .returned (.bool true) ∧ Below w.heap.size w w' := by
  have hX := At.box w #[.int .i64 k, .int .i64 t, .string d] 23
  have hl := bel1 w (.cells #[.int .i64 k, .int .i64 t, .string d] 23)
  have hen := fun W => enc_any k t d W hd'
  have hrn := fun W => renc_any k t d W hd'
  have hde := fun W => dec_any s W hs
  have hrd := fun W => rdec_any s W hs
  have hpa := fun W => parts_any s W hs
  have hrp := fun W => rparts_any s W hs
  have hck := fun W => check_any k t d W hd'
  have hrc := fun W => rchk_any k t d W hd'
  have hLn : (listP s).length ≤ 1000000 := Nat.le_trans (listP_len s) (by decide)
  generalize encV ⟨k, t, d⟩ = E at *
  generalize codeE ⟨k, t, d⟩ = C at *
  generalize decV s = Y at *
  generalize decC s = G at *
  generalize listP s = L at *
  generalize codeP s = J at *
  obtain ⟨yk, yt, yd⟩ := Y
  go_enter Try.func3, Try.ntmps3
  obtain ⟨⟨c0, c1, c2⟩, -, -⟩ := hX.three
  go_wp2_with fail
  refine (hen _).mono ?_
  rintro e w1 ⟨rfl, hb⟩
  have hl := bt hl hb
  have hX := hX.later hb
  clear hb c0 c1 c2
  obtain ⟨⟨c0, c1, c2⟩, -, -⟩ := hX.three
  go_wp2_with fail
  refine (hrn _).mono ?_
  rintro e w2 ⟨rfl, hb⟩
  have hl := bt hl hb
  have hX := hX.later hb
  clear hb c0 c1 c2 hen hrn
  go_wp2_with fail
  refine (hde _).mono ?_
  rintro e w3 ⟨rfl, hb⟩
  have hl := bt hl hb
  have hX := hX.later hb
  clear hb hde
  have hY := At.box w3 #[.int .i64 yk, .int .i64 yt, .string yd] 23
  have hX := hX.later (bel1 w3 (.cells #[.int .i64 yk, .int .i64 yt, .string yd] 23))
  have hl := bt hl (bel1 w3 (.cells #[.int .i64 yk, .int .i64 yt, .string yd] 23))
  go_wp2_with fail
  refine (hrd _).mono ?_
  rintro e w4 ⟨rfl, hb⟩
  have hl := bt hl hb
  have hX := hX.later hb
  have hY := hY.later hb
  clear hb hrd
  generalize w3.heap.size = by_ at *
  have hZ := At.box w4 #[.int .i64 yk, .int .i64 yt, .string yd] 23
  have hX := hX.later (bel1 w4 (.cells #[.int .i64 yk, .int .i64 yt, .string yd] 23))
  have hY := hY.later (bel1 w4 (.cells #[.int .i64 yk, .int .i64 yt, .string yd] 23))
  have hl := bt hl (bel1 w4 (.cells #[.int .i64 yk, .int .i64 yt, .string yd] 23))
  go_wp2_with fail
  refine (hpa _).mono ?_
  rintro e w5 ⟨v1, rfl, h1, hb⟩
  have hl := bt hl hb
  have hX := hX.later hb
  have hY := hY.later hb
  have hZ := hZ.later hb
  clear hb hpa
  generalize w4.heap.size = bz at *
  generalize (w4.alloc (.cells #[.int .i64 yk, .int .i64 yt, .string yd] 23)).heap.size = B1 at *
  go_wp2_with fail
  refine (hrp _).mono ?_
  rintro e w6 ⟨v2, rfl, h2, hb⟩
  have hl := bt hl hb
  have hX := hX.later hb
  have hY := hY.later hb
  have hZ := hZ.later hb
  have h1 := h1.later hb
  clear hb hrp
  generalize w5.heap.size = B2 at *
  have hd : Below w6.heap.size w6 w6.drew := (Below.refl _ _).drew
  go_wp2
  refine wp_region_held_drew (S := (fun W => Below w.heap.size w W ∧ At W w.heap.size #[.int .i64 k, .int .i64 t, .string d] ∧ At W by_ #[.int .i64 yk, .int .i64 yt, .string yd] ∧ At W bz #[.int .i64 yk, .int .i64 yt, .string yd] ∧ EO W B1 v1 L ∧ EO W B2 v2 L)) (by kernel_rfl) ?_ (fun hHeld => ?_)
  · first | exact ⟨hl.drew, hX.later hd, hY.later hd, hZ.later hd, h1.later hd, h2.later hd⟩ | assumption
  refine wpAnyH_take (i := 0) (oi := ({ dst := some 48, op := Go.Op.move (Go.Operand.tmp 17), type := 4, pos := "law.go:46", after := #[], guard := none } : Go.Oper)) (v := .bool true) rfl (by kernel_rfl) (by kernel_rfl) (by kernel_rfl) (fun _ _ _ h => h) (Or.inl ⟨by rfl, ?_⟩) (by assumption) ?_
  · intro wx hSw
    try dsimp only at hSw
    obtain ⟨⟨x0, x1, x2⟩, -, -⟩ := hSw.2.1.three
    obtain ⟨⟨y0, y1, y2⟩, -, -⟩ := hSw.2.2.1.three
    obtain ⟨⟨z0, z1, z2⟩, -, -⟩ := hSw.2.2.2.1.three
    go_simp
    try with_reducible rfl
  try simp only [Act.put, List.setIfInBounds_toArray, List.set_cons_zero, List.set_cons_succ]
  refine wpAnyH_take (i := 1) (oi := ({ dst := some 49, op := Go.Op.move (Go.Operand.tmp 48), type := 4, pos := "law.go:46", after := #[{ on := 0, ground := Go.Ground.data }], guard := none } : Go.Oper)) (v := .bool true) rfl (by kernel_rfl) (by kernel_rfl) (by kernel_rfl) (fun _ _ _ h => h) (Or.inl ⟨by rfl, ?_⟩) (by assumption) ?_
  · intro wx hSw
    try dsimp only at hSw
    obtain ⟨⟨x0, x1, x2⟩, -, -⟩ := hSw.2.1.three
    obtain ⟨⟨y0, y1, y2⟩, -, -⟩ := hSw.2.2.1.three
    obtain ⟨⟨z0, z1, z2⟩, -, -⟩ := hSw.2.2.2.1.three
    go_simp
    try with_reducible rfl
  try simp only [Act.put, List.setIfInBounds_toArray, List.set_cons_zero, List.set_cons_succ]
  refine wpAnyH_take (i := 2) (oi := ({ dst := some 50, op := Go.Op.move (Go.Operand.tmp 5), type := 9, pos := "law.go:46", after := #[{ on := 1, ground := Go.Ground.guard }], guard := some (1, true) } : Go.Oper)) (v := .string E) rfl (by kernel_rfl) (by kernel_rfl) (by kernel_rfl) (fun _ _ _ h => h) (Or.inl ⟨by rfl, ?_⟩) (by assumption) ?_
  · intro wx hSw
    try dsimp only at hSw
    obtain ⟨⟨x0, x1, x2⟩, -, -⟩ := hSw.2.1.three
    obtain ⟨⟨y0, y1, y2⟩, -, -⟩ := hSw.2.2.1.three
    obtain ⟨⟨z0, z1, z2⟩, -, -⟩ := hSw.2.2.2.1.three
    go_simp
    try with_reducible rfl
  try simp only [Act.put, List.setIfInBounds_toArray, List.set_cons_zero, List.set_cons_succ]
  refine wpAnyH_take (i := 3) (oi := ({ dst := some 51, op := Go.Op.move (Go.Operand.tmp 7), type := 9, pos := "law.go:46", after := #[{ on := 1, ground := Go.Ground.guard }], guard := some (1, true) } : Go.Oper)) (v := .string E) rfl (by kernel_rfl) (by kernel_rfl) (by kernel_rfl) (fun _ _ _ h => h) (Or.inl ⟨by rfl, ?_⟩) (by assumption) ?_
  · intro wx hSw
    try dsimp only at hSw
    obtain ⟨⟨x0, x1, x2⟩, -, -⟩ := hSw.2.1.three
    obtain ⟨⟨y0, y1, y2⟩, -, -⟩ := hSw.2.2.1.three
    obtain ⟨⟨z0, z1, z2⟩, -, -⟩ := hSw.2.2.2.1.three
    go_simp
    try with_reducible rfl
  try simp only [Act.put, List.setIfInBounds_toArray, List.set_cons_zero, List.set_cons_succ]
  refine wpAnyH_take (i := 4) (oi := ({ dst := some 52, op := Go.Op.binOp Go.BinOp.eql 9 (Go.Operand.tmp 50) (Go.Operand.tmp 51) 9, type := 4, pos := "law.go:46", after := #[{ on := 2, ground := Go.Ground.data }, { on := 3, ground := Go.Ground.data }, { on := 1, ground := Go.Ground.guard }], guard := some (1, true) } : Go.Oper)) (v := .bool true) rfl (by kernel_rfl) (by kernel_rfl) (by kernel_rfl) (fun _ _ _ h => h) (Or.inl ⟨by rfl, ?_⟩) (by assumption) ?_
  · intro wx hSw
    try dsimp only at hSw
    obtain ⟨⟨x0, x1, x2⟩, -, -⟩ := hSw.2.1.three
    obtain ⟨⟨y0, y1, y2⟩, -, -⟩ := hSw.2.2.1.three
    obtain ⟨⟨z0, z1, z2⟩, -, -⟩ := hSw.2.2.2.1.three
    go_simp
    try with_reducible rfl
  try simp only [Act.put, List.setIfInBounds_toArray, List.set_cons_zero, List.set_cons_succ]
  refine wpAnyH_take (i := 5) (oi := ({ dst := some 53, op := Go.Op.pick (Go.Operand.tmp 49) (Go.Operand.tmp 52) (Go.Operand.const (Go.Value.bool false)), type := 4, pos := "law.go:46", after := #[{ on := 1, ground := Go.Ground.data }, { on := 4, ground := Go.Ground.data }], guard := none } : Go.Oper)) (v := .bool true) rfl (by kernel_rfl) (by kernel_rfl) (by kernel_rfl) (fun _ _ _ h => h) (Or.inl ⟨by rfl, ?_⟩) (by assumption) ?_
  · intro wx hSw
    try dsimp only at hSw
    obtain ⟨⟨x0, x1, x2⟩, -, -⟩ := hSw.2.1.three
    obtain ⟨⟨y0, y1, y2⟩, -, -⟩ := hSw.2.2.1.three
    obtain ⟨⟨z0, z1, z2⟩, -, -⟩ := hSw.2.2.2.1.three
    go_simp
    try with_reducible rfl
  try simp only [Act.put, List.setIfInBounds_toArray, List.set_cons_zero, List.set_cons_succ]
  refine wpAnyH_take (i := 6) (oi := ({ dst := some 54, op := Go.Op.move (Go.Operand.tmp 53), type := 4, pos := "law.go:46", after := #[{ on := 5, ground := Go.Ground.data }, { on := 1, ground := Go.Ground.chain }], guard := none } : Go.Oper)) (v := .bool true) rfl (by kernel_rfl) (by kernel_rfl) (by kernel_rfl) (fun _ _ _ h => h) (Or.inl ⟨by rfl, ?_⟩) (by assumption) ?_
  · intro wx hSw
    try dsimp only at hSw
    obtain ⟨⟨x0, x1, x2⟩, -, -⟩ := hSw.2.1.three
    obtain ⟨⟨y0, y1, y2⟩, -, -⟩ := hSw.2.2.1.three
    obtain ⟨⟨z0, z1, z2⟩, -, -⟩ := hSw.2.2.2.1.three
    go_simp
    try with_reducible rfl
  try simp only [Act.put, List.setIfInBounds_toArray, List.set_cons_zero, List.set_cons_succ]
  refine wpAnyH_take (i := 7) (oi := ({ dst := some 55, op := Go.Op.move (Go.Operand.tmp 6), type := 24, pos := "law.go:46", after := #[{ on := 6, ground := Go.Ground.guard }], guard := some (6, true) } : Go.Oper)) (v := .int .i64 C) rfl (by kernel_rfl) (by kernel_rfl) (by kernel_rfl) (fun _ _ _ h => h) (Or.inl ⟨by rfl, ?_⟩) (by assumption) ?_
  · intro wx hSw
    try dsimp only at hSw
    obtain ⟨⟨x0, x1, x2⟩, -, -⟩ := hSw.2.1.three
    obtain ⟨⟨y0, y1, y2⟩, -, -⟩ := hSw.2.2.1.three
    obtain ⟨⟨z0, z1, z2⟩, -, -⟩ := hSw.2.2.2.1.three
    go_simp
    try with_reducible rfl
  try simp only [Act.put, List.setIfInBounds_toArray, List.set_cons_zero, List.set_cons_succ]
  refine wpAnyH_take (i := 8) (oi := ({ dst := some 56, op := Go.Op.move (Go.Operand.tmp 8), type := 24, pos := "law.go:46", after := #[{ on := 6, ground := Go.Ground.guard }], guard := some (6, true) } : Go.Oper)) (v := .int .i64 C) rfl (by kernel_rfl) (by kernel_rfl) (by kernel_rfl) (fun _ _ _ h => h) (Or.inl ⟨by rfl, ?_⟩) (by assumption) ?_
  · intro wx hSw
    try dsimp only at hSw
    obtain ⟨⟨x0, x1, x2⟩, -, -⟩ := hSw.2.1.three
    obtain ⟨⟨y0, y1, y2⟩, -, -⟩ := hSw.2.2.1.three
    obtain ⟨⟨z0, z1, z2⟩, -, -⟩ := hSw.2.2.2.1.three
    go_simp
    try with_reducible rfl
  try simp only [Act.put, List.setIfInBounds_toArray, List.set_cons_zero, List.set_cons_succ]
  refine wpAnyH_take (i := 9) (oi := ({ dst := some 57, op := Go.Op.binOp Go.BinOp.eql 24 (Go.Operand.tmp 55) (Go.Operand.tmp 56) 24, type := 4, pos := "law.go:46", after := #[{ on := 7, ground := Go.Ground.data }, { on := 8, ground := Go.Ground.data }, { on := 6, ground := Go.Ground.guard }], guard := some (6, true) } : Go.Oper)) (v := .bool true) rfl (by kernel_rfl) (by kernel_rfl) (by kernel_rfl) (fun _ _ _ h => h) (Or.inl ⟨by rfl, ?_⟩) (by assumption) ?_
  · intro wx hSw
    try dsimp only at hSw
    obtain ⟨⟨x0, x1, x2⟩, -, -⟩ := hSw.2.1.three
    obtain ⟨⟨y0, y1, y2⟩, -, -⟩ := hSw.2.2.1.three
    obtain ⟨⟨z0, z1, z2⟩, -, -⟩ := hSw.2.2.2.1.three
    go_simp
    try with_reducible rfl
  try simp only [Act.put, List.setIfInBounds_toArray, List.set_cons_zero, List.set_cons_succ]
  refine wpAnyH_take (i := 10) (oi := ({ dst := some 58, op := Go.Op.pick (Go.Operand.tmp 54) (Go.Operand.tmp 57) (Go.Operand.const (Go.Value.bool false)), type := 4, pos := "law.go:46", after := #[{ on := 6, ground := Go.Ground.data }, { on := 9, ground := Go.Ground.data }], guard := none } : Go.Oper)) (v := .bool true) rfl (by kernel_rfl) (by kernel_rfl) (by kernel_rfl) (fun _ _ _ h => h) (Or.inl ⟨by rfl, ?_⟩) (by assumption) ?_
  · intro wx hSw
    try dsimp only at hSw
    obtain ⟨⟨x0, x1, x2⟩, -, -⟩ := hSw.2.1.three
    obtain ⟨⟨y0, y1, y2⟩, -, -⟩ := hSw.2.2.1.three
    obtain ⟨⟨z0, z1, z2⟩, -, -⟩ := hSw.2.2.2.1.three
    go_simp
    try with_reducible rfl
  try simp only [Act.put, List.setIfInBounds_toArray, List.set_cons_zero, List.set_cons_succ]
  refine wpAnyH_take (i := 11) (oi := ({ dst := some 59, op := Go.Op.move (Go.Operand.tmp 58), type := 4, pos := "law.go:46", after := #[{ on := 10, ground := Go.Ground.data }, { on := 6, ground := Go.Ground.chain }], guard := none } : Go.Oper)) (v := .bool true) rfl (by kernel_rfl) (by kernel_rfl) (by kernel_rfl) (fun _ _ _ h => h) (Or.inl ⟨by rfl, ?_⟩) (by assumption) ?_
  · intro wx hSw
    try dsimp only at hSw
    obtain ⟨⟨x0, x1, x2⟩, -, -⟩ := hSw.2.1.three
    obtain ⟨⟨y0, y1, y2⟩, -, -⟩ := hSw.2.2.1.three
    obtain ⟨⟨z0, z1, z2⟩, -, -⟩ := hSw.2.2.2.1.three
    go_simp
    try with_reducible rfl
  try simp only [Act.put, List.setIfInBounds_toArray, List.set_cons_zero, List.set_cons_succ]
  refine wpAnyH_take (i := 12) (oi := ({ dst := some 60, op := Go.Op.load 23 (Go.Operand.tmp 2), type := 23, pos := "law.go:46", after := #[{ on := 11, ground := Go.Ground.guard }], guard := some (11, true) } : Go.Oper)) (v := .agg #[.int .i64 k, .int .i64 t, .string d]) rfl (by kernel_rfl) (by kernel_rfl) (by kernel_rfl) (fun _ _ _ h => h) (Or.inl ⟨by rfl, ?_⟩) (by assumption) ?_
  · intro wx hSw
    try dsimp only at hSw
    obtain ⟨⟨x0, x1, x2⟩, -, -⟩ := hSw.2.1.three
    obtain ⟨⟨y0, y1, y2⟩, -, -⟩ := hSw.2.2.1.three
    obtain ⟨⟨z0, z1, z2⟩, -, -⟩ := hSw.2.2.2.1.three
    go_simp
    try with_reducible rfl
  try simp only [Act.put, List.setIfInBounds_toArray, List.set_cons_zero, List.set_cons_succ]
  refine wpAnyH_take (i := 14) (oi := ({ dst := some 62, op := Go.Op.load 23 (Go.Operand.tmp 2), type := 23, pos := "law.go:46", after := #[{ on := 11, ground := Go.Ground.guard }], guard := some (11, true) } : Go.Oper)) (v := .agg #[.int .i64 k, .int .i64 t, .string d]) rfl (by kernel_rfl) (by kernel_rfl) (by kernel_rfl) (fun _ _ _ h => h) (Or.inl ⟨by rfl, ?_⟩) (by assumption) ?_
  · intro wx hSw
    try dsimp only at hSw
    obtain ⟨⟨x0, x1, x2⟩, -, -⟩ := hSw.2.1.three
    obtain ⟨⟨y0, y1, y2⟩, -, -⟩ := hSw.2.2.1.three
    obtain ⟨⟨z0, z1, z2⟩, -, -⟩ := hSw.2.2.2.1.three
    go_simp
    try with_reducible rfl
  try simp only [Act.put, List.setIfInBounds_toArray, List.set_cons_zero, List.set_cons_succ]
  refine wpAnyH_ready (rs := [13]) (by kernel_rfl) (by simp) ?_
  refine AllReadyH.cons (o := ({ dst := some 61, op := Go.Op.call { callee := Go.Callee.value (Go.Operand.func 12), args := #[Go.Operand.tmp 60], argTypes := #[23] }, type := 24, pos := "law.go:46", after := #[{ on := 12, ground := Go.Ground.data }, { on := 11, ground := Go.Ground.chain }, { on := 11, ground := Go.Ground.guard }], guard := some (11, true) } : Go.Oper)) rfl (fun K hK => ?_) AllReadyH.nil
  go_simp
  refine (hck _).mono ?_
  rintro e wk ⟨rfl, hbk⟩
  refine hK.out _ _ ⟨bt hHeld.1 hbk, hHeld.2.1.later hbk, hHeld.2.2.1.later hbk, hHeld.2.2.2.1.later hbk, hHeld.2.2.2.2.1.later hbk, hHeld.2.2.2.2.2.later hbk⟩ (fun hHeld => ?_)
  clear hK K
  try simp only [Act.put, List.setIfInBounds_toArray, List.set_cons_zero, List.set_cons_succ]
  refine wpAnyH_ready (rs := [15]) (by kernel_rfl) (by simp) ?_
  refine AllReadyH.cons (o := ({ dst := some 63, op := Go.Op.call { callee := Go.Callee.value (Go.Operand.func 13), args := #[Go.Operand.tmp 62], argTypes := #[23] }, type := 24, pos := "law.go:46", after := #[{ on := 14, ground := Go.Ground.data }, { on := 13, ground := Go.Ground.chain }, { on := 11, ground := Go.Ground.guard }], guard := some (11, true) } : Go.Oper)) rfl (fun K hK => ?_) AllReadyH.nil
  go_simp
  refine (hrc _).mono ?_
  rintro e wk ⟨rfl, hbk⟩
  refine hK.out _ _ ⟨bt hHeld.1 hbk, hHeld.2.1.later hbk, hHeld.2.2.1.later hbk, hHeld.2.2.2.1.later hbk, hHeld.2.2.2.2.1.later hbk, hHeld.2.2.2.2.2.later hbk⟩ (fun hHeld => ?_)
  clear hK K
  try simp only [Act.put, List.setIfInBounds_toArray, List.set_cons_zero, List.set_cons_succ]
  refine wpAnyH_take (i := 16) (oi := ({ dst := some 64, op := Go.Op.binOp Go.BinOp.eql 24 (Go.Operand.tmp 61) (Go.Operand.tmp 63) 24, type := 4, pos := "law.go:46", after := #[{ on := 13, ground := Go.Ground.data }, { on := 15, ground := Go.Ground.data }, { on := 11, ground := Go.Ground.guard }], guard := some (11, true) } : Go.Oper)) (v := .bool true) rfl (by kernel_rfl) (by kernel_rfl) (by kernel_rfl) (fun _ _ _ h => h) (Or.inl ⟨by rfl, ?_⟩) (by assumption) ?_
  · intro wx hSw
    try dsimp only at hSw
    obtain ⟨⟨x0, x1, x2⟩, -, -⟩ := hSw.2.1.three
    obtain ⟨⟨y0, y1, y2⟩, -, -⟩ := hSw.2.2.1.three
    obtain ⟨⟨z0, z1, z2⟩, -, -⟩ := hSw.2.2.2.1.three
    go_simp
    try with_reducible rfl
  try simp only [Act.put, List.setIfInBounds_toArray, List.set_cons_zero, List.set_cons_succ]
  refine wpAnyH_take (i := 17) (oi := ({ dst := some 65, op := Go.Op.pick (Go.Operand.tmp 59) (Go.Operand.tmp 64) (Go.Operand.const (Go.Value.bool false)), type := 4, pos := "law.go:46", after := #[{ on := 11, ground := Go.Ground.data }, { on := 16, ground := Go.Ground.data }], guard := none } : Go.Oper)) (v := .bool true) rfl (by kernel_rfl) (by kernel_rfl) (by kernel_rfl) (fun _ _ _ h => h) (Or.inl ⟨by rfl, ?_⟩) (by assumption) ?_
  · intro wx hSw
    try dsimp only at hSw
    obtain ⟨⟨x0, x1, x2⟩, -, -⟩ := hSw.2.1.three
    obtain ⟨⟨y0, y1, y2⟩, -, -⟩ := hSw.2.2.1.three
    obtain ⟨⟨z0, z1, z2⟩, -, -⟩ := hSw.2.2.2.1.three
    go_simp
    try with_reducible rfl
  try simp only [Act.put, List.setIfInBounds_toArray, List.set_cons_zero, List.set_cons_succ]
  refine wpAnyH_take (i := 18) (oi := ({ dst := some 66, op := Go.Op.move (Go.Operand.tmp 65), type := 4, pos := "law.go:46", after := #[{ on := 17, ground := Go.Ground.data }, { on := 15, ground := Go.Ground.chain }], guard := none } : Go.Oper)) (v := .bool true) rfl (by kernel_rfl) (by kernel_rfl) (by kernel_rfl) (fun _ _ _ h => h) (Or.inl ⟨by rfl, ?_⟩) (by assumption) ?_
  · intro wx hSw
    try dsimp only at hSw
    obtain ⟨⟨x0, x1, x2⟩, -, -⟩ := hSw.2.1.three
    obtain ⟨⟨y0, y1, y2⟩, -, -⟩ := hSw.2.2.1.three
    obtain ⟨⟨z0, z1, z2⟩, -, -⟩ := hSw.2.2.2.1.three
    go_simp
    try with_reducible rfl
  try simp only [Act.put, List.setIfInBounds_toArray, List.set_cons_zero, List.set_cons_succ]
  refine wpAnyH_take (i := 19) (oi := ({ dst := some 67, op := Go.Op.load 23 (Go.Operand.tmp 9), type := 23, pos := "law.go:46", after := #[{ on := 18, ground := Go.Ground.guard }], guard := some (18, true) } : Go.Oper)) (v := .agg #[.int .i64 yk, .int .i64 yt, .string yd]) rfl (by kernel_rfl) (by kernel_rfl) (by kernel_rfl) (fun _ _ _ h => h) (Or.inl ⟨by rfl, ?_⟩) (by assumption) ?_
  · intro wx hSw
    try dsimp only at hSw
    obtain ⟨⟨x0, x1, x2⟩, -, -⟩ := hSw.2.1.three
    obtain ⟨⟨y0, y1, y2⟩, -, -⟩ := hSw.2.2.1.three
    obtain ⟨⟨z0, z1, z2⟩, -, -⟩ := hSw.2.2.2.1.three
    go_simp
    try with_reducible rfl
  try simp only [Act.put, List.setIfInBounds_toArray, List.set_cons_zero, List.set_cons_succ]
  refine wpAnyH_take (i := 20) (oi := ({ dst := some 68, op := Go.Op.load 23 (Go.Operand.tmp 11), type := 23, pos := "law.go:46", after := #[{ on := 18, ground := Go.Ground.guard }], guard := some (18, true) } : Go.Oper)) (v := .agg #[.int .i64 yk, .int .i64 yt, .string yd]) rfl (by kernel_rfl) (by kernel_rfl) (by kernel_rfl) (fun _ _ _ h => h) (Or.inl ⟨by rfl, ?_⟩) (by assumption) ?_
  · intro wx hSw
    try dsimp only at hSw
    obtain ⟨⟨x0, x1, x2⟩, -, -⟩ := hSw.2.1.three
    obtain ⟨⟨y0, y1, y2⟩, -, -⟩ := hSw.2.2.1.three
    obtain ⟨⟨z0, z1, z2⟩, -, -⟩ := hSw.2.2.2.1.three
    go_simp
    try with_reducible rfl
  try simp only [Act.put, List.setIfInBounds_toArray, List.set_cons_zero, List.set_cons_succ]
  refine wpAnyH_take (i := 21) (oi := ({ dst := some 69, op := Go.Op.binOp Go.BinOp.eql 23 (Go.Operand.tmp 67) (Go.Operand.tmp 68) 23, type := 4, pos := "law.go:46", after := #[{ on := 19, ground := Go.Ground.data }, { on := 20, ground := Go.Ground.data }, { on := 18, ground := Go.Ground.guard }], guard := some (18, true) } : Go.Oper)) (v := .bool true) rfl (by kernel_rfl) (by kernel_rfl) (by kernel_rfl) (fun _ _ _ h => h) (Or.inl ⟨by rfl, ?_⟩) (by assumption) ?_
  · intro wx hSw
    try dsimp only at hSw
    obtain ⟨⟨x0, x1, x2⟩, -, -⟩ := hSw.2.1.three
    obtain ⟨⟨y0, y1, y2⟩, -, -⟩ := hSw.2.2.1.three
    obtain ⟨⟨z0, z1, z2⟩, -, -⟩ := hSw.2.2.2.1.three
    go_simp
    try with_reducible rfl
  try simp only [Act.put, List.setIfInBounds_toArray, List.set_cons_zero, List.set_cons_succ]
  refine wpAnyH_take (i := 22) (oi := ({ dst := some 70, op := Go.Op.pick (Go.Operand.tmp 66) (Go.Operand.tmp 69) (Go.Operand.const (Go.Value.bool false)), type := 4, pos := "law.go:46", after := #[{ on := 18, ground := Go.Ground.data }, { on := 21, ground := Go.Ground.data }], guard := none } : Go.Oper)) (v := .bool true) rfl (by kernel_rfl) (by kernel_rfl) (by kernel_rfl) (fun _ _ _ h => h) (Or.inl ⟨by rfl, ?_⟩) (by assumption) ?_
  · intro wx hSw
    try dsimp only at hSw
    obtain ⟨⟨x0, x1, x2⟩, -, -⟩ := hSw.2.1.three
    obtain ⟨⟨y0, y1, y2⟩, -, -⟩ := hSw.2.2.1.three
    obtain ⟨⟨z0, z1, z2⟩, -, -⟩ := hSw.2.2.2.1.three
    go_simp
    try with_reducible rfl
  try simp only [Act.put, List.setIfInBounds_toArray, List.set_cons_zero, List.set_cons_succ]
  refine wpAnyH_take (i := 23) (oi := ({ dst := some 71, op := Go.Op.move (Go.Operand.tmp 70), type := 4, pos := "law.go:46", after := #[{ on := 22, ground := Go.Ground.data }, { on := 18, ground := Go.Ground.chain }], guard := none } : Go.Oper)) (v := .bool true) rfl (by kernel_rfl) (by kernel_rfl) (by kernel_rfl) (fun _ _ _ h => h) (Or.inl ⟨by rfl, ?_⟩) (by assumption) ?_
  · intro wx hSw
    try dsimp only at hSw
    obtain ⟨⟨x0, x1, x2⟩, -, -⟩ := hSw.2.1.three
    obtain ⟨⟨y0, y1, y2⟩, -, -⟩ := hSw.2.2.1.three
    obtain ⟨⟨z0, z1, z2⟩, -, -⟩ := hSw.2.2.2.1.three
    go_simp
    try with_reducible rfl
  try simp only [Act.put, List.setIfInBounds_toArray, List.set_cons_zero, List.set_cons_succ]
  refine wpAnyH_take (i := 24) (oi := ({ dst := some 72, op := Go.Op.move (Go.Operand.tmp 10), type := 24, pos := "law.go:46", after := #[{ on := 23, ground := Go.Ground.guard }], guard := some (23, true) } : Go.Oper)) (v := .int .i64 G) rfl (by kernel_rfl) (by kernel_rfl) (by kernel_rfl) (fun _ _ _ h => h) (Or.inl ⟨by rfl, ?_⟩) (by assumption) ?_
  · intro wx hSw
    try dsimp only at hSw
    obtain ⟨⟨x0, x1, x2⟩, -, -⟩ := hSw.2.1.three
    obtain ⟨⟨y0, y1, y2⟩, -, -⟩ := hSw.2.2.1.three
    obtain ⟨⟨z0, z1, z2⟩, -, -⟩ := hSw.2.2.2.1.three
    go_simp
    try with_reducible rfl
  try simp only [Act.put, List.setIfInBounds_toArray, List.set_cons_zero, List.set_cons_succ]
  refine wpAnyH_take (i := 25) (oi := ({ dst := some 73, op := Go.Op.move (Go.Operand.tmp 12), type := 24, pos := "law.go:46", after := #[{ on := 23, ground := Go.Ground.guard }], guard := some (23, true) } : Go.Oper)) (v := .int .i64 G) rfl (by kernel_rfl) (by kernel_rfl) (by kernel_rfl) (fun _ _ _ h => h) (Or.inl ⟨by rfl, ?_⟩) (by assumption) ?_
  · intro wx hSw
    try dsimp only at hSw
    obtain ⟨⟨x0, x1, x2⟩, -, -⟩ := hSw.2.1.three
    obtain ⟨⟨y0, y1, y2⟩, -, -⟩ := hSw.2.2.1.three
    obtain ⟨⟨z0, z1, z2⟩, -, -⟩ := hSw.2.2.2.1.three
    go_simp
    try with_reducible rfl
  try simp only [Act.put, List.setIfInBounds_toArray, List.set_cons_zero, List.set_cons_succ]
  refine wpAnyH_take (i := 26) (oi := ({ dst := some 74, op := Go.Op.binOp Go.BinOp.eql 24 (Go.Operand.tmp 72) (Go.Operand.tmp 73) 24, type := 4, pos := "law.go:46", after := #[{ on := 24, ground := Go.Ground.data }, { on := 25, ground := Go.Ground.data }, { on := 23, ground := Go.Ground.guard }], guard := some (23, true) } : Go.Oper)) (v := .bool true) rfl (by kernel_rfl) (by kernel_rfl) (by kernel_rfl) (fun _ _ _ h => h) (Or.inl ⟨by rfl, ?_⟩) (by assumption) ?_
  · intro wx hSw
    try dsimp only at hSw
    obtain ⟨⟨x0, x1, x2⟩, -, -⟩ := hSw.2.1.three
    obtain ⟨⟨y0, y1, y2⟩, -, -⟩ := hSw.2.2.1.three
    obtain ⟨⟨z0, z1, z2⟩, -, -⟩ := hSw.2.2.2.1.three
    go_simp
    try with_reducible rfl
  try simp only [Act.put, List.setIfInBounds_toArray, List.set_cons_zero, List.set_cons_succ]
  refine wpAnyH_take (i := 27) (oi := ({ dst := some 75, op := Go.Op.pick (Go.Operand.tmp 71) (Go.Operand.tmp 74) (Go.Operand.const (Go.Value.bool false)), type := 4, pos := "law.go:46", after := #[{ on := 23, ground := Go.Ground.data }, { on := 26, ground := Go.Ground.data }], guard := none } : Go.Oper)) (v := .bool true) rfl (by kernel_rfl) (by kernel_rfl) (by kernel_rfl) (fun _ _ _ h => h) (Or.inl ⟨by rfl, ?_⟩) (by assumption) ?_
  · intro wx hSw
    try dsimp only at hSw
    obtain ⟨⟨x0, x1, x2⟩, -, -⟩ := hSw.2.1.three
    obtain ⟨⟨y0, y1, y2⟩, -, -⟩ := hSw.2.2.1.three
    obtain ⟨⟨z0, z1, z2⟩, -, -⟩ := hSw.2.2.2.1.three
    go_simp
    try with_reducible rfl
  try simp only [Act.put, List.setIfInBounds_toArray, List.set_cons_zero, List.set_cons_succ]
  refine wpAnyH_take (i := 28) (oi := ({ dst := some 76, op := Go.Op.move (Go.Operand.tmp 75), type := 4, pos := "law.go:46", after := #[{ on := 27, ground := Go.Ground.data }, { on := 23, ground := Go.Ground.chain }], guard := none } : Go.Oper)) (v := .bool true) rfl (by kernel_rfl) (by kernel_rfl) (by kernel_rfl) (fun _ _ _ h => h) (Or.inl ⟨by rfl, ?_⟩) (by assumption) ?_
  · intro wx hSw
    try dsimp only at hSw
    obtain ⟨⟨x0, x1, x2⟩, -, -⟩ := hSw.2.1.three
    obtain ⟨⟨y0, y1, y2⟩, -, -⟩ := hSw.2.2.1.three
    obtain ⟨⟨z0, z1, z2⟩, -, -⟩ := hSw.2.2.2.1.three
    go_simp
    try with_reducible rfl
  try simp only [Act.put, List.setIfInBounds_toArray, List.set_cons_zero, List.set_cons_succ]
  refine wpAnyH_take (i := 29) (oi := ({ dst := some 77, op := Go.Op.move (Go.Operand.tmp 13), type := 29, pos := "law.go:46", after := #[{ on := 28, ground := Go.Ground.guard }], guard := some (28, true) } : Go.Oper)) (v := v1) rfl (by kernel_rfl) (by kernel_rfl) (by kernel_rfl) (fun _ _ _ h => h) (Or.inl ⟨by rfl, ?_⟩) (by assumption) ?_
  · intro wx hSw
    try dsimp only at hSw
    obtain ⟨⟨x0, x1, x2⟩, -, -⟩ := hSw.2.1.three
    obtain ⟨⟨y0, y1, y2⟩, -, -⟩ := hSw.2.2.1.three
    obtain ⟨⟨z0, z1, z2⟩, -, -⟩ := hSw.2.2.2.1.three
    go_simp
    try with_reducible rfl
  try simp only [Act.put, List.setIfInBounds_toArray, List.set_cons_zero, List.set_cons_succ]
  refine wpAnyH_take (i := 30) (oi := ({ dst := some 78, op := Go.Op.move (Go.Operand.tmp 15), type := 29, pos := "law.go:46", after := #[{ on := 28, ground := Go.Ground.guard }], guard := some (28, true) } : Go.Oper)) (v := v2) rfl (by kernel_rfl) (by kernel_rfl) (by kernel_rfl) (fun _ _ _ h => h) (Or.inl ⟨by rfl, ?_⟩) (by assumption) ?_
  · intro wx hSw
    try dsimp only at hSw
    obtain ⟨⟨x0, x1, x2⟩, -, -⟩ := hSw.2.1.three
    obtain ⟨⟨y0, y1, y2⟩, -, -⟩ := hSw.2.2.1.three
    obtain ⟨⟨z0, z1, z2⟩, -, -⟩ := hSw.2.2.2.1.three
    go_simp
    try with_reducible rfl
  try simp only [Act.put, List.setIfInBounds_toArray, List.set_cons_zero, List.set_cons_succ]
  refine wpAnyH_ready (rs := [31]) (by kernel_rfl) (by simp) ?_
  refine AllReadyH.cons (o := ({ dst := some 79, op := Go.Op.call { callee := Go.Callee.value (Go.Operand.func 14), args := #[Go.Operand.tmp 77, Go.Operand.tmp 78], argTypes := #[29, 29] }, type := 4, pos := "law.go:46", after := #[{ on := 29, ground := Go.Ground.data }, { on := 30, ground := Go.Ground.data }, { on := 28, ground := Go.Ground.chain }, { on := 28, ground := Go.Ground.guard }], guard := some (28, true) } : Go.Oper)) rfl (fun K hK => ?_) AllReadyH.nil
  go_simp
  refine (same_any L _ hHeld.2.2.2.2.1 hHeld.2.2.2.2.2 hLn).mono ?_
  rintro e wk ⟨rfl, hbk⟩
  refine hK.out _ _ ⟨bt hHeld.1 hbk, hHeld.2.1.later hbk, hHeld.2.2.1.later hbk, hHeld.2.2.2.1.later hbk, hHeld.2.2.2.2.1.later hbk, hHeld.2.2.2.2.2.later hbk⟩ (fun hHeld => ?_)
  clear hK K
  try simp only [Act.put, List.setIfInBounds_toArray, List.set_cons_zero, List.set_cons_succ]
  refine wpAnyH_take (i := 32) (oi := ({ dst := some 80, op := Go.Op.pick (Go.Operand.tmp 76) (Go.Operand.tmp 79) (Go.Operand.const (Go.Value.bool false)), type := 4, pos := "law.go:46", after := #[{ on := 28, ground := Go.Ground.data }, { on := 31, ground := Go.Ground.data }], guard := none } : Go.Oper)) (v := .bool true) rfl (by kernel_rfl) (by kernel_rfl) (by kernel_rfl) (fun _ _ _ h => h) (Or.inl ⟨by rfl, ?_⟩) (by assumption) ?_
  · intro wx hSw
    try dsimp only at hSw
    obtain ⟨⟨x0, x1, x2⟩, -, -⟩ := hSw.2.1.three
    obtain ⟨⟨y0, y1, y2⟩, -, -⟩ := hSw.2.2.1.three
    obtain ⟨⟨z0, z1, z2⟩, -, -⟩ := hSw.2.2.2.1.three
    go_simp
    try with_reducible rfl
  try simp only [Act.put, List.setIfInBounds_toArray, List.set_cons_zero, List.set_cons_succ]
  refine wpAnyH_take (i := 33) (oi := ({ dst := some 81, op := Go.Op.move (Go.Operand.tmp 80), type := 4, pos := "law.go:46", after := #[{ on := 32, ground := Go.Ground.data }, { on := 31, ground := Go.Ground.chain }], guard := none } : Go.Oper)) (v := .bool true) rfl (by kernel_rfl) (by kernel_rfl) (by kernel_rfl) (fun _ _ _ h => h) (Or.inl ⟨by rfl, ?_⟩) (by assumption) ?_
  · intro wx hSw
    try dsimp only at hSw
    obtain ⟨⟨x0, x1, x2⟩, -, -⟩ := hSw.2.1.three
    obtain ⟨⟨y0, y1, y2⟩, -, -⟩ := hSw.2.2.1.three
    obtain ⟨⟨z0, z1, z2⟩, -, -⟩ := hSw.2.2.2.1.three
    go_simp
    try with_reducible rfl
  try simp only [Act.put, List.setIfInBounds_toArray, List.set_cons_zero, List.set_cons_succ]
  refine wpAnyH_take (i := 34) (oi := ({ dst := some 82, op := Go.Op.move (Go.Operand.tmp 14), type := 24, pos := "law.go:46", after := #[{ on := 33, ground := Go.Ground.guard }], guard := some (33, true) } : Go.Oper)) (v := .int .i64 J) rfl (by kernel_rfl) (by kernel_rfl) (by kernel_rfl) (fun _ _ _ h => h) (Or.inl ⟨by rfl, ?_⟩) (by assumption) ?_
  · intro wx hSw
    try dsimp only at hSw
    obtain ⟨⟨x0, x1, x2⟩, -, -⟩ := hSw.2.1.three
    obtain ⟨⟨y0, y1, y2⟩, -, -⟩ := hSw.2.2.1.three
    obtain ⟨⟨z0, z1, z2⟩, -, -⟩ := hSw.2.2.2.1.three
    go_simp
    try with_reducible rfl
  try simp only [Act.put, List.setIfInBounds_toArray, List.set_cons_zero, List.set_cons_succ]
  refine wpAnyH_take (i := 35) (oi := ({ dst := some 83, op := Go.Op.move (Go.Operand.tmp 16), type := 24, pos := "law.go:46", after := #[{ on := 33, ground := Go.Ground.guard }], guard := some (33, true) } : Go.Oper)) (v := .int .i64 J) rfl (by kernel_rfl) (by kernel_rfl) (by kernel_rfl) (fun _ _ _ h => h) (Or.inl ⟨by rfl, ?_⟩) (by assumption) ?_
  · intro wx hSw
    try dsimp only at hSw
    obtain ⟨⟨x0, x1, x2⟩, -, -⟩ := hSw.2.1.three
    obtain ⟨⟨y0, y1, y2⟩, -, -⟩ := hSw.2.2.1.three
    obtain ⟨⟨z0, z1, z2⟩, -, -⟩ := hSw.2.2.2.1.three
    go_simp
    try with_reducible rfl
  try simp only [Act.put, List.setIfInBounds_toArray, List.set_cons_zero, List.set_cons_succ]
  refine wpAnyH_take (i := 36) (oi := ({ dst := some 84, op := Go.Op.binOp Go.BinOp.eql 24 (Go.Operand.tmp 82) (Go.Operand.tmp 83) 24, type := 4, pos := "law.go:46", after := #[{ on := 34, ground := Go.Ground.data }, { on := 35, ground := Go.Ground.data }, { on := 33, ground := Go.Ground.guard }], guard := some (33, true) } : Go.Oper)) (v := .bool true) rfl (by kernel_rfl) (by kernel_rfl) (by kernel_rfl) (fun _ _ _ h => h) (Or.inl ⟨by rfl, ?_⟩) (by assumption) ?_
  · intro wx hSw
    try dsimp only at hSw
    obtain ⟨⟨x0, x1, x2⟩, -, -⟩ := hSw.2.1.three
    obtain ⟨⟨y0, y1, y2⟩, -, -⟩ := hSw.2.2.1.three
    obtain ⟨⟨z0, z1, z2⟩, -, -⟩ := hSw.2.2.2.1.three
    go_simp
    try with_reducible rfl
  try simp only [Act.put, List.setIfInBounds_toArray, List.set_cons_zero, List.set_cons_succ]
  refine wpAnyH_take (i := 37) (oi := ({ dst := some 85, op := Go.Op.pick (Go.Operand.tmp 81) (Go.Operand.tmp 84) (Go.Operand.const (Go.Value.bool false)), type := 4, pos := "law.go:46", after := #[{ on := 33, ground := Go.Ground.data }, { on := 36, ground := Go.Ground.data }], guard := none } : Go.Oper)) (v := .bool true) rfl (by kernel_rfl) (by kernel_rfl) (by kernel_rfl) (fun _ _ _ h => h) (Or.inl ⟨by rfl, ?_⟩) (by assumption) ?_
  · intro wx hSw
    try dsimp only at hSw
    obtain ⟨⟨x0, x1, x2⟩, -, -⟩ := hSw.2.1.three
    obtain ⟨⟨y0, y1, y2⟩, -, -⟩ := hSw.2.2.1.three
    obtain ⟨⟨z0, z1, z2⟩, -, -⟩ := hSw.2.2.2.1.three
    go_simp
    try with_reducible rfl
  try simp only [Act.put, List.setIfInBounds_toArray, List.set_cons_zero, List.set_cons_succ]
  refine wpAnyH_take (i := 38) (oi := ({ dst := some 86, op := Go.Op.move (Go.Operand.tmp 85), type := 4, pos := "law.go:46", after := #[{ on := 37, ground := Go.Ground.data }, { on := 33, ground := Go.Ground.chain }], guard := none } : Go.Oper)) (v := .bool true) rfl (by kernel_rfl) (by kernel_rfl) (by kernel_rfl) (fun _ _ _ h => h) (Or.inl ⟨by rfl, ?_⟩) (by assumption) ?_
  · intro wx hSw
    try dsimp only at hSw
    obtain ⟨⟨x0, x1, x2⟩, -, -⟩ := hSw.2.1.three
    obtain ⟨⟨y0, y1, y2⟩, -, -⟩ := hSw.2.2.1.three
    obtain ⟨⟨z0, z1, z2⟩, -, -⟩ := hSw.2.2.2.1.three
    go_simp
    try with_reducible rfl
  try simp only [Act.put, List.setIfInBounds_toArray, List.set_cons_zero, List.set_cons_succ]
  refine wpAnyH_ready (rs := [39]) (by kernel_rfl) (by simp) ?_
  refine AllReadyH.cons (o := ({ dst := some 87, op := Go.Op.call { callee := Go.Callee.value (Go.Operand.func 15), args := #[], argTypes := #[] }, type := 4, pos := "law.go:46", after := #[{ on := 38, ground := Go.Ground.chain }, { on := 38, ground := Go.Ground.guard }], guard := some (38, true) } : Go.Oper)) rfl (fun K hK => ?_) AllReadyH.nil
  go_simp
  refine (works_any _).mono ?_
  rintro e wk ⟨rfl, hbk⟩
  refine hK.out _ _ ⟨bt hHeld.1 hbk, hHeld.2.1.later hbk, hHeld.2.2.1.later hbk, hHeld.2.2.2.1.later hbk, hHeld.2.2.2.2.1.later hbk, hHeld.2.2.2.2.2.later hbk⟩ (fun hHeld => ?_)
  clear hK K
  try simp only [Act.put, List.setIfInBounds_toArray, List.set_cons_zero, List.set_cons_succ]
  refine wpAnyH_take (i := 40) (oi := ({ dst := some 88, op := Go.Op.pick (Go.Operand.tmp 86) (Go.Operand.tmp 87) (Go.Operand.const (Go.Value.bool false)), type := 4, pos := "law.go:46", after := #[{ on := 38, ground := Go.Ground.data }, { on := 39, ground := Go.Ground.data }], guard := none } : Go.Oper)) (v := .bool true) rfl (by kernel_rfl) (by kernel_rfl) (by kernel_rfl) (fun _ _ _ h => h) (Or.inl ⟨by rfl, ?_⟩) (by assumption) ?_
  · intro wx hSw
    try dsimp only at hSw
    obtain ⟨⟨x0, x1, x2⟩, -, -⟩ := hSw.2.1.three
    obtain ⟨⟨y0, y1, y2⟩, -, -⟩ := hSw.2.2.1.three
    obtain ⟨⟨z0, z1, z2⟩, -, -⟩ := hSw.2.2.2.1.three
    go_simp
    try with_reducible rfl
  try simp only [Act.put, List.setIfInBounds_toArray, List.set_cons_zero, List.set_cons_succ]
  refine wpAnyH_take (i := 41) (oi := ({ dst := some 4, op := Go.Op.assign (Go.Operand.tmp 88), type := 4, pos := "law.go:46", after := #[{ on := 40, ground := Go.Ground.data }, { on := 39, ground := Go.Ground.chain }, { on := 0, ground := Go.Ground.phase }, { on := 1, ground := Go.Ground.phase }, { on := 2, ground := Go.Ground.phase }, { on := 3, ground := Go.Ground.phase }, { on := 4, ground := Go.Ground.phase }, { on := 5, ground := Go.Ground.phase }, { on := 6, ground := Go.Ground.phase }, { on := 7, ground := Go.Ground.phase }, { on := 8, ground := Go.Ground.phase }, { on := 9, ground := Go.Ground.phase }, { on := 10, ground := Go.Ground.phase }, { on := 11, ground := Go.Ground.phase }, { on := 12, ground := Go.Ground.phase }, { on := 13, ground := Go.Ground.phase }, { on := 14, ground := Go.Ground.phase }, { on := 15, ground := Go.Ground.phase }, { on := 16, ground := Go.Ground.phase }, { on := 17, ground := Go.Ground.phase }, { on := 18, ground := Go.Ground.phase }, { on := 19, ground := Go.Ground.phase }, { on := 20, ground := Go.Ground.phase }, { on := 21, ground := Go.Ground.phase }, { on := 22, ground := Go.Ground.phase }, { on := 23, ground := Go.Ground.phase }, { on := 24, ground := Go.Ground.phase }, { on := 25, ground := Go.Ground.phase }, { on := 26, ground := Go.Ground.phase }, { on := 27, ground := Go.Ground.phase }, { on := 28, ground := Go.Ground.phase }, { on := 29, ground := Go.Ground.phase }, { on := 30, ground := Go.Ground.phase }, { on := 31, ground := Go.Ground.phase }, { on := 32, ground := Go.Ground.phase }, { on := 33, ground := Go.Ground.phase }, { on := 34, ground := Go.Ground.phase }, { on := 35, ground := Go.Ground.phase }, { on := 36, ground := Go.Ground.phase }, { on := 37, ground := Go.Ground.phase }, { on := 38, ground := Go.Ground.phase }, { on := 39, ground := Go.Ground.phase }, { on := 40, ground := Go.Ground.phase }], guard := none } : Go.Oper)) (v := .bool true) rfl (by kernel_rfl) (by kernel_rfl) (by kernel_rfl) (fun _ _ _ h => h) (Or.inl ⟨by rfl, ?_⟩) (by assumption) ?_
  · intro wx hSw
    try dsimp only at hSw
    obtain ⟨⟨x0, x1, x2⟩, -, -⟩ := hSw.2.1.three
    obtain ⟨⟨y0, y1, y2⟩, -, -⟩ := hSw.2.2.1.three
    obtain ⟨⟨z0, z1, z2⟩, -, -⟩ := hSw.2.2.2.1.three
    go_simp
    try with_reducible rfl
  try simp only [Act.put, List.setIfInBounds_toArray, List.set_cons_zero, List.set_cons_succ]
  refine wpAnyH_done (by kernel_rfl) ?_ _
  go_wp2
  go_ret
  exact ⟨rfl, hHeld.1⟩
end Go.Proofs.Ytgjkplkghoeeeaa
