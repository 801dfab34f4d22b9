/- The document's Next, Probe. -/
import Derived.Test.YtlbdecjppgjdiaaDTe
namespace Go.Proofs.Ytlbdecjppgjdiaa
open Go.RowKit Go.Maps Go.Lib
set_option maxRecDepth 100000
set_option linter.unusedVariables false
set_option linter.unusedSimpArgs false


def rsN (Q : Ru) (m : Int) : Nat := (max (min ((Q.bs.length : Int) - (Q.sent : Int)) m) 0).toNat
def rsQ (Q : Ru) (m : Int) : Ru := { Q with sent := Q.sent + rsN Q m }
def rsS (Q : Ru) (m : Int) : List UInt8 := (Q.bs.drop Q.sent).take (rsN Q m)
theorem rsN_le {Q : Ru} (h : Q.Fine) (m : Int) : Q.sent + rsN Q m ≤ Q.bs.length := by have := h.sn; unfold rsN; omega
theorem rsQ_fine {Q : Ru} (h : Q.Fine) (m : Int) : (rsQ Q m).Fine := ⟨h.r0, h.r1, h.l0, h.l1, h.ln, rsN_le h m, h.gl⟩
abbrev rnA (Q : Ru) : Int := (Q.left + (Q.sent : Int)) % 4294967296
theorem rset1 {w : World} {R : Bk} {r : Nat} {Q : Ru} {vg : Value} (h : RX w R r Q vg) (s : Nat) : RX (w.setCell ⟨r, 1, none⟩ (.int .i64 (s : Int))) R r { Q with sent := s } vg ∧ TD R w (w.setCell ⟨r, 1, none⟩ (.int .i64 (s : Int))) := ⟨⟨h.at5.set 1 _, h.kd.set _ _, h.ge, row_set h.go h.kd (by decide) _ _⟩, TY.set h.kd (by decide) h.ge _ _⟩
theorem rnext_no {w : World} {R : Bk} {r : Nat} {Q : Ru} {vg : Value} (h : RX w R r Q vg) (hf : Q.Fine) (win m : Int) (hno : win < 1 ∨ m < 1 ∨ win ≤ (Q.sent : Int)) :
    Calls Try.prog 31 #[PR r, .int .i64 win, .int .i64 m] w fun e w' => e = .returned (.tuple #[.int .i64 (rnA Q), .string ⟨#[]⟩]) ∧ Below w.heap.size w w' := by
  have hc := rnext1_any h hf
  have HX : Hid (RX w R r Q vg) := h
  have hss : ((strB Q.bs).size : Int) = (Q.bs.length : Int) := by rw [strB_size]
  have hs6 : (Q.sent : Int) ≤ 65536 := by have := hf.sn; have := hf.ln; have := hf.r1; omega
  have hb6 : (Q.bs.length : Int) ≤ 65536 := by have := hf.ln; have := hf.r1; omega
  have hb7 : ((strB Q.bs).size : Int) ≤ 65536 := by omega
  clear h hss hb6
  go_enter Try.func31, Try.ntmps31
  go_wp2_with fail
  refine hc.mono ?_
  rintro e w1 ⟨rfl, hb1⟩
  have hX1 := HX.out.later hb1
  obtain ⟨⟨c0, c1, c2, c3, c4⟩, -⟩ := hX1.at5.five
  generalize strB Q.bs = S at *
  go_upto_region 2 with fail
  go_quiet (fail)
  have d1 : (w1.drewN nq).cell? ⟨r, 1, none⟩ = some (.int .i64 (Q.sent : Int)) := c1
  have hbb := bt hb1 (belD w1 nq)
  generalize w1.drewN nq = w2 at *
  by_cases h1 : win < 1
  · go_wp2
    go_ret2
    exact ⟨rfl, hbb⟩
  · by_cases h2 : m < 1
    · go_wp2
      go_ret2
      exact ⟨rfl, hbb⟩
    · have h3 : win ≤ (Q.sent : Int) := by omega
      go_wp2
      go_ret2
      exact ⟨rfl, hbb⟩
set_option maxHeartbeats 2000000 in
theorem rnext_yes {w : World} {R : Bk} {r : Nat} {Q : Ru} {vg : Value} (h : RX w R r Q vg) (hf : Q.Fine) (win m : Int) (hw : 1 ≤ win) (hm : 1 ≤ m) (hs : (Q.sent : Int) < win) (hwm : win ≤ 9223372036854775807) :
    Calls Try.prog 31 #[PR r, .int .i64 win, .int .i64 m] w fun e w' => e = .returned (.tuple #[.int .i64 (rnA Q), .string (strB (rsS Q (min (max win 0 - (Q.sent : Int)) m)))]) ∧ RX w' R r (rsQ Q (min (max win 0 - (Q.sent : Int)) m)) vg ∧ TD R w w' := by
  have hc := rnext1_any h hf
  have HX : Hid (RX w R r Q vg) := h
  have hss : (strB Q.bs).size = Q.bs.length := strB_size _
  have hs6 : (Q.sent : Int) ≤ 65536 := by have := hf.sn; have := hf.ln; have := hf.r1; omega
  have hb6 : (Q.bs.length : Int) ≤ 65536 := by have := hf.ln; have := hf.r1; omega
  have hsn := hf.sn
  obtain ⟨k, hk⟩ : ∃ k, k = rsN Q (min (max win 0 - (Q.sent : Int)) m) := ⟨_, rfl⟩
  have hkl : Q.sent + k ≤ Q.bs.length := by rw [hk]; exact rsN_le hf _
  have HK1 : Hid (min ((strB Q.bs).size - (Q.sent : Int) : Int) (min m (win - (Q.sent : Int))) = (k : Int)) := by show _ = _; rw [hk, hss]; unfold rsN; omega
  have HEX : Hid ((strB Q.bs).extract Q.sent (Q.sent + k) = strB (rsS Q (min (max win 0 - (Q.sent : Int)) m))) := by
    show _ = _
    rw [strB_extract, Nat.add_sub_cancel_left]
    unfold rsS
    rw [← hk]
    rfl
  have HQ2 : Hid (rsQ Q (min (max win 0 - (Q.sent : Int)) m) = { Q with sent := Q.sent + k }) := by show _ = _; unfold rsQ; rw [← hk]
  clear h hf hk
  have hk0 : (0 : Int) ≤ (k : Int) := by omega
  have hkS : (Q.sent : Int) + (k : Int) ≤ ((strB Q.bs).size : Int) := by rw [hss]; omega
  have hkS2 : Q.sent + k ≤ (strB Q.bs).size := by rw [hss]; exact hkl
  have hb7 : ((strB Q.bs).size : Int) ≤ 65536 := by rw [hss]; exact hb6
  have hkn : ((Q.sent : Int) + (k : Int)).toNat = Q.sent + k := by omega
  have hkl2 : Q.sent ≤ Q.sent + k := by omega
  have hz1 : (0 : Int) ≤ (Q.sent : Int) + (k : Int) := by omega
  have hz2 : (Q.sent : Int) ≤ (Q.sent : Int) + (k : Int) := by omega
  have hn1 : ¬ win < 1 := by omega
  have hn2 : ¬ m < 1 := by omega
  have hn3 : ¬ win ≤ (Q.sent : Int) := by omega
  generalize rsQ Q (min (max win 0 - (Q.sent : Int)) m) = Q2 at *
  generalize strB (rsS Q (min (max win 0 - (Q.sent : Int)) m)) = SX at *
  clear hss
  go_enter Try.func31, Try.ntmps31
  go_wp2_with fail
  refine hc.mono ?_
  rintro e w1 ⟨rfl, hb1⟩
  have hX1 := HX.out.later hb1
  obtain ⟨⟨c0, c1, c2, c3, c4⟩, -⟩ := hX1.at5.five
  go_upto_region 2 with fail
  go_quiet (fail)
  have hX2 := hX1.later (belD w1 nq)
  have hb2 := bt hb1 (belD w1 nq)
  clear c0 c1 c2 c3 c4 hX1 hb1 hc
  generalize w1.drewN nq = w2 at *
  obtain ⟨⟨c0, c1, c2, c3, c4⟩, f0, f1, f2, f3, f4⟩ := hX2.at5.five
  go_upto_region 6 with fail
  rw [HK1.out]
  have d1 : ∀ W, Below w2.heap.size w2 W → W.cell? ⟨r, 1, none⟩ = some (.int .i64 (Q.sent : Int)) := fun W hW => later hW c1
  have d3 : ∀ W, Below w2.heap.size w2 W → W.cell? ⟨r, 3, none⟩ = some (.string (strB Q.bs)) := fun W hW => later hW c3
  have hwr : IntKind.i64.wrap ((Q.sent : Int) + (k : Int)) = (Q.sent : Int) + (k : Int) := by rw [IntKind.wrap_i64] <;> omega
  refine wp_region_held_drew (S := (fun W => Below w2.heap.size w2 W)) (by kernel_rfl) ?_ (fun hHeld => ?_)
  · first | exact (Below.refl _ _).drew | assumption
  refine wpAnyH_take (i := 0) (oi := ({ dst := some 48, op := Go.Op.move (Go.Operand.tmp 0), type := 27, pos := "ref.go:99", after := #[], guard := none } : Go.Oper)) (v := .pointer (some ⟨r, 0, none⟩)) rfl (by kernel_rfl) (by kernel_rfl) (by kernel_rfl) (fun _ _ _ h => h) (Or.inl ⟨by rfl, ?_⟩) (by assumption) ?_
  · intro wx hSw
    try dsimp only at hSw
    have u1 := d1 wx hSw
    have u3 := d3 wx hSw
    go_simp
    try with_reducible rfl
  try simp only [Act.put, List.setIfInBounds_toArray, List.set_cons_zero, List.set_cons_succ]
  refine wpAnyH_take (i := 1) (oi := ({ dst := some 49, op := Go.Op.nilCheck (Go.Operand.tmp 48), type := 0, pos := "ref.go:99", after := #[{ on := 0, ground := Go.Ground.data }], guard := none } : Go.Oper)) (v := .pointer (some ⟨r, 0, none⟩)) rfl (by kernel_rfl) (by kernel_rfl) (by kernel_rfl) (fun _ _ _ h => h) (Or.inl ⟨by rfl, ?_⟩) (by assumption) ?_
  · intro wx hSw
    try dsimp only at hSw
    have u1 := d1 wx hSw
    have u3 := d3 wx hSw
    go_simp
    try with_reducible rfl
  try simp only [Act.put, List.setIfInBounds_toArray, List.set_cons_zero, List.set_cons_succ]
  refine wpAnyH_take (i := 2) (oi := ({ dst := some 50, op := Go.Op.fieldAddr 45 (Go.Operand.tmp 49) 3, type := 0, pos := "ref.go:99", after := #[{ on := 1, ground := Go.Ground.data }], guard := none } : Go.Oper)) (v := .pointer (some ⟨r, 3, none⟩)) rfl (by kernel_rfl) (by kernel_rfl) (by kernel_rfl) (fun _ _ _ h => h) (Or.inl ⟨by rfl, ?_⟩) (by assumption) ?_
  · intro wx hSw
    try dsimp only at hSw
    have u1 := d1 wx hSw
    have u3 := d3 wx hSw
    go_simp
    try with_reducible rfl
  try simp only [Act.put, List.setIfInBounds_toArray, List.set_cons_zero, List.set_cons_succ]
  refine wpAnyH_take (i := 3) (oi := ({ dst := some 51, op := Go.Op.load 9 (Go.Operand.tmp 50), type := 9, pos := "ref.go:99", after := #[{ on := 2, ground := Go.Ground.data }], guard := none } : Go.Oper)) (v := .string (strB Q.bs)) rfl (by kernel_rfl) (by kernel_rfl) (by kernel_rfl) (fun _ _ _ h => h) (Or.inl ⟨by rfl, ?_⟩) (by assumption) ?_
  · intro wx hSw
    try dsimp only at hSw
    have u1 := d1 wx hSw
    have u3 := d3 wx hSw
    go_simp
    try with_reducible rfl
  try simp only [Act.put, List.setIfInBounds_toArray, List.set_cons_zero, List.set_cons_succ]
  refine wpAnyH_take (i := 4) (oi := ({ dst := some 52, op := Go.Op.move (Go.Operand.tmp 0), type := 27, pos := "ref.go:99", after := #[], guard := none } : Go.Oper)) (v := .pointer (some ⟨r, 0, none⟩)) rfl (by kernel_rfl) (by kernel_rfl) (by kernel_rfl) (fun _ _ _ h => h) (Or.inl ⟨by rfl, ?_⟩) (by assumption) ?_
  · intro wx hSw
    try dsimp only at hSw
    have u1 := d1 wx hSw
    have u3 := d3 wx hSw
    go_simp
    try with_reducible rfl
  try simp only [Act.put, List.setIfInBounds_toArray, List.set_cons_zero, List.set_cons_succ]
  refine wpAnyH_take (i := 5) (oi := ({ dst := some 53, op := Go.Op.nilCheck (Go.Operand.tmp 52), type := 0, pos := "ref.go:99", after := #[{ on := 4, ground := Go.Ground.data }], guard := none } : Go.Oper)) (v := .pointer (some ⟨r, 0, none⟩)) rfl (by kernel_rfl) (by kernel_rfl) (by kernel_rfl) (fun _ _ _ h => h) (Or.inl ⟨by rfl, ?_⟩) (by assumption) ?_
  · intro wx hSw
    try dsimp only at hSw
    have u1 := d1 wx hSw
    have u3 := d3 wx hSw
    go_simp
    try with_reducible rfl
  try simp only [Act.put, List.setIfInBounds_toArray, List.set_cons_zero, List.set_cons_succ]
  refine wpAnyH_take (i := 6) (oi := ({ dst := some 54, op := Go.Op.fieldAddr 45 (Go.Operand.tmp 53) 1, type := 0, pos := "ref.go:99", after := #[{ on := 5, ground := Go.Ground.data }], guard := none } : Go.Oper)) (v := .pointer (some ⟨r, 1, none⟩)) rfl (by kernel_rfl) (by kernel_rfl) (by kernel_rfl) (fun _ _ _ h => h) (Or.inl ⟨by rfl, ?_⟩) (by assumption) ?_
  · intro wx hSw
    try dsimp only at hSw
    have u1 := d1 wx hSw
    have u3 := d3 wx hSw
    go_simp
    try with_reducible rfl
  try simp only [Act.put, List.setIfInBounds_toArray, List.set_cons_zero, List.set_cons_succ]
  refine wpAnyH_take (i := 7) (oi := ({ dst := some 55, op := Go.Op.load 3 (Go.Operand.tmp 54), type := 3, pos := "ref.go:99", after := #[{ on := 6, ground := Go.Ground.data }], guard := none } : Go.Oper)) (v := .int .i64 (Q.sent : Int)) rfl (by kernel_rfl) (by kernel_rfl) (by kernel_rfl) (fun _ _ _ h => h) (Or.inl ⟨by rfl, ?_⟩) (by assumption) ?_
  · intro wx hSw
    try dsimp only at hSw
    have u1 := d1 wx hSw
    have u3 := d3 wx hSw
    go_simp
    try with_reducible rfl
  try simp only [Act.put, List.setIfInBounds_toArray, List.set_cons_zero, List.set_cons_succ]
  refine wpAnyH_take (i := 8) (oi := ({ dst := some 56, op := Go.Op.move (Go.Operand.tmp 0), type := 27, pos := "ref.go:99", after := #[], guard := none } : Go.Oper)) (v := .pointer (some ⟨r, 0, none⟩)) rfl (by kernel_rfl) (by kernel_rfl) (by kernel_rfl) (fun _ _ _ h => h) (Or.inl ⟨by rfl, ?_⟩) (by assumption) ?_
  · intro wx hSw
    try dsimp only at hSw
    have u1 := d1 wx hSw
    have u3 := d3 wx hSw
    go_simp
    try with_reducible rfl
  try simp only [Act.put, List.setIfInBounds_toArray, List.set_cons_zero, List.set_cons_succ]
  refine wpAnyH_take (i := 9) (oi := ({ dst := some 57, op := Go.Op.nilCheck (Go.Operand.tmp 56), type := 0, pos := "ref.go:99", after := #[{ on := 8, ground := Go.Ground.data }], guard := none } : Go.Oper)) (v := .pointer (some ⟨r, 0, none⟩)) rfl (by kernel_rfl) (by kernel_rfl) (by kernel_rfl) (fun _ _ _ h => h) (Or.inl ⟨by rfl, ?_⟩) (by assumption) ?_
  · intro wx hSw
    try dsimp only at hSw
    have u1 := d1 wx hSw
    have u3 := d3 wx hSw
    go_simp
    try with_reducible rfl
  try simp only [Act.put, List.setIfInBounds_toArray, List.set_cons_zero, List.set_cons_succ]
  refine wpAnyH_take (i := 10) (oi := ({ dst := some 58, op := Go.Op.fieldAddr 45 (Go.Operand.tmp 57) 1, type := 0, pos := "ref.go:99", after := #[{ on := 9, ground := Go.Ground.data }], guard := none } : Go.Oper)) (v := .pointer (some ⟨r, 1, none⟩)) rfl (by kernel_rfl) (by kernel_rfl) (by kernel_rfl) (fun _ _ _ h => h) (Or.inl ⟨by rfl, ?_⟩) (by assumption) ?_
  · intro wx hSw
    try dsimp only at hSw
    have u1 := d1 wx hSw
    have u3 := d3 wx hSw
    go_simp
    try with_reducible rfl
  try simp only [Act.put, List.setIfInBounds_toArray, List.set_cons_zero, List.set_cons_succ]
  refine wpAnyH_take (i := 11) (oi := ({ dst := some 59, op := Go.Op.load 3 (Go.Operand.tmp 58), type := 3, pos := "ref.go:99", after := #[{ on := 10, ground := Go.Ground.data }], guard := none } : Go.Oper)) (v := .int .i64 (Q.sent : Int)) rfl (by kernel_rfl) (by kernel_rfl) (by kernel_rfl) (fun _ _ _ h => h) (Or.inl ⟨by rfl, ?_⟩) (by assumption) ?_
  · intro wx hSw
    try dsimp only at hSw
    have u1 := d1 wx hSw
    have u3 := d3 wx hSw
    go_simp
    try with_reducible rfl
  try simp only [Act.put, List.setIfInBounds_toArray, List.set_cons_zero, List.set_cons_succ]
  refine wpAnyH_take (i := 12) (oi := ({ dst := some 60, op := Go.Op.move (Go.Operand.tmp 9), type := 3, pos := "ref.go:99", after := #[], guard := none } : Go.Oper)) (v := .int .i64 (k : Int)) rfl (by kernel_rfl) (by kernel_rfl) (by kernel_rfl) (fun _ _ _ h => h) (Or.inl ⟨by rfl, ?_⟩) (by assumption) ?_
  · intro wx hSw
    try dsimp only at hSw
    have u1 := d1 wx hSw
    have u3 := d3 wx hSw
    go_simp
    try with_reducible rfl
  try simp only [Act.put, List.setIfInBounds_toArray, List.set_cons_zero, List.set_cons_succ]
  refine wpAnyH_take (i := 13) (oi := ({ dst := some 61, op := Go.Op.binOp Go.BinOp.add 3 (Go.Operand.tmp 59) (Go.Operand.tmp 60) 3, type := 3, pos := "ref.go:99", after := #[{ on := 11, ground := Go.Ground.data }, { on := 12, ground := Go.Ground.data }], guard := none } : Go.Oper)) (v := .int .i64 ((Q.sent : Int) + (k : Int))) rfl (by kernel_rfl) (by kernel_rfl) (by kernel_rfl) (fun _ _ _ h => h) (Or.inl ⟨by rfl, ?_⟩) (by assumption) ?_
  · intro wx hSw
    try dsimp only at hSw
    have u1 := d1 wx hSw
    have u3 := d3 wx hSw
    go_simp
    try with_reducible rfl
  try simp only [Act.put, List.setIfInBounds_toArray, List.set_cons_zero, List.set_cons_succ]
  refine wpAnyH_take (i := 14) (oi := ({ dst := some 62, op := Go.Op.slice 9 (Go.Operand.tmp 51) (some (Go.Operand.tmp 55)) (some (Go.Operand.tmp 61)) none, type := 9, pos := "ref.go:99", after := #[{ on := 3, ground := Go.Ground.data }, { on := 7, ground := Go.Ground.data }, { on := 13, ground := Go.Ground.data }], guard := none } : Go.Oper)) (v := .string ((strB Q.bs).extract Q.sent (Q.sent + k))) rfl (by kernel_rfl) (by kernel_rfl) (by kernel_rfl) (fun _ _ _ h => h) (Or.inl ⟨by rfl, ?_⟩) (by assumption) ?_
  · intro wx hSw
    try dsimp only at hSw
    have u1 := d1 wx hSw
    have u3 := d3 wx hSw
    go_simp
    try with_reducible rfl
  try simp only [Act.put, List.setIfInBounds_toArray, List.set_cons_zero, List.set_cons_succ]
  refine wpAnyH_take (i := 15) (oi := ({ dst := some 10, op := Go.Op.assign (Go.Operand.tmp 62), type := 9, pos := "ref.go:99", after := #[{ on := 14, ground := Go.Ground.data }, { on := 0, ground := Go.Ground.phase }, { on := 1, ground := Go.Ground.phase }, { on := 2, ground := Go.Ground.phase }, { on := 3, ground := Go.Ground.phase }, { on := 4, ground := Go.Ground.phase }, { on := 5, ground := Go.Ground.phase }, { on := 6, ground := Go.Ground.phase }, { on := 7, ground := Go.Ground.phase }, { on := 8, ground := Go.Ground.phase }, { on := 9, ground := Go.Ground.phase }, { on := 10, ground := Go.Ground.phase }, { on := 11, ground := Go.Ground.phase }, { on := 12, ground := Go.Ground.phase }, { on := 13, ground := Go.Ground.phase }, { on := 14, ground := Go.Ground.phase }], guard := none } : Go.Oper)) (v := .string ((strB Q.bs).extract Q.sent (Q.sent + k))) rfl (by kernel_rfl) (by kernel_rfl) (by kernel_rfl) (fun _ _ _ h => h) (Or.inl ⟨by rfl, ?_⟩) (by assumption) ?_
  · intro wx hSw
    try dsimp only at hSw
    have u1 := d1 wx hSw
    have u3 := d3 wx hSw
    go_simp
    try with_reducible rfl
  try simp only [Act.put, List.setIfInBounds_toArray, List.set_cons_zero, List.set_cons_succ]
  refine wpAnyH_done (by kernel_rfl) ?_ _
  rw [HEX.out]
  have hX3 := hX2.later hHeld
  have hb3 := bt hb2 hHeld
  clear c0 c1 c2 c3 c4 f0 f1 f2 f3 f4
  generalize w2.drew = w3 at *
  obtain ⟨c1, f1⟩ := hX3.at5.2 1 _ rfl
  have hX4 := rset1 hX3 (Q.sent + k)
  rw [← HQ2.out] at hX4
  have hsk : (Q.sent : Int) + (k : Int) = ((Q.sent + k : Nat) : Int) := by omega
  have HSK : Hid ((Q.sent : Int) + (k : Int) = ((Q.sent + k : Nat) : Int)) := hsk
  clear hsk
  go_wp2
  go_ret2
  rw [HSK.out]
  exact ⟨rfl, hX4.1, (TY.of_below hb3).trans hX4.2⟩
theorem rprobe_yes {w : World} {R : Bk} {r : Nat} {Q : Ru} {vg : Value} (h : RX w R r Q vg) (hf : Q.Fine) (hs : 0 < Q.sent) :
    Calls Try.prog 34 #[PR r] w fun e w' => e = .returned (.tuple #[.int .i64 Q.left, .string (strB (Q.bs.take 1))]) ∧ Below w.heap.size w w' := by
  obtain ⟨⟨c0, c1, c2, c3, c4⟩, -⟩ := h.at5.five
  have hss : (strB Q.bs).size = Q.bs.length := strB_size _
  have hsz : (1 : Int) ≤ ((strB Q.bs).size : Int) := by rw [hss]; have := hf.sn; omega
  have HEX : Hid ((strB Q.bs).extract 0 1 = strB (Q.bs.take 1)) := by show _ = _; rw [strB_extract]; rfl
  have hg : 0 < (Q.sent : Int) := by omega
  have d0 : ∀ W, Below w.heap.size w W → W.cell? ⟨r, 0, none⟩ = some (.int .i64 Q.left) := fun W hW => later hW c0
  have d3 : ∀ W, Below w.heap.size w W → W.cell? ⟨r, 3, none⟩ = some (.string (strB Q.bs)) := fun W hW => later hW c3
  clear h hss hf
  go_enter Try.func34, Try.ntmps34
  go_upto_region 2 with fail
  refine wp_region_held_drew (S := (fun W => Below w.heap.size w W)) (by kernel_rfl) ?_ (fun hHeld => ?_)
  · first | exact (Below.refl _ _).drew | assumption
  refine wpAnyH_take (i := 0) (oi := ({ dst := some 9, op := Go.Op.move (Go.Operand.tmp 0), type := 27, pos := "ref.go:123", after := #[], guard := none } : Go.Oper)) (v := .pointer (some ⟨r, 0, none⟩)) rfl (by kernel_rfl) (by kernel_rfl) (by kernel_rfl) (fun _ _ _ h => h) (Or.inl ⟨by rfl, ?_⟩) (by assumption) ?_
  · intro wx hSw
    try dsimp only at hSw
    have u0 := d0 wx hSw
    have u3 := d3 wx hSw
    go_simp
    try with_reducible rfl
  try simp only [Act.put, List.setIfInBounds_toArray, List.set_cons_zero, List.set_cons_succ]
  refine wpAnyH_take (i := 1) (oi := ({ dst := some 10, op := Go.Op.nilCheck (Go.Operand.tmp 9), type := 0, pos := "ref.go:123", after := #[{ on := 0, ground := Go.Ground.data }], guard := none } : Go.Oper)) (v := .pointer (some ⟨r, 0, none⟩)) rfl (by kernel_rfl) (by kernel_rfl) (by kernel_rfl) (fun _ _ _ h => h) (Or.inl ⟨by rfl, ?_⟩) (by assumption) ?_
  · intro wx hSw
    try dsimp only at hSw
    have u0 := d0 wx hSw
    have u3 := d3 wx hSw
    go_simp
    try with_reducible rfl
  try simp only [Act.put, List.setIfInBounds_toArray, List.set_cons_zero, List.set_cons_succ]
  refine wpAnyH_take (i := 2) (oi := ({ dst := some 11, op := Go.Op.fieldAddr 45 (Go.Operand.tmp 10) 0, type := 0, pos := "ref.go:123", after := #[{ on := 1, ground := Go.Ground.data }], guard := none } : Go.Oper)) (v := .pointer (some ⟨r, 0, none⟩)) rfl (by kernel_rfl) (by kernel_rfl) (by kernel_rfl) (fun _ _ _ h => h) (Or.inl ⟨by rfl, ?_⟩) (by assumption) ?_
  · intro wx hSw
    try dsimp only at hSw
    have u0 := d0 wx hSw
    have u3 := d3 wx hSw
    go_simp
    try with_reducible rfl
  try simp only [Act.put, List.setIfInBounds_toArray, List.set_cons_zero, List.set_cons_succ]
  refine wpAnyH_take (i := 3) (oi := ({ dst := some 12, op := Go.Op.load 3 (Go.Operand.tmp 11), type := 3, pos := "ref.go:123", after := #[{ on := 2, ground := Go.Ground.data }], guard := none } : Go.Oper)) (v := .int .i64 Q.left) rfl (by kernel_rfl) (by kernel_rfl) (by kernel_rfl) (fun _ _ _ h => h) (Or.inl ⟨by rfl, ?_⟩) (by assumption) ?_
  · intro wx hSw
    try dsimp only at hSw
    have u0 := d0 wx hSw
    have u3 := d3 wx hSw
    go_simp
    try with_reducible rfl
  try simp only [Act.put, List.setIfInBounds_toArray, List.set_cons_zero, List.set_cons_succ]
  refine wpAnyH_take (i := 4) (oi := ({ dst := some 13, op := Go.Op.move (Go.Operand.tmp 0), type := 27, pos := "ref.go:123", after := #[], guard := none } : Go.Oper)) (v := .pointer (some ⟨r, 0, none⟩)) rfl (by kernel_rfl) (by kernel_rfl) (by kernel_rfl) (fun _ _ _ h => h) (Or.inl ⟨by rfl, ?_⟩) (by assumption) ?_
  · intro wx hSw
    try dsimp only at hSw
    have u0 := d0 wx hSw
    have u3 := d3 wx hSw
    go_simp
    try with_reducible rfl
  try simp only [Act.put, List.setIfInBounds_toArray, List.set_cons_zero, List.set_cons_succ]
  refine wpAnyH_take (i := 5) (oi := ({ dst := some 14, op := Go.Op.nilCheck (Go.Operand.tmp 13), type := 0, pos := "ref.go:123", after := #[{ on := 4, ground := Go.Ground.data }], guard := none } : Go.Oper)) (v := .pointer (some ⟨r, 0, none⟩)) rfl (by kernel_rfl) (by kernel_rfl) (by kernel_rfl) (fun _ _ _ h => h) (Or.inl ⟨by rfl, ?_⟩) (by assumption) ?_
  · intro wx hSw
    try dsimp only at hSw
    have u0 := d0 wx hSw
    have u3 := d3 wx hSw
    go_simp
    try with_reducible rfl
  try simp only [Act.put, List.setIfInBounds_toArray, List.set_cons_zero, List.set_cons_succ]
  refine wpAnyH_take (i := 6) (oi := ({ dst := some 15, op := Go.Op.fieldAddr 45 (Go.Operand.tmp 14) 3, type := 0, pos := "ref.go:123", after := #[{ on := 5, ground := Go.Ground.data }], guard := none } : Go.Oper)) (v := .pointer (some ⟨r, 3, none⟩)) rfl (by kernel_rfl) (by kernel_rfl) (by kernel_rfl) (fun _ _ _ h => h) (Or.inl ⟨by rfl, ?_⟩) (by assumption) ?_
  · intro wx hSw
    try dsimp only at hSw
    have u0 := d0 wx hSw
    have u3 := d3 wx hSw
    go_simp
    try with_reducible rfl
  try simp only [Act.put, List.setIfInBounds_toArray, List.set_cons_zero, List.set_cons_succ]
  refine wpAnyH_take (i := 7) (oi := ({ dst := some 16, op := Go.Op.load 9 (Go.Operand.tmp 15), type := 9, pos := "ref.go:123", after := #[{ on := 6, ground := Go.Ground.data }], guard := none } : Go.Oper)) (v := .string (strB Q.bs)) rfl (by kernel_rfl) (by kernel_rfl) (by kernel_rfl) (fun _ _ _ h => h) (Or.inl ⟨by rfl, ?_⟩) (by assumption) ?_
  · intro wx hSw
    try dsimp only at hSw
    have u0 := d0 wx hSw
    have u3 := d3 wx hSw
    go_simp
    try with_reducible rfl
  try simp only [Act.put, List.setIfInBounds_toArray, List.set_cons_zero, List.set_cons_succ]
  refine wpAnyH_take (i := 8) (oi := ({ dst := some 17, op := Go.Op.slice 9 (Go.Operand.tmp 16) none (some (Go.Operand.const (Go.Value.int Go.IntKind.i64 1))) none, type := 9, pos := "ref.go:123", after := #[{ on := 7, ground := Go.Ground.data }], guard := none } : Go.Oper)) (v := .string ((strB Q.bs).extract 0 1)) rfl (by kernel_rfl) (by kernel_rfl) (by kernel_rfl) (fun _ _ _ h => h) (Or.inl ⟨by rfl, ?_⟩) (by assumption) ?_
  · intro wx hSw
    try dsimp only at hSw
    have u0 := d0 wx hSw
    have u3 := d3 wx hSw
    go_simp
    try with_reducible rfl
  try simp only [Act.put, List.setIfInBounds_toArray, List.set_cons_zero, List.set_cons_succ]
  refine wpAnyH_take (i := 9) (oi := ({ dst := some 2, op := Go.Op.assign (Go.Operand.tmp 12), type := 3, pos := "ref.go:123", after := #[{ on := 3, ground := Go.Ground.data }, { on := 0, ground := Go.Ground.phase }, { on := 1, ground := Go.Ground.phase }, { on := 2, ground := Go.Ground.phase }, { on := 3, ground := Go.Ground.phase }, { on := 4, ground := Go.Ground.textOnly Go.Departure.lateStores }, { on := 5, ground := Go.Ground.textOnly Go.Departure.lateStores }, { on := 6, ground := Go.Ground.textOnly Go.Departure.lateStores }, { on := 7, ground := Go.Ground.textOnly Go.Departure.lateStores }, { on := 8, ground := Go.Ground.textOnly Go.Departure.lateStoresUnsure }], guard := none } : Go.Oper)) (v := .int .i64 Q.left) rfl (by kernel_rfl) (by kernel_rfl) (by kernel_rfl) (fun _ _ _ h => h) (Or.inl ⟨by rfl, ?_⟩) (by assumption) ?_
  · intro wx hSw
    try dsimp only at hSw
    have u0 := d0 wx hSw
    have u3 := d3 wx hSw
    go_simp
    try with_reducible rfl
  try simp only [Act.put, List.setIfInBounds_toArray, List.set_cons_zero, List.set_cons_succ]
  refine wpAnyH_take (i := 10) (oi := ({ dst := some 3, op := Go.Op.assign (Go.Operand.tmp 17), type := 9, pos := "ref.go:123", after := #[{ on := 8, ground := Go.Ground.data }, { on := 9, ground := Go.Ground.chain }, { on := 0, ground := Go.Ground.phase }, { on := 1, ground := Go.Ground.phase }, { on := 2, ground := Go.Ground.phase }, { on := 3, ground := Go.Ground.phase }, { on := 4, ground := Go.Ground.phase }, { on := 5, ground := Go.Ground.phase }, { on := 6, ground := Go.Ground.phase }, { on := 7, ground := Go.Ground.phase }, { on := 8, ground := Go.Ground.phase }, { on := 9, ground := Go.Ground.phase }], guard := none } : Go.Oper)) (v := .string ((strB Q.bs).extract 0 1)) rfl (by kernel_rfl) (by kernel_rfl) (by kernel_rfl) (fun _ _ _ h => h) (Or.inl ⟨by rfl, ?_⟩) (by assumption) ?_
  · intro wx hSw
    try dsimp only at hSw
    have u0 := d0 wx hSw
    have u3 := d3 wx hSw
    go_simp
    try with_reducible rfl
  try simp only [Act.put, List.setIfInBounds_toArray, List.set_cons_zero, List.set_cons_succ]
  refine wpAnyH_done (by kernel_rfl) ?_ _
  rw [HEX.out]
  go_wp2
  go_ret2
  exact ⟨rfl, hHeld⟩
theorem rprobe_none {w : World} {R : Bk} {r : Nat} {Q : Ru} {vg : Value} (h : RX w R r Q vg) (hs : Q.sent = 0) (hn : Q.bs = []) :
    Calls Try.prog 34 #[PR r] w fun e w' => e = .returned (.tuple #[.int .i64 Q.left, .string ⟨#[]⟩]) ∧ Below w.heap.size w w' := by
  obtain ⟨⟨c0, c1, c2, c3, c4⟩, -⟩ := h.at5.five
  have e3 : strB Q.bs = ⟨#[]⟩ := by rw [hn]; rfl
  replace c3 : w.cell? ⟨r, 3, none⟩ = some (.string ⟨#[]⟩) := by rw [← e3]; exact c3
  have hg : ¬ 0 < (Q.sent : Int) := by omega
  have HH : Hid (Q.sent = 0 ∧ Q.bs = []) := ⟨hs, hn⟩
  clear h hs hn e3
  go_enter Try.func34, Try.ntmps34
  go_wp2
  go_ret2
  exact ⟨rfl, Below.refl _ _⟩
set_option maxHeartbeats 1000000 in
theorem rprobe_new {w : World} {R : Bk} {r : Nat} {Q : Ru} {vg : Value} (h : RX w R r Q vg) (hf : Q.Fine) (hs : Q.sent = 0) (hn : Q.bs ≠ []) :
    Calls Try.prog 34 #[PR r] w fun e w' => e = .returned (.tuple #[.int .i64 Q.left, .string (strB (Q.bs.take 1))]) ∧ RX w' R r { Q with sent := 1 } vg ∧ TD R w w' := by
  obtain ⟨⟨c0, c1, c2, c3, c4⟩, f0, f1, -⟩ := h.at5.five
  have hss : (strB Q.bs).size = Q.bs.length := strB_size _
  have hpos : 0 < Q.bs.length := List.length_pos_iff.2 hn
  have hem : (strB Q.bs).toList.isEmpty = false := by rw [em_any]; exact decide_eq_false (by omega)
  have hsz : (1 : Int) ≤ ((strB Q.bs).size : Int) := by rw [hss]; omega
  have HEX : Hid ((strB Q.bs).extract 0 1 = strB (Q.bs.take 1)) := by show _ = _; rw [strB_extract]; rfl
  have hg : ¬ 0 < (Q.sent : Int) := by omega
  obtain ⟨hX2, hT2⟩ := rset1 h 1
  have HX2 : Hid (RX (w.setCell ⟨r, 1, none⟩ (.int .i64 ((1 : Nat) : Int))) R r { Q with sent := 1 } vg ∧ TD R w (w.setCell ⟨r, 1, none⟩ (.int .i64 ((1 : Nat) : Int)))) := ⟨hX2, hT2⟩
  have HH : Hid (Q.sent = 0) := hs
  clear h hss hf hpos hs hn hX2 hT2
  go_enter Try.func34, Try.ntmps34
  go_upto_region 6 with fail
  have ew : w.setCell ⟨r, 1, none⟩ (.int .i64 1) = w.setCell ⟨r, 1, none⟩ (.int .i64 ((1 : Nat) : Int)) := rfl
  try rw [ew]
  clear ew c0 c1 c2 c3 c4 f0 f1
  generalize w.setCell ⟨r, 1, none⟩ (.int .i64 ((1 : Nat) : Int)) = w2 at *
  have c0 := (HX2.out.1.at5.2 0 _ rfl).1
  have c3 := (HX2.out.1.at5.2 3 _ rfl).1
  have d0 : ∀ W, Below w2.heap.size w2 W → W.cell? ⟨r, 0, none⟩ = some (.int .i64 Q.left) := fun W hW => later hW c0
  have d3 : ∀ W, Below w2.heap.size w2 W → W.cell? ⟨r, 3, none⟩ = some (.string (strB Q.bs)) := fun W hW => later hW c3
  refine wp_region_held_drew (S := (fun W => Below w2.heap.size w2 W)) (by kernel_rfl) ?_ (fun hHeld => ?_)
  · first | exact (Below.refl _ _).drew | assumption
  refine wpAnyH_take (i := 0) (oi := ({ dst := some 30, op := Go.Op.move (Go.Operand.tmp 0), type := 27, pos := "ref.go:129", after := #[], guard := none } : Go.Oper)) (v := .pointer (some ⟨r, 0, none⟩)) rfl (by kernel_rfl) (by kernel_rfl) (by kernel_rfl) (fun _ _ _ h => h) (Or.inl ⟨by rfl, ?_⟩) (by assumption) ?_
  · intro wx hSw
    try dsimp only at hSw
    have u0 := d0 wx hSw
    have u3 := d3 wx hSw
    go_simp
    try with_reducible rfl
  try simp only [Act.put, List.setIfInBounds_toArray, List.set_cons_zero, List.set_cons_succ]
  refine wpAnyH_take (i := 1) (oi := ({ dst := some 31, op := Go.Op.nilCheck (Go.Operand.tmp 30), type := 0, pos := "ref.go:129", after := #[{ on := 0, ground := Go.Ground.data }], guard := none } : Go.Oper)) (v := .pointer (some ⟨r, 0, none⟩)) rfl (by kernel_rfl) (by kernel_rfl) (by kernel_rfl) (fun _ _ _ h => h) (Or.inl ⟨by rfl, ?_⟩) (by assumption) ?_
  · intro wx hSw
    try dsimp only at hSw
    have u0 := d0 wx hSw
    have u3 := d3 wx hSw
    go_simp
    try with_reducible rfl
  try simp only [Act.put, List.setIfInBounds_toArray, List.set_cons_zero, List.set_cons_succ]
  refine wpAnyH_take (i := 2) (oi := ({ dst := some 32, op := Go.Op.fieldAddr 45 (Go.Operand.tmp 31) 0, type := 0, pos := "ref.go:129", after := #[{ on := 1, ground := Go.Ground.data }], guard := none } : Go.Oper)) (v := .pointer (some ⟨r, 0, none⟩)) rfl (by kernel_rfl) (by kernel_rfl) (by kernel_rfl) (fun _ _ _ h => h) (Or.inl ⟨by rfl, ?_⟩) (by assumption) ?_
  · intro wx hSw
    try dsimp only at hSw
    have u0 := d0 wx hSw
    have u3 := d3 wx hSw
    go_simp
    try with_reducible rfl
  try simp only [Act.put, List.setIfInBounds_toArray, List.set_cons_zero, List.set_cons_succ]
  refine wpAnyH_take (i := 3) (oi := ({ dst := some 33, op := Go.Op.load 3 (Go.Operand.tmp 32), type := 3, pos := "ref.go:129", after := #[{ on := 2, ground := Go.Ground.data }], guard := none } : Go.Oper)) (v := .int .i64 Q.left) rfl (by kernel_rfl) (by kernel_rfl) (by kernel_rfl) (fun _ _ _ h => h) (Or.inl ⟨by rfl, ?_⟩) (by assumption) ?_
  · intro wx hSw
    try dsimp only at hSw
    have u0 := d0 wx hSw
    have u3 := d3 wx hSw
    go_simp
    try with_reducible rfl
  try simp only [Act.put, List.setIfInBounds_toArray, List.set_cons_zero, List.set_cons_succ]
  refine wpAnyH_take (i := 4) (oi := ({ dst := some 34, op := Go.Op.move (Go.Operand.tmp 0), type := 27, pos := "ref.go:129", after := #[], guard := none } : Go.Oper)) (v := .pointer (some ⟨r, 0, none⟩)) rfl (by kernel_rfl) (by kernel_rfl) (by kernel_rfl) (fun _ _ _ h => h) (Or.inl ⟨by rfl, ?_⟩) (by assumption) ?_
  · intro wx hSw
    try dsimp only at hSw
    have u0 := d0 wx hSw
    have u3 := d3 wx hSw
    go_simp
    try with_reducible rfl
  try simp only [Act.put, List.setIfInBounds_toArray, List.set_cons_zero, List.set_cons_succ]
  refine wpAnyH_take (i := 5) (oi := ({ dst := some 35, op := Go.Op.nilCheck (Go.Operand.tmp 34), type := 0, pos := "ref.go:129", after := #[{ on := 4, ground := Go.Ground.data }], guard := none } : Go.Oper)) (v := .pointer (some ⟨r, 0, none⟩)) rfl (by kernel_rfl) (by kernel_rfl) (by kernel_rfl) (fun _ _ _ h => h) (Or.inl ⟨by rfl, ?_⟩) (by assumption) ?_
  · intro wx hSw
    try dsimp only at hSw
    have u0 := d0 wx hSw
    have u3 := d3 wx hSw
    go_simp
    try with_reducible rfl
  try simp only [Act.put, List.setIfInBounds_toArray, List.set_cons_zero, List.set_cons_succ]
  refine wpAnyH_take (i := 6) (oi := ({ dst := some 36, op := Go.Op.fieldAddr 45 (Go.Operand.tmp 35) 3, type := 0, pos := "ref.go:129", after := #[{ on := 5, ground := Go.Ground.data }], guard := none } : Go.Oper)) (v := .pointer (some ⟨r, 3, none⟩)) rfl (by kernel_rfl) (by kernel_rfl) (by kernel_rfl) (fun _ _ _ h => h) (Or.inl ⟨by rfl, ?_⟩) (by assumption) ?_
  · intro wx hSw
    try dsimp only at hSw
    have u0 := d0 wx hSw
    have u3 := d3 wx hSw
    go_simp
    try with_reducible rfl
  try simp only [Act.put, List.setIfInBounds_toArray, List.set_cons_zero, List.set_cons_succ]
  refine wpAnyH_take (i := 7) (oi := ({ dst := some 37, op := Go.Op.load 9 (Go.Operand.tmp 36), type := 9, pos := "ref.go:129", after := #[{ on := 6, ground := Go.Ground.data }], guard := none } : Go.Oper)) (v := .string (strB Q.bs)) rfl (by kernel_rfl) (by kernel_rfl) (by kernel_rfl) (fun _ _ _ h => h) (Or.inl ⟨by rfl, ?_⟩) (by assumption) ?_
  · intro wx hSw
    try dsimp only at hSw
    have u0 := d0 wx hSw
    have u3 := d3 wx hSw
    go_simp
    try with_reducible rfl
  try simp only [Act.put, List.setIfInBounds_toArray, List.set_cons_zero, List.set_cons_succ]
  refine wpAnyH_take (i := 8) (oi := ({ dst := some 38, op := Go.Op.slice 9 (Go.Operand.tmp 37) none (some (Go.Operand.const (Go.Value.int Go.IntKind.i64 1))) none, type := 9, pos := "ref.go:129", after := #[{ on := 7, ground := Go.Ground.data }], guard := none } : Go.Oper)) (v := .string ((strB Q.bs).extract 0 1)) rfl (by kernel_rfl) (by kernel_rfl) (by kernel_rfl) (fun _ _ _ h => h) (Or.inl ⟨by rfl, ?_⟩) (by assumption) ?_
  · intro wx hSw
    try dsimp only at hSw
    have u0 := d0 wx hSw
    have u3 := d3 wx hSw
    go_simp
    try with_reducible rfl
  try simp only [Act.put, List.setIfInBounds_toArray, List.set_cons_zero, List.set_cons_succ]
  refine wpAnyH_take (i := 9) (oi := ({ dst := some 2, op := Go.Op.assign (Go.Operand.tmp 33), type := 3, pos := "ref.go:129", after := #[{ on := 3, ground := Go.Ground.data }, { on := 0, ground := Go.Ground.phase }, { on := 1, ground := Go.Ground.phase }, { on := 2, ground := Go.Ground.phase }, { on := 3, ground := Go.Ground.phase }, { on := 4, ground := Go.Ground.textOnly Go.Departure.lateStores }, { on := 5, ground := Go.Ground.textOnly Go.Departure.lateStores }, { on := 6, ground := Go.Ground.textOnly Go.Departure.lateStores }, { on := 7, ground := Go.Ground.textOnly Go.Departure.lateStores }, { on := 8, ground := Go.Ground.textOnly Go.Departure.lateStoresUnsure }], guard := none } : Go.Oper)) (v := .int .i64 Q.left) rfl (by kernel_rfl) (by kernel_rfl) (by kernel_rfl) (fun _ _ _ h => h) (Or.inl ⟨by rfl, ?_⟩) (by assumption) ?_
  · intro wx hSw
    try dsimp only at hSw
    have u0 := d0 wx hSw
    have u3 := d3 wx hSw
    go_simp
    try with_reducible rfl
  try simp only [Act.put, List.setIfInBounds_toArray, List.set_cons_zero, List.set_cons_succ]
  refine wpAnyH_take (i := 10) (oi := ({ dst := some 3, op := Go.Op.assign (Go.Operand.tmp 38), type := 9, pos := "ref.go:129", after := #[{ on := 8, ground := Go.Ground.data }, { on := 9, ground := Go.Ground.chain }, { on := 0, ground := Go.Ground.phase }, { on := 1, ground := Go.Ground.phase }, { on := 2, ground := Go.Ground.phase }, { on := 3, ground := Go.Ground.phase }, { on := 4, ground := Go.Ground.phase }, { on := 5, ground := Go.Ground.phase }, { on := 6, ground := Go.Ground.phase }, { on := 7, ground := Go.Ground.phase }, { on := 8, ground := Go.Ground.phase }, { on := 9, ground := Go.Ground.phase }], guard := none } : Go.Oper)) (v := .string ((strB Q.bs).extract 0 1)) rfl (by kernel_rfl) (by kernel_rfl) (by kernel_rfl) (fun _ _ _ h => h) (Or.inl ⟨by rfl, ?_⟩) (by assumption) ?_
  · intro wx hSw
    try dsimp only at hSw
    have u0 := d0 wx hSw
    have u3 := d3 wx hSw
    go_simp
    try with_reducible rfl
  try simp only [Act.put, List.setIfInBounds_toArray, List.set_cons_zero, List.set_cons_succ]
  refine wpAnyH_done (by kernel_rfl) ?_ _
  rw [HEX.out]
  go_wp2
  go_ret2
  exact ⟨rfl, HX2.out.1.later hHeld, HX2.out.2.later hHeld⟩
end Go.Proofs.Ytlbdecjppgjdiaa
