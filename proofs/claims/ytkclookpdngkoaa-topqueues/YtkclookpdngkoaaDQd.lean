/- send, Next, Probe. -/
import Derived.Test.YtkclookpdngkoaaDQc
namespace Go.Proofs.Ytkclookpdngkoaa.S
open Go.RowKit Go.Maps Go.Lib
set_option maxRecDepth 100000
set_option linter.unusedVariables false
set_option linter.unusedSimpArgs false


def sndN (Q : Qu) (m : Int) : Nat := (max (min ((Q.bs.length : Int) - (Q.sent : Int)) m) 0).toNat
def sndQ (Q : Qu) (m : Int) : Qu := { Q with sent := Q.sent + sndN Q m }
def sndS (Q : Qu) (m : Int) : List UInt8 := (Q.bs.drop Q.sent).take (sndN Q m)
abbrev nxA (Q : Qu) : Int := (Q.left + (Q.sent : Int)) % 4294967296
theorem psOk_mono {n m : Nat} {ps : List Pt} (h : PsOk n ps) (hm : n ≤ m) : PsOk m ps := ⟨h.1, fun e he => ⟨(h.2 e he).1, Nat.le_trans (h.2 e he).2 hm⟩⟩
theorem sndN_le {Q : Qu} (h : Q.Fine) (m : Int) : Q.sent + sndN Q m ≤ Q.bs.length := by have := h.sn; unfold sndN; omega
theorem sndQ_fine {Q : Qu} (h : Q.Fine) (m : Int) : (sndQ Q m).Fine := ⟨h.r0, h.r1, h.l0, h.l1, h.ln, sndN_le h m, psOk_mono h.ok (Nat.le_add_right _ _)⟩
theorem conv_bytes {w : World} {base : Bk} {a : Option Addr} {c : Nat} {bs : List UInt8} (h : BO w base (.slice a bs.length c) bs) {i j : Nat} (hij : i ≤ j) (hj : j ≤ bs.length) :
    ∀ W, (∀ g, (Value.slice a bs.length c).ownBlock = some g → W.heap[g]? = w.heap[g]?) → (convert 50 9 (.slice (if c = i then a else Option.map (fun x => x.add i) a) (j - i) (c - i))).run Try.prog W = .ok (.string (strB ((bs.drop i).take (j - i)))) W := by
  obtain ⟨a', c', hv, h0, hc, hcz⟩ := h.shape
  cases hv
  obtain ⟨v', h1, h2⟩ := cut_bytes h hij hj
  intro W hW
  have h3 := h1 W
  have e : v' = .slice (if c = i then a else Option.map (fun x => x.add i) a) (j - i) (c - i) := by
    have h4 : (Instr.slice 50 (.slice a bs.length c) (some (.int .i64 (i : Int))) (some (.int .i64 (j : Int))) none).run Try.prog W = .ok (.slice (if c = i then a else Option.map (fun x => x.add i) a) (j - i) (c - i)) W := by
      cases a with
      | none =>
        obtain rfl := h0 rfl
        obtain rfl := hcz rfl
        obtain rfl : j = 0 := by simpa using hj
        obtain rfl : i = 0 := by omega
        simp [Instr.slice, Instr.sliceBounds, Instr.sliceBound, asIntOf, run_underlying Try.underlying50, Result.andThen]
      | some A => (simp [Instr.slice, Instr.sliceBounds, Instr.sliceBound, asIntOf, run_underlying Try.underlying50, Try.sizeOf5, Result.andThen, show i ≤ c by omega, show i ≤ bs.length by omega, show j ≤ c by omega, hij]; try (split <;> simp [*]))
    rw [h4] at h3
    injection h3 with h3
    exact h3.symm
  rw [← e]
  exact h2 W hW
set_option maxHeartbeats 1000000 in
theorem send_any {w : World} {R : Bk} {q : Nat} {Q : Qu} {vb vp : Value} (h : QX w R q Q vb vp) (hf : Q.Fine) (m : Int) :
    Calls Try.prog 19 #[PQ q, .int .i64 m] w fun e w' => e = .returned (.tuple #[.int .i64 (nxA Q), .string (strB (sndS Q m))]) ∧ QX w' R q (sndQ Q m) vb vp ∧ TK R w w' := by
  obtain ⟨sN, hsN⟩ : ∃ x, x = Q.sent + sndN Q m := ⟨_, rfl⟩
  have HS : Hid (((Q.sent : Int) + max (min ((Q.bs.length : Int) - (Q.sent : Int)) m) 0) = (sN : Int)) := by show _ = _; rw [hsN]; unfold sndN; omega
  have hle := sndN_le hf m
  have hb1 : (Q.bs.length : Int) ≤ 65536 := by have := hf.ln; have := hf.r1; omega
  have hfs : (Q.sent : Int) ≤ 65536 := by have := hf.sn; omega
  have hw1 : IntKind.i64.wrap ((Q.bs.length : Int) - (Q.sent : Int)) = (Q.bs.length : Int) - (Q.sent : Int) := by rw [IntKind.wrap_i64] <;> omega
  have hw2 : IntKind.i64.wrap ((Q.sent : Int) + max (min ((Q.bs.length : Int) - (Q.sent : Int)) m) 0) = (Q.sent : Int) + max (min ((Q.bs.length : Int) - (Q.sent : Int)) m) 0 := by have := hf.sn; rw [IntKind.wrap_i64] <;> omega
  have HX : Hid (QX w R q Q vb vp) := h
  obtain ⟨a, c, rfl, h0, hcl, hcz⟩ := h.bo.shape
  obtain ⟨⟨c0, c1, c2, c3, c4⟩, f0, f1, f2, f3, f4⟩ := h.at5.five
  have hX2 : QX (w.setCell ⟨q, 2, none⟩ (.int .i64 (sN : Int))).drew R q (sndQ Q m) (.slice a Q.bs.length c) vp := by
    have hd := h.later (w' := w.drew) (Below.refl _ _).drew
    have hk : QX (w.drew.setCell ⟨q, 2, none⟩ (.int .i64 (sN : Int))) R q (sndQ Q m) (.slice a Q.bs.length c) vp := ⟨by have := hd.at5.set 2 (.int .i64 (sN : Int)); rw [hsN] at this ⊢; exact this, hd.kd.set _ _, hd.ge, row_set hd.bo hd.kd (by decide) _ _, row_set hd.po hd.kd (by decide) _ _⟩
    exact hk
  have ht2 : TK R w (w.setCell ⟨q, 2, none⟩ (.int .i64 (sN : Int))).drew := TY.undrew (TY.set (w := w.drew) (h.later (w' := w.drew) (Below.refl _ _).drew).kd (by decide) h.ge _ _)
  have hnum : ∀ W, QX W R q (sndQ Q m) (.slice a Q.bs.length c) vp → Calls Try.prog 21 #[PQ q, .int .i64 (Q.sent : Int)] W fun e w' => e = .returned (.int .i64 (nxA Q)) ∧ w' = W := fun W hW => number_any hW (sndQ_fine hf m) Q.sent (by have := hf.sn; omega)
  have hcv := conv_bytes (w := (w.setCell ⟨q, 2, none⟩ (.int .i64 (sN : Int))).drew) (bs := Q.bs) hX2.bo (i := Q.sent) (j := sN) (by omega) (by omega)
  have hes : (Q.bs.drop Q.sent).take (sN - Q.sent) = sndS Q m := by rw [hsN, Nat.add_sub_cancel_left]; rfl
  rw [hes] at hcv
  have hij : Q.sent ≤ sN := by omega
  have hjc : sN ≤ c := by omega
  have hjc' : (sN : Int) ≤ (c : Int) := by omega
  have hic : Q.sent ≤ c := by omega
  have hs2 : (sndQ Q m).sent = sN := hsN.symm
  clear h hf hes hsN h0 hcz hle
  go_enter Try.func19, Try.ntmps19
  go_upto_region 2 with fail
  refine wp_region_held_drew (S := (fun W => W.cell? ⟨q, 3, none⟩ = some (.slice a Q.bs.length c))) (by kernel_rfl) ?_ (fun hHeld => ?_)
  · first | exact c3 | assumption
  refine wpAnyH_take (i := 0) (oi := ({ dst := some 11, op := Go.Op.move (Go.Operand.tmp 0), type := 24, pos := "sendq.go:125", after := #[], guard := none } : Go.Oper)) (v := .pointer (some ⟨q, 0, none⟩)) rfl (by kernel_rfl) (by kernel_rfl) (by kernel_rfl) (fun _ _ _ h => h) (Or.inl ⟨by rfl, ?_⟩) (by assumption) ?_
  · intro wx hSw
    try dsimp only at hSw
    have u3 := hSw
    go_simp
    try with_reducible rfl
  try simp only [Act.put, List.setIfInBounds_toArray, List.set_cons_zero, List.set_cons_succ]
  refine wpAnyH_take (i := 1) (oi := ({ dst := some 12, op := Go.Op.nilCheck (Go.Operand.tmp 11), type := 0, pos := "sendq.go:125", after := #[{ on := 0, ground := Go.Ground.data }], guard := none } : Go.Oper)) (v := .pointer (some ⟨q, 0, none⟩)) rfl (by kernel_rfl) (by kernel_rfl) (by kernel_rfl) (fun _ _ _ h => h) (Or.inl ⟨by rfl, ?_⟩) (by assumption) ?_
  · intro wx hSw
    try dsimp only at hSw
    have u3 := hSw
    go_simp
    try with_reducible rfl
  try simp only [Act.put, List.setIfInBounds_toArray, List.set_cons_zero, List.set_cons_succ]
  refine wpAnyH_take (i := 2) (oi := ({ dst := some 13, op := Go.Op.fieldAddr 53 (Go.Operand.tmp 12) 2, type := 0, pos := "sendq.go:125", after := #[{ on := 1, ground := Go.Ground.data }], guard := none } : Go.Oper)) (v := .pointer (some ⟨q, 2, none⟩)) rfl (by kernel_rfl) (by kernel_rfl) (by kernel_rfl) (fun _ _ _ h => h) (Or.inl ⟨by rfl, ?_⟩) (by assumption) ?_
  · intro wx hSw
    try dsimp only at hSw
    have u3 := hSw
    go_simp
    try with_reducible rfl
  try simp only [Act.put, List.setIfInBounds_toArray, List.set_cons_zero, List.set_cons_succ]
  refine wpAnyH_take (i := 4) (oi := ({ dst := some 15, op := Go.Op.move (Go.Operand.tmp 0), type := 24, pos := "sendq.go:125", after := #[], guard := none } : Go.Oper)) (v := .pointer (some ⟨q, 0, none⟩)) rfl (by kernel_rfl) (by kernel_rfl) (by kernel_rfl) (fun _ _ _ h => h) (Or.inl ⟨by rfl, ?_⟩) (by assumption) ?_
  · intro wx hSw
    try dsimp only at hSw
    have u3 := hSw
    go_simp
    try with_reducible rfl
  try simp only [Act.put, List.setIfInBounds_toArray, List.set_cons_zero, List.set_cons_succ]
  refine wpAnyH_take (i := 5) (oi := ({ dst := some 16, op := Go.Op.nilCheck (Go.Operand.tmp 15), type := 0, pos := "sendq.go:125", after := #[{ on := 4, ground := Go.Ground.data }], guard := none } : Go.Oper)) (v := .pointer (some ⟨q, 0, none⟩)) rfl (by kernel_rfl) (by kernel_rfl) (by kernel_rfl) (fun _ _ _ h => h) (Or.inl ⟨by rfl, ?_⟩) (by assumption) ?_
  · intro wx hSw
    try dsimp only at hSw
    have u3 := hSw
    go_simp
    try with_reducible rfl
  try simp only [Act.put, List.setIfInBounds_toArray, List.set_cons_zero, List.set_cons_succ]
  refine wpAnyH_take (i := 6) (oi := ({ dst := some 17, op := Go.Op.fieldAddr 53 (Go.Operand.tmp 16) 3, type := 0, pos := "sendq.go:125", after := #[{ on := 5, ground := Go.Ground.data }], guard := none } : Go.Oper)) (v := .pointer (some ⟨q, 3, none⟩)) rfl (by kernel_rfl) (by kernel_rfl) (by kernel_rfl) (fun _ _ _ h => h) (Or.inl ⟨by rfl, ?_⟩) (by assumption) ?_
  · intro wx hSw
    try dsimp only at hSw
    have u3 := hSw
    go_simp
    try with_reducible rfl
  try simp only [Act.put, List.setIfInBounds_toArray, List.set_cons_zero, List.set_cons_succ]
  refine wpAnyH_take (i := 7) (oi := ({ dst := some 18, op := Go.Op.load 50 (Go.Operand.tmp 17), type := 50, pos := "sendq.go:125", after := #[{ on := 6, ground := Go.Ground.data }], guard := none } : Go.Oper)) (v := .slice a Q.bs.length c) rfl (by kernel_rfl) (by kernel_rfl) (by kernel_rfl) (fun _ _ _ h => h) (Or.inl ⟨by rfl, ?_⟩) (by assumption) ?_
  · intro wx hSw
    try dsimp only at hSw
    have u3 := hSw
    go_simp
    try with_reducible rfl
  try simp only [Act.put, List.setIfInBounds_toArray, List.set_cons_zero, List.set_cons_succ]
  refine wpAnyH_take (i := 8) (oi := ({ dst := some 19, op := Go.Op.call { callee := Go.Callee.builtin Go.Builtin.len, args := #[Go.Operand.tmp 18], argTypes := #[50] }, type := 3, pos := "sendq.go:125", after := #[{ on := 7, ground := Go.Ground.data }], guard := none } : Go.Oper)) (v := .int .i64 (Q.bs.length : Int)) rfl (by kernel_rfl) (by kernel_rfl) (by kernel_rfl) (fun _ _ _ h => h) (Or.inl ⟨by rfl, ?_⟩) (by assumption) ?_
  · intro wx hSw
    try dsimp only at hSw
    have u3 := hSw
    go_simp
    try with_reducible rfl
  try simp only [Act.put, List.setIfInBounds_toArray, List.set_cons_zero, List.set_cons_succ]
  refine wpAnyH_take (i := 9) (oi := ({ dst := some 20, op := Go.Op.move (Go.Operand.tmp 6), type := 3, pos := "sendq.go:125", after := #[], guard := none } : Go.Oper)) (v := .int .i64 (Q.sent : Int)) rfl (by kernel_rfl) (by kernel_rfl) (by kernel_rfl) (fun _ _ _ h => h) (Or.inl ⟨by rfl, ?_⟩) (by assumption) ?_
  · intro wx hSw
    try dsimp only at hSw
    have u3 := hSw
    go_simp
    try with_reducible rfl
  try simp only [Act.put, List.setIfInBounds_toArray, List.set_cons_zero, List.set_cons_succ]
  refine wpAnyH_take (i := 10) (oi := ({ dst := some 21, op := Go.Op.binOp Go.BinOp.sub 3 (Go.Operand.tmp 19) (Go.Operand.tmp 20) 3, type := 3, pos := "sendq.go:125", after := #[{ on := 8, ground := Go.Ground.data }, { on := 9, ground := Go.Ground.data }], guard := none } : Go.Oper)) (v := .int .i64 ((Q.bs.length : Int) - (Q.sent : Int))) rfl (by kernel_rfl) (by kernel_rfl) (by kernel_rfl) (fun _ _ _ h => h) (Or.inl ⟨by rfl, ?_⟩) (by assumption) ?_
  · intro wx hSw
    try dsimp only at hSw
    have u3 := hSw
    go_simp
    try with_reducible rfl
  try simp only [Act.put, List.setIfInBounds_toArray, List.set_cons_zero, List.set_cons_succ]
  refine wpAnyH_take (i := 11) (oi := ({ dst := some 22, op := Go.Op.move (Go.Operand.tmp 1), type := 3, pos := "sendq.go:125", after := #[], guard := none } : Go.Oper)) (v := .int .i64 m) rfl (by kernel_rfl) (by kernel_rfl) (by kernel_rfl) (fun _ _ _ h => h) (Or.inl ⟨by rfl, ?_⟩) (by assumption) ?_
  · intro wx hSw
    try dsimp only at hSw
    have u3 := hSw
    go_simp
    try with_reducible rfl
  try simp only [Act.put, List.setIfInBounds_toArray, List.set_cons_zero, List.set_cons_succ]
  refine wpAnyH_take (i := 12) (oi := ({ dst := some 23, op := Go.Op.call { callee := Go.Callee.builtin Go.Builtin.min, args := #[Go.Operand.tmp 21, Go.Operand.tmp 22], argTypes := #[3, 3] }, type := 3, pos := "sendq.go:125", after := #[{ on := 10, ground := Go.Ground.data }, { on := 11, ground := Go.Ground.data }], guard := none } : Go.Oper)) (v := .int .i64 (min ((Q.bs.length : Int) - (Q.sent : Int)) m)) rfl (by kernel_rfl) (by kernel_rfl) (by kernel_rfl) (fun _ _ _ h => h) (Or.inl ⟨by rfl, ?_⟩) (by assumption) ?_
  · intro wx hSw
    try dsimp only at hSw
    have u3 := hSw
    go_simp
    try with_reducible rfl
  try simp only [Act.put, List.setIfInBounds_toArray, List.set_cons_zero, List.set_cons_succ]
  refine wpAnyH_take (i := 13) (oi := ({ dst := some 24, op := Go.Op.call { callee := Go.Callee.builtin Go.Builtin.max, args := #[Go.Operand.tmp 23, Go.Operand.const (Go.Value.int Go.IntKind.i64 0)], argTypes := #[3, 3] }, type := 3, pos := "sendq.go:125", after := #[{ on := 12, ground := Go.Ground.data }], guard := none } : Go.Oper)) (v := .int .i64 (max (min ((Q.bs.length : Int) - (Q.sent : Int)) m) 0)) rfl (by kernel_rfl) (by kernel_rfl) (by kernel_rfl) (fun _ _ _ h => h) (Or.inl ⟨by rfl, ?_⟩) (by assumption) ?_
  · intro wx hSw
    try dsimp only at hSw
    have u3 := hSw
    go_simp
    try with_reducible rfl
  try simp only [Act.put, List.setIfInBounds_toArray, List.set_cons_zero, List.set_cons_succ]
  refine wpAnyH_ready (rs := [3]) (by kernel_rfl) (by simp) ?_
  refine AllReadyH.cons (o := ({ dst := some 14, op := Go.Op.load 3 (Go.Operand.tmp 13), type := 3, pos := "sendq.go:125", after := #[{ on := 2, ground := Go.Ground.data }], guard := none } : Go.Oper)) rfl (fun K hK => ?_) AllReadyH.nil
  have u2 : w.drew.cell? ⟨q, 2, none⟩ = some (.int .i64 (Q.sent : Int)) := c2
  go_simp
  refine hK.out _ _ hHeld (fun hHeld => ?_)
  clear hK K
  try simp only [Act.put, List.setIfInBounds_toArray, List.set_cons_zero, List.set_cons_succ]
  refine wpAnyH_take (i := 14) (oi := ({ dst := some 25, op := Go.Op.binOp Go.BinOp.add 3 (Go.Operand.tmp 14) (Go.Operand.tmp 24) 3, type := 3, pos := "sendq.go:125", after := #[{ on := 3, ground := Go.Ground.data }, { on := 13, ground := Go.Ground.data }], guard := none } : Go.Oper)) (v := .int .i64 ((Q.sent : Int) + max (min ((Q.bs.length : Int) - (Q.sent : Int)) m) 0)) rfl (by kernel_rfl) (by kernel_rfl) (by kernel_rfl) (fun _ _ _ h => h) (Or.inl ⟨by rfl, ?_⟩) (by assumption) ?_
  · intro wx hSw
    try dsimp only at hSw
    have u3 := hSw
    go_simp
    try with_reducible rfl
  try simp only [Act.put, List.setIfInBounds_toArray, List.set_cons_zero, List.set_cons_succ]
  refine wpAnyH_take (i := 15) (oi := ({ dst := some 26, op := Go.Op.nilCheck (Go.Operand.tmp 11), type := 0, pos := "sendq.go:125", after := #[{ on := 0, ground := Go.Ground.data }, { on := 0, ground := Go.Ground.phase }, { on := 1, ground := Go.Ground.phase }, { on := 2, ground := Go.Ground.phase }, { on := 3, ground := Go.Ground.phase }, { on := 4, ground := Go.Ground.phase }, { on := 5, ground := Go.Ground.phase }, { on := 6, ground := Go.Ground.phase }, { on := 7, ground := Go.Ground.phase }, { on := 8, ground := Go.Ground.phase }, { on := 9, ground := Go.Ground.phase }, { on := 10, ground := Go.Ground.phase }, { on := 11, ground := Go.Ground.phase }, { on := 12, ground := Go.Ground.phase }, { on := 13, ground := Go.Ground.phase }, { on := 14, ground := Go.Ground.phase }], guard := none } : Go.Oper)) (v := .pointer (some ⟨q, 0, none⟩)) rfl (by kernel_rfl) (by kernel_rfl) (by kernel_rfl) (fun _ _ _ h => h) (Or.inl ⟨by rfl, ?_⟩) (by assumption) ?_
  · intro wx hSw
    try dsimp only at hSw
    have u3 := hSw
    go_simp
    try with_reducible rfl
  try simp only [Act.put, List.setIfInBounds_toArray, List.set_cons_zero, List.set_cons_succ]
  refine wpAnyH_take (i := 16) (oi := ({ dst := some 27, op := Go.Op.fieldAddr 53 (Go.Operand.tmp 26) 2, type := 0, pos := "sendq.go:125", after := #[{ on := 15, ground := Go.Ground.data }, { on := 0, ground := Go.Ground.phase }, { on := 1, ground := Go.Ground.phase }, { on := 2, ground := Go.Ground.phase }, { on := 3, ground := Go.Ground.phase }, { on := 4, ground := Go.Ground.phase }, { on := 5, ground := Go.Ground.phase }, { on := 6, ground := Go.Ground.phase }, { on := 7, ground := Go.Ground.phase }, { on := 8, ground := Go.Ground.phase }, { on := 9, ground := Go.Ground.phase }, { on := 10, ground := Go.Ground.phase }, { on := 11, ground := Go.Ground.phase }, { on := 12, ground := Go.Ground.phase }, { on := 13, ground := Go.Ground.phase }, { on := 14, ground := Go.Ground.phase }], guard := none } : Go.Oper)) (v := .pointer (some ⟨q, 2, none⟩)) rfl (by kernel_rfl) (by kernel_rfl) (by kernel_rfl) (fun _ _ _ h => h) (Or.inl ⟨by rfl, ?_⟩) (by assumption) ?_
  · intro wx hSw
    try dsimp only at hSw
    have u3 := hSw
    go_simp
    try with_reducible rfl
  try simp only [Act.put, List.setIfInBounds_toArray, List.set_cons_zero, List.set_cons_succ]
  refine wpAnyH_ready (rs := [17]) (by kernel_rfl) (by simp) ?_
  refine AllReadyH.cons (o := ({ dst := none, op := Go.Op.store 3 (Go.Operand.tmp 27) (Go.Operand.tmp 25), type := 0, pos := "sendq.go:125", after := #[{ on := 16, ground := Go.Ground.data }, { on := 14, ground := Go.Ground.data }, { on := 0, ground := Go.Ground.phase }, { on := 1, ground := Go.Ground.phase }, { on := 2, ground := Go.Ground.phase }, { on := 3, ground := Go.Ground.phase }, { on := 4, ground := Go.Ground.phase }, { on := 5, ground := Go.Ground.phase }, { on := 6, ground := Go.Ground.phase }, { on := 7, ground := Go.Ground.phase }, { on := 8, ground := Go.Ground.phase }, { on := 9, ground := Go.Ground.phase }, { on := 10, ground := Go.Ground.phase }, { on := 11, ground := Go.Ground.phase }, { on := 12, ground := Go.Ground.phase }, { on := 13, ground := Go.Ground.phase }, { on := 14, ground := Go.Ground.phase }], guard := none } : Go.Oper)) rfl (fun K hK => ?_) AllReadyH.nil
  have u2 : w.drew.cell? ⟨q, 2, none⟩ = some (.int .i64 (Q.sent : Int)) := c2
  have u3 : w.drew.frozen? ⟨q, 2, none⟩ = false := f2
  go_simp
  refine hK.out _ _ ((World.cell?_setCell_other _ _ _ _ (by intro e; cases e)).trans c3) (fun hHeld => ?_)
  clear hK K
  try simp only [Act.put, List.setIfInBounds_toArray, List.set_cons_zero, List.set_cons_succ]
  refine wpAnyH_done (by kernel_rfl) ?_ _
  simp only [HS.out]
  generalize (w.setCell ⟨q, 2, none⟩ (.int .i64 (sN : Int))).drew = w2 at *
  have hown : ∀ W, Below w2.heap.size w2 W → (convert 50 9 (.slice (if c = Q.sent then a else Option.map (fun x => x.add Q.sent) a) (sN - Q.sent) (c - Q.sent))).run Try.prog W = .ok (.string (strB (sndS Q m))) W := fun W hW => hcv W (fun g hg => hW.block g (row_kd hX2.bo g hg).2.lt)
  obtain ⟨⟨d0, d1, d2, d3, d4⟩, -⟩ := hX2.at5.five
  rw [hs2] at d2
  have hd2 : ∀ W, Below w2.heap.size w2 W → W.cell? ⟨q, 2, none⟩ = some (.int .i64 (sN : Int)) := fun W hW => later hW d2
  have hd3 : ∀ W, Below w2.heap.size w2 W → W.cell? ⟨q, 3, none⟩ = some (.slice a Q.bs.length c) := fun W hW => later hW d3
  clear hs2 d0 d1 d2 d3 d4 hcv
  go_upto_region 3 with fail
  refine wp_region_held_drew (S := (fun W => Below w2.heap.size w2 W)) (by kernel_rfl) ?_ (fun hHeld => ?_)
  · first | exact (Below.refl _ _).drew | assumption
  refine wpAnyH_take (i := 0) (oi := ({ dst := some 28, op := Go.Op.move (Go.Operand.tmp 0), type := 24, pos := "sendq.go:126", after := #[], guard := none } : Go.Oper)) (v := .pointer (some ⟨q, 0, none⟩)) rfl (by kernel_rfl) (by kernel_rfl) (by kernel_rfl) (fun _ _ _ h => h) (Or.inl ⟨by rfl, ?_⟩) (by assumption) ?_
  · intro wx hSw
    try dsimp only at hSw
    have u2 := hd2 wx hSw
    have u3 := hd3 wx hSw
    have u4 := hown wx hSw
    go_simp
    try with_reducible rfl
  try simp only [Act.put, List.setIfInBounds_toArray, List.set_cons_zero, List.set_cons_succ]
  refine wpAnyH_take (i := 1) (oi := ({ dst := some 29, op := Go.Op.move (Go.Operand.tmp 6), type := 3, pos := "sendq.go:126", after := #[], guard := none } : Go.Oper)) (v := .int .i64 (Q.sent : Int)) rfl (by kernel_rfl) (by kernel_rfl) (by kernel_rfl) (fun _ _ _ h => h) (Or.inl ⟨by rfl, ?_⟩) (by assumption) ?_
  · intro wx hSw
    try dsimp only at hSw
    have u2 := hd2 wx hSw
    have u3 := hd3 wx hSw
    have u4 := hown wx hSw
    go_simp
    try with_reducible rfl
  try simp only [Act.put, List.setIfInBounds_toArray, List.set_cons_zero, List.set_cons_succ]
  refine wpAnyH_take (i := 3) (oi := ({ dst := some 31, op := Go.Op.move (Go.Operand.tmp 0), type := 24, pos := "sendq.go:126", after := #[], guard := none } : Go.Oper)) (v := .pointer (some ⟨q, 0, none⟩)) rfl (by kernel_rfl) (by kernel_rfl) (by kernel_rfl) (fun _ _ _ h => h) (Or.inl ⟨by rfl, ?_⟩) (by assumption) ?_
  · intro wx hSw
    try dsimp only at hSw
    have u2 := hd2 wx hSw
    have u3 := hd3 wx hSw
    have u4 := hown wx hSw
    go_simp
    try with_reducible rfl
  try simp only [Act.put, List.setIfInBounds_toArray, List.set_cons_zero, List.set_cons_succ]
  refine wpAnyH_take (i := 4) (oi := ({ dst := some 32, op := Go.Op.nilCheck (Go.Operand.tmp 31), type := 0, pos := "sendq.go:126", after := #[{ on := 3, ground := Go.Ground.data }], guard := none } : Go.Oper)) (v := .pointer (some ⟨q, 0, none⟩)) rfl (by kernel_rfl) (by kernel_rfl) (by kernel_rfl) (fun _ _ _ h => h) (Or.inl ⟨by rfl, ?_⟩) (by assumption) ?_
  · intro wx hSw
    try dsimp only at hSw
    have u2 := hd2 wx hSw
    have u3 := hd3 wx hSw
    have u4 := hown wx hSw
    go_simp
    try with_reducible rfl
  try simp only [Act.put, List.setIfInBounds_toArray, List.set_cons_zero, List.set_cons_succ]
  refine wpAnyH_take (i := 5) (oi := ({ dst := some 33, op := Go.Op.fieldAddr 53 (Go.Operand.tmp 32) 3, type := 0, pos := "sendq.go:126", after := #[{ on := 4, ground := Go.Ground.data }], guard := none } : Go.Oper)) (v := .pointer (some ⟨q, 3, none⟩)) rfl (by kernel_rfl) (by kernel_rfl) (by kernel_rfl) (fun _ _ _ h => h) (Or.inl ⟨by rfl, ?_⟩) (by assumption) ?_
  · intro wx hSw
    try dsimp only at hSw
    have u2 := hd2 wx hSw
    have u3 := hd3 wx hSw
    have u4 := hown wx hSw
    go_simp
    try with_reducible rfl
  try simp only [Act.put, List.setIfInBounds_toArray, List.set_cons_zero, List.set_cons_succ]
  refine wpAnyH_take (i := 6) (oi := ({ dst := some 34, op := Go.Op.load 50 (Go.Operand.tmp 33), type := 50, pos := "sendq.go:126", after := #[{ on := 5, ground := Go.Ground.data }], guard := none } : Go.Oper)) (v := .slice a Q.bs.length c) rfl (by kernel_rfl) (by kernel_rfl) (by kernel_rfl) (fun _ _ _ h => h) (Or.inl ⟨by rfl, ?_⟩) (by assumption) ?_
  · intro wx hSw
    try dsimp only at hSw
    have u2 := hd2 wx hSw
    have u3 := hd3 wx hSw
    have u4 := hown wx hSw
    go_simp
    try with_reducible rfl
  try simp only [Act.put, List.setIfInBounds_toArray, List.set_cons_zero, List.set_cons_succ]
  refine wpAnyH_take (i := 7) (oi := ({ dst := some 35, op := Go.Op.move (Go.Operand.tmp 6), type := 3, pos := "sendq.go:126", after := #[], guard := none } : Go.Oper)) (v := .int .i64 (Q.sent : Int)) rfl (by kernel_rfl) (by kernel_rfl) (by kernel_rfl) (fun _ _ _ h => h) (Or.inl ⟨by rfl, ?_⟩) (by assumption) ?_
  · intro wx hSw
    try dsimp only at hSw
    have u2 := hd2 wx hSw
    have u3 := hd3 wx hSw
    have u4 := hown wx hSw
    go_simp
    try with_reducible rfl
  try simp only [Act.put, List.setIfInBounds_toArray, List.set_cons_zero, List.set_cons_succ]
  refine wpAnyH_take (i := 8) (oi := ({ dst := some 36, op := Go.Op.move (Go.Operand.tmp 0), type := 24, pos := "sendq.go:126", after := #[], guard := none } : Go.Oper)) (v := .pointer (some ⟨q, 0, none⟩)) rfl (by kernel_rfl) (by kernel_rfl) (by kernel_rfl) (fun _ _ _ h => h) (Or.inl ⟨by rfl, ?_⟩) (by assumption) ?_
  · intro wx hSw
    try dsimp only at hSw
    have u2 := hd2 wx hSw
    have u3 := hd3 wx hSw
    have u4 := hown wx hSw
    go_simp
    try with_reducible rfl
  try simp only [Act.put, List.setIfInBounds_toArray, List.set_cons_zero, List.set_cons_succ]
  refine wpAnyH_take (i := 9) (oi := ({ dst := some 37, op := Go.Op.nilCheck (Go.Operand.tmp 36), type := 0, pos := "sendq.go:126", after := #[{ on := 8, ground := Go.Ground.data }], guard := none } : Go.Oper)) (v := .pointer (some ⟨q, 0, none⟩)) rfl (by kernel_rfl) (by kernel_rfl) (by kernel_rfl) (fun _ _ _ h => h) (Or.inl ⟨by rfl, ?_⟩) (by assumption) ?_
  · intro wx hSw
    try dsimp only at hSw
    have u2 := hd2 wx hSw
    have u3 := hd3 wx hSw
    have u4 := hown wx hSw
    go_simp
    try with_reducible rfl
  try simp only [Act.put, List.setIfInBounds_toArray, List.set_cons_zero, List.set_cons_succ]
  refine wpAnyH_take (i := 10) (oi := ({ dst := some 38, op := Go.Op.fieldAddr 53 (Go.Operand.tmp 37) 2, type := 0, pos := "sendq.go:126", after := #[{ on := 9, ground := Go.Ground.data }], guard := none } : Go.Oper)) (v := .pointer (some ⟨q, 2, none⟩)) rfl (by kernel_rfl) (by kernel_rfl) (by kernel_rfl) (fun _ _ _ h => h) (Or.inl ⟨by rfl, ?_⟩) (by assumption) ?_
  · intro wx hSw
    try dsimp only at hSw
    have u2 := hd2 wx hSw
    have u3 := hd3 wx hSw
    have u4 := hown wx hSw
    go_simp
    try with_reducible rfl
  try simp only [Act.put, List.setIfInBounds_toArray, List.set_cons_zero, List.set_cons_succ]
  refine wpAnyH_take (i := 11) (oi := ({ dst := some 39, op := Go.Op.load 3 (Go.Operand.tmp 38), type := 3, pos := "sendq.go:126", after := #[{ on := 10, ground := Go.Ground.data }], guard := none } : Go.Oper)) (v := .int .i64 (sN : Int)) rfl (by kernel_rfl) (by kernel_rfl) (by kernel_rfl) (fun _ _ _ h => h) (Or.inl ⟨by rfl, ?_⟩) (by assumption) ?_
  · intro wx hSw
    try dsimp only at hSw
    have u2 := hd2 wx hSw
    have u3 := hd3 wx hSw
    have u4 := hown wx hSw
    go_simp
    try with_reducible rfl
  try simp only [Act.put, List.setIfInBounds_toArray, List.set_cons_zero, List.set_cons_succ]
  refine wpAnyH_take (i := 12) (oi := ({ dst := some 40, op := Go.Op.slice 50 (Go.Operand.tmp 34) (some (Go.Operand.tmp 35)) (some (Go.Operand.tmp 39)) none, type := 50, pos := "sendq.go:126", after := #[{ on := 6, ground := Go.Ground.data }, { on := 7, ground := Go.Ground.data }, { on := 11, ground := Go.Ground.data }], guard := none } : Go.Oper)) (v := .slice (if c = Q.sent then a else Option.map (fun x => x.add Q.sent) a) (sN - Q.sent) (c - Q.sent)) rfl (by kernel_rfl) (by kernel_rfl) (by kernel_rfl) (fun _ _ _ h => h) (Or.inl ⟨by rfl, ?_⟩) (by assumption) ?_
  · intro wx hSw
    try dsimp only at hSw
    have u2 := hd2 wx hSw
    have u3 := hd3 wx hSw
    have u4 := hown wx hSw
    go_simp
    try with_reducible rfl
  try simp only [Act.put, List.setIfInBounds_toArray, List.set_cons_zero, List.set_cons_succ]
  refine wpAnyH_take (i := 13) (oi := ({ dst := some 41, op := Go.Op.convert 50 9 (Go.Operand.tmp 40), type := 9, pos := "sendq.go:126", after := #[{ on := 12, ground := Go.Ground.data }, { on := 14, ground := Go.Ground.gcOnly Go.Departure.lateStores }], guard := none } : Go.Oper)) (v := .string (strB (sndS Q m))) rfl (by kernel_rfl) (by kernel_rfl) (by kernel_rfl) (fun _ _ _ h => h) (Or.inl ⟨by rfl, ?_⟩) (by assumption) ?_
  · intro wx hSw
    try dsimp only at hSw
    have u2 := hd2 wx hSw
    have u3 := hd3 wx hSw
    have u4 := hown wx hSw
    go_simp
    try with_reducible rfl
  try simp only [Act.put, List.setIfInBounds_toArray, List.set_cons_zero, List.set_cons_succ]
  refine wpAnyH_ready (rs := [2]) (by kernel_rfl) (by simp) ?_
  refine AllReadyH.cons (o := ({ dst := some 30, op := Go.Op.call { callee := Go.Callee.value (Go.Operand.func 21), args := #[Go.Operand.tmp 28, Go.Operand.tmp 29], argTypes := #[24, 3] }, type := 3, pos := "sendq.go:126", after := #[{ on := 0, ground := Go.Ground.data }, { on := 1, ground := Go.Ground.data }], guard := none } : Go.Oper)) rfl (fun K hK => ?_) AllReadyH.nil
  go_simp
  refine (hnum _ (hX2.later hHeld)).mono ?_
  rintro e wk ⟨rfl, rfl⟩
  refine hK.out _ _ hHeld (fun hHeld => ?_)
  clear hK K
  try simp only [Act.put, List.setIfInBounds_toArray, List.set_cons_zero, List.set_cons_succ]
  refine wpAnyH_take (i := 14) (oi := ({ dst := some 4, op := Go.Op.assign (Go.Operand.tmp 30), type := 3, pos := "sendq.go:126", after := #[{ on := 2, ground := Go.Ground.data }, { on := 2, ground := Go.Ground.chain }, { on := 0, ground := Go.Ground.phase }, { on := 1, ground := Go.Ground.phase }, { on := 2, ground := Go.Ground.phase }, { on := 3, ground := Go.Ground.textOnly Go.Departure.lateStores }, { on := 4, ground := Go.Ground.textOnly Go.Departure.lateStores }, { on := 5, ground := Go.Ground.textOnly Go.Departure.lateStores }, { on := 6, ground := Go.Ground.textOnly Go.Departure.lateStores }, { on := 7, ground := Go.Ground.textOnly Go.Departure.lateStores }, { on := 8, ground := Go.Ground.textOnly Go.Departure.lateStores }, { on := 9, ground := Go.Ground.textOnly Go.Departure.lateStores }, { on := 10, ground := Go.Ground.textOnly Go.Departure.lateStores }, { on := 11, ground := Go.Ground.textOnly Go.Departure.lateStores }, { on := 12, ground := Go.Ground.textOnly Go.Departure.lateStoresUnsure }, { on := 13, ground := Go.Ground.textOnly Go.Departure.lateStores }], guard := none } : Go.Oper)) (v := .int .i64 (nxA Q)) rfl (by kernel_rfl) (by kernel_rfl) (by kernel_rfl) (fun _ _ _ h => h) (Or.inl ⟨by rfl, ?_⟩) (by assumption) ?_
  · intro wx hSw
    try dsimp only at hSw
    have u2 := hd2 wx hSw
    have u3 := hd3 wx hSw
    have u4 := hown wx hSw
    go_simp
    try with_reducible rfl
  try simp only [Act.put, List.setIfInBounds_toArray, List.set_cons_zero, List.set_cons_succ]
  refine wpAnyH_take (i := 15) (oi := ({ dst := some 5, op := Go.Op.assign (Go.Operand.tmp 41), type := 9, pos := "sendq.go:126", after := #[{ on := 13, ground := Go.Ground.data }, { on := 14, ground := Go.Ground.chain }, { on := 0, ground := Go.Ground.phase }, { on := 1, ground := Go.Ground.phase }, { on := 2, ground := Go.Ground.phase }, { on := 3, ground := Go.Ground.phase }, { on := 4, ground := Go.Ground.phase }, { on := 5, ground := Go.Ground.phase }, { on := 6, ground := Go.Ground.phase }, { on := 7, ground := Go.Ground.phase }, { on := 8, ground := Go.Ground.phase }, { on := 9, ground := Go.Ground.phase }, { on := 10, ground := Go.Ground.phase }, { on := 11, ground := Go.Ground.phase }, { on := 12, ground := Go.Ground.phase }, { on := 13, ground := Go.Ground.phase }, { on := 14, ground := Go.Ground.phase }], guard := none } : Go.Oper)) (v := .string (strB (sndS Q m))) rfl (by kernel_rfl) (by kernel_rfl) (by kernel_rfl) (fun _ _ _ h => h) (Or.inl ⟨by rfl, ?_⟩) (by assumption) ?_
  · intro wx hSw
    try dsimp only at hSw
    have u2 := hd2 wx hSw
    have u3 := hd3 wx hSw
    have u4 := hown wx hSw
    go_simp
    try with_reducible rfl
  try simp only [Act.put, List.setIfInBounds_toArray, List.set_cons_zero, List.set_cons_succ]
  refine wpAnyH_done (by kernel_rfl) ?_ _
  generalize Value.slice (if c = Q.sent then a else Option.map (fun x => x.add Q.sent) a) (sN - Q.sent) (c - Q.sent) = vcut
  go_wp2
  go_ret2
  exact ⟨rfl, hX2.later hHeld, ht2.later hHeld⟩

theorem next_any {w : World} {R : Bk} {q : Nat} {Q : Qu} {vb vp : Value} (h : QX w R q Q vb vp) (hf : Q.Fine) (win m : Int) (hwin : win ≤ 9223372036854775807) (hm : -9223372036854775808 ≤ m) :
    Calls Try.prog 9 #[PQ q, .int .i64 win, .int .i64 m] w fun e w' => e = .returned (.tuple #[.int .i64 (nxA Q), .string (strB (sndS Q (min (max win 0 - (Q.sent : Int)) m)))]) ∧ QX w' R q (sndQ Q (min (max win 0 - (Q.sent : Int)) m)) vb vp ∧ TK R w w' := by
  have hc := send_any h hf (min (max win 0 - (Q.sent : Int)) m)
  obtain ⟨⟨c0, c1, c2, c3, c4⟩, -⟩ := h.at5.five
  have hfs : (Q.sent : Int) ≤ 65536 := by have := hf.sn; have := hf.ln; have := hf.r1; omega
  have hw1 : IntKind.i64.wrap (max win 0 - (Q.sent : Int)) = max win 0 - (Q.sent : Int) := by rw [IntKind.wrap_i64] <;> omega
  clear h
  go_enter Try.func9, Try.ntmps9
  go_wp2_with fail
  refine hc.mono ?_
  rintro e w' ⟨rfl, h1, h2⟩
  go_wp2
  go_ret2
  exact ⟨rfl, h1, h2⟩
end Go.Proofs.Ytkclookpdngkoaa.S
