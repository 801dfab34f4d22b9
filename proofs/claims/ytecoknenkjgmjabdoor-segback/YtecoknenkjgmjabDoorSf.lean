/- The laws' example of seg; and what of segments that answer holds in plain data. -/
import Derived.Test.YtecoknenkjgmjabDoorSd
import Derived.Test.YtecoknenkjgmjabDoorSe
namespace Go.Proofs.YtecoknenkjgmjabDoor
open Go.RowKit
set_option maxRecDepth 100000
set_option linter.unusedVariables false

def exS : Sg := ⟨0, 0, 7, 0, 2, 0, 0, Op.zero, ⟨#[]⟩⟩
theorem exS_may : mayG exS = true := by decide +kernel
theorem exS_4 : hasV exS.fl 4 = false := by decide +kernel
theorem exS_16 : hasV exS.fl 16 = false := by decide +kernel
theorem exS_add : (8 : Int) = addV exS.sq (lenG exS) := by decide +kernel
theorem works_s (w : World) (hG : Ord w) : Calls Tryd.prog 17 #[] w fun e w' => e = .returned (.bool true) ∧ Below w.heap.size w w' := by
  have hq : ∀ W, Ord W → Calls Tryd.prog 21 #[.agg #[.int .i64 0, .int .i64 0, .int .i64 7, .int .i64 0, .int .i64 2, .int .i64 0, .int .i64 0, .int .i64 0, .int .i64 0, .int .i64 0, .int .i64 0, .bool false, .bool false, .bool false, .slice none 0 0, .string ⟨#[]⟩]] W fun e w' => e = .returned (.tuple #[.agg #[.int .i64 0, .int .i64 0, .int .i64 0, .int .i64 8, .int .i64 20, .int .i64 0, .int .i64 0, .int .i64 0, .int .i64 0, .int .i64 0, .int .i64 0, .bool false, .bool false, .bool false, .slice none 0 0, .string ⟨#[]⟩], .bool true]) ∧ Below W.heap.size W w' := fun W h => reset_s exS (.slice none 0 0) W (Rgs.nil W) (by decide) h exS_may exS_4 exS_16 8 exS_add
  have hb0 : ∀ W, (Instr.build 28 #[(2, .int .i64 7), (4, .int .i64 2)]).run Tryd.prog W = .ok (.agg #[.int .i64 0, .int .i64 0, .int .i64 7, .int .i64 0, .int .i64 2, .int .i64 0, .int .i64 0, .int .i64 0, .int .i64 0, .int .i64 0, .int .i64 0, .bool false, .bool false, .bool false, .slice none 0 0, .string ⟨#[]⟩]) W := fun W => run_build W 28 _ _ (by kernel_rfl)
  have HQ : Hid (∀ W, Ord W → Calls Tryd.prog 21 #[.agg #[.int .i64 0, .int .i64 0, .int .i64 7, .int .i64 0, .int .i64 2, .int .i64 0, .int .i64 0, .int .i64 0, .int .i64 0, .int .i64 0, .int .i64 0, .bool false, .bool false, .bool false, .slice none 0 0, .string ⟨#[]⟩]] W fun e w' => e = .returned (.tuple #[.agg #[.int .i64 0, .int .i64 0, .int .i64 0, .int .i64 8, .int .i64 20, .int .i64 0, .int .i64 0, .int .i64 0, .int .i64 0, .int .i64 0, .int .i64 0, .bool false, .bool false, .bool false, .slice none 0 0, .string ⟨#[]⟩], .bool true]) ∧ Below W.heap.size W w') := hq
  clear hq
  go_enter Tryd.func17, Tryd.ntmps17
  go_wp2_with fail
  refine (HQ.out _ hG).mono ?_
  rintro e w1 ⟨rfl, hb⟩
  have hX := At.box w1 #[.int .i64 0, .int .i64 0, .int .i64 0, .int .i64 8, .int .i64 20, .int .i64 0, .int .i64 0, .int .i64 0, .int .i64 0, .int .i64 0, .int .i64 0, .bool false, .bool false, .bool false, .slice none 0 0, .string ⟨#[]⟩] 28
  have hbx := bel1 w1 (.cells #[.int .i64 0, .int .i64 0, .int .i64 0, .int .i64 8, .int .i64 20, .int .i64 0, .int .i64 0, .int .i64 0, .int .i64 0, .int .i64 0, .int .i64 0, .bool false, .bool false, .bool false, .slice none 0 0, .string ⟨#[]⟩] 28)
  go_upto_region 2 with fail
  generalize w1.alloc (.cells #[.int .i64 0, .int .i64 0, .int .i64 0, .int .i64 8, .int .i64 20, .int .i64 0, .int .i64 0, .int .i64 0, .int .i64 0, .int .i64 0, .int .i64 0, .bool false, .bool false, .bool false, .slice none 0 0, .string ⟨#[]⟩] 28) = w2 at *
  obtain ⟨⟨c0, c1, c2, c3, c4, c5, c6, c7, c8, c9, c10, c11, c12, c13, c14, c15⟩, -, -⟩ := hX.sixteen
  go_wp2
  go_ret
  exact ⟨rfl, bt hb hbx⟩
theorem may_parts {s : Sg} (h : mayG s = true) : fitsB s.fr 65535 = true ∧ fitsB s.dt 65535 = true ∧ numB s.sq = true ∧ numB s.ak = true ∧ fitsB s.fl 63 = true ∧ s.o.may = true ∧ s.da.size ≤ 1480 := by
  unfold mayG preG at h
  simp only [Bool.and_eq_true, decide_eq_true_eq] at h
  exact ⟨h.1.1.1.1.1.1.1.1.1.1, h.1.1.1.1.1.1.1.1.1.2, h.1.1.1.1.1.1.1.1.2, h.1.1.1.1.1.1.1.2, h.1.1.1.1.1.1.2, h.1.2, h.2⟩
theorem zero_may : Op.zero.may = true := by decide +kernel
theorem resA_may {s : Sg} (h : mayG s = true) : mayG (resA s) = true := by
  obtain ⟨h1, h2, h3, h4, -, -, -⟩ := may_parts h
  exact mayG_t (s := resA s) h2 h1 h4 (show numB 0 = true by decide) (show fitsB 4 63 = true by decide) (show fitsB 0 65535 = true by decide) (show fitsB 0 65535 = true by decide) (.inr rfl) (.inr rfl) zero_may (by show 0 ≤ 1480; omega)
theorem addV_num (a n : Int) : numB (addV a n) = true := by
  unfold addV numB
  apply decide_eq_true
  split <;> omega
theorem resS_may {s : Sg} (h : mayG s = true) : mayG (resS s) = true := by
  obtain ⟨h1, h2, -, -, -, -, -⟩ := may_parts h
  exact mayG_t (s := resS s) h2 h1 (show numB 0 = true by decide) (addV_num _ _) (show fitsB 20 63 = true by decide) (show fitsB 0 65535 = true by decide) (show fitsB 0 65535 = true by decide) (.inl (show hasV 20 16 = true by decide +kernel)) (.inr rfl) zero_may (by show 0 ≤ 1480; omega)
theorem lenG_bd (s : Sg) (h : s.da.size ≤ 1480) : 0 ≤ lenG s ∧ lenG s ≤ 1482 := by
  unfold lenG
  split <;> split <;> omega
theorem resS_ack {s : Sg} (h : mayG s = true) : (addV s.sq (lenG s) - s.sq - lenG s) % 4294967296 = 0 := by
  obtain ⟨-, -, h3, -, -, -, h7⟩ := may_parts h
  have hb := lenG_bd s h7
  have hst : stepB (lenG s) = true := decide_eq_true ⟨by omega, by omega⟩
  unfold addV
  rw [h3, hst, if_pos (by rfl)]
  omega
end Go.Proofs.YtecoknenkjgmjabDoor
