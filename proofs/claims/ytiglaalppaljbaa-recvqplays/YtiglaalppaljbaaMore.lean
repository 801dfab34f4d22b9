/- The contracts of the greater functions of package seq and of the document's answer for layer 1: each call returns, for every input, just the numbers that are named, and leaves the world as it was. -/
import Derived.Test.YtiglaalppaljbaaCalls
namespace Go.Proofs.Ytiglaalppaljbaa
open Go.RowKit

theorem codeOf_false : codeOf false = 1 := rfl
theorem numB_mk {a : Int} (h0 : 0 ≤ a) (h1 : a ≤ 4294967295) : numB a = true := decide_eq_true ⟨h0, h1⟩
theorem numB_lo {a : Int} (h : a < 0) : numB a = false := decide_eq_false (by omega)
theorem numB_hi {a : Int} (h : 4294967295 < a) : numB a = false := decide_eq_false (by omega)
/-- Of two numbers that are in range: the distance. -/
theorem rdist_ok (a b : Int) (w : World) (a0 : 0 ≤ a) (a1 : a ≤ 4294967295) (b0 : 0 ≤ b) (b1 : b ≤ 4294967295) :
    Calls Try.prog 43 #[.int .i64 a, .int .i64 b] w fun e w' => e = .returned (.tuple #[.int .i64 ((b - a) % 4294967296), .int .i64 0]) ∧ w' = w := by
  have h := rdist_any a b w
  rw [distV, numB_mk a0 a1, numB_mk b0 b1, Bool.and_true, if_pos rfl, codeOf_true] at h
  exact h
theorem rdist_no (a b : Int) (w : World) (hab : (numB a && numB b) = false) :
    Calls Try.prog 43 #[.int .i64 a, .int .i64 b] w fun e w' => e = .returned (.tuple #[.int .i64 0, .int .i64 1]) ∧ w' = w := by
  have h := rdist_any a b w
  rw [distV, hab, if_neg (by simp), codeOf_false] at h
  exact h

/-! ### 15, 16: Ahead -/
theorem ahead2 (a b : Int) (w : World) (a0 : 0 ≤ a) (a1 : a ≤ 4294967295) (b0 : 0 ≤ b) (b1 : b ≤ 4294967295) :
    Calls Try.prog 44 #[.int .i64 a, .int .i64 b] w fun e w' => e = .returned (.bool (aheadV a b)) ∧ w' = w := by
  rw [aheadV, numB_mk a0 a1, numB_mk b0 b1]
  exact ahead_any a b w (by omega) (by omega) (by omega) (by omega)

/-! ### 17, 18: Max -/
/-! ### 11, 12, 23 -/
end Go.Proofs.Ytiglaalppaljbaa
