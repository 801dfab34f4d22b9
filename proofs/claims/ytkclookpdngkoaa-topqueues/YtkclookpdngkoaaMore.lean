/- The contracts of the greater functions of package seq and of the document's answer for layer 1: each call returns, for every input, just the numbers that are named, and leaves the world as it was. -/
import Derived.Test.YtkclookpdngkoaaCalls
namespace Go.Proofs.Ytkclookpdngkoaa
open Go.RowKit
set_option maxRecDepth 100000

theorem codeOf_false : codeOf false = 1 := rfl
theorem numB_mk {a : Int} (h0 : 0 ≤ a) (h1 : a ≤ 4294967295) : numB a = true := decide_eq_true ⟨h0, h1⟩
theorem numB_lo {a : Int} (h : a < 0) : numB a = false := decide_eq_false (by omega)
theorem numB_hi {a : Int} (h : 4294967295 < a) : numB a = false := decide_eq_false (by omega)
/-! ### 15, 16: Ahead -/
theorem ahead2 (a b : Int) (w : World) (a0 : 0 ≤ a) (a1 : a ≤ 4294967295) (b0 : 0 ≤ b) (b1 : b ≤ 4294967295) :
    Calls Try.prog 34 #[.int .i64 a, .int .i64 b] w fun e w' => e = .returned (.bool (aheadV a b)) ∧ w' = w := by
  rw [aheadV, numB_mk a0 a1, numB_mk b0 b1]
  exact ahead_any a b w (by omega) (by omega) (by omega) (by omega)

/-! ### 17, 18: Max -/
/-! ### 11, 12, 23 -/
end Go.Proofs.Ytkclookpdngkoaa
