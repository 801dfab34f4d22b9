/- The contracts of Turn and Pseudo, of package sum and of the document: each returns just the values named here; nothing that was there turns. -/
import Derived.Test.YtckfaohmjddkhabSums
namespace Go.Proofs.Ytckfaohmjddkhab
open Go.RowKit

theorem out_cases (n a b : Int) : (outB n a b = true ∧ (n < a ∨ b < n)) ∨ (outB n a b = false ∧ a ≤ n ∧ n ≤ b) := by
  unfold outB
  by_cases h : n < a ∨ b < n
  · left; exact ⟨decide_eq_true h, h⟩
  · right; exact ⟨decide_eq_false h, by omega⟩

theorem turn_any (o a n : Int) (w : World) :
    Calls Try.prog 9 #[.int .i64 o, .int .i64 a, .int .i64 n] w fun e w' => e = .returned (.tuple #[.int .i64 (turnV o a n), .int .i64 (codeB (turnOk o a n))]) ∧ w' = w := by
  unfold turnV turnOk
  rcases out_cases o 0 65535 with ⟨h1, _⟩ | ⟨h1, o0, o1⟩
  · rw [h1]
    simp
    go_enter Try.func9, Try.ntmps9
    go_wp2_with (first | (go_at_call 10; refine (out_any _ _ _ _).mono ?_; rintro e w' ⟨rfl, rfl⟩))
    go_ret2
    exact ⟨rfl, rfl⟩
  · rcases out_cases a 0 65535 with ⟨h2, _⟩ | ⟨h2, a0, a1⟩
    · rw [h1, h2]
      simp
      go_enter Try.func9, Try.ntmps9
      go_wp2_with (first | (go_at_call 10; refine (out_any _ _ _ _).mono ?_; rintro e w' ⟨rfl, rfl⟩))
      go_ret2
      exact ⟨rfl, rfl⟩
    · rcases out_cases n 0 65535 with ⟨h3, _⟩ | ⟨h3, n0, n1⟩
      · rw [h1, h2, h3]
        simp
        go_enter Try.func9, Try.ntmps9
        go_wp2_with (first | (go_at_call 10; refine (out_any _ _ _ _).mono ?_; rintro e w' ⟨rfl, rfl⟩))
        go_ret2
        exact ⟨rfl, rfl⟩
      · rw [h1, h2, h3]
        simp
        have e1 := missV_small o o0 o1
        have e2 := missV_small a a0 a1
        go_enter Try.func9, Try.ntmps9
        go_wp2_with (first | (go_at_call 10; refine (out_any _ _ _ _).mono ?_; rintro e w' ⟨rfl, rfl⟩) | (go_at_call 13; refine (missing_any _ _ (by omega) (by omega)).mono ?_; rintro e w' ⟨rfl, rfl⟩))
        go_ret2
        exact ⟨rfl, rfl⟩

end Go.Proofs.Ytckfaohmjddkhab
