/- The contracts of the greater functions of package seq and of the document's answer for layer 1: each call returns, for every input, just the numbers that are named, and leaves the world as it was. -/
import Derived.Test.YtkkinnbmlghniaaCalls
namespace Go.Proofs.Ytkkinnbmlghniaa
open Go.RowKit
set_option maxRecDepth 100000

theorem codeOf_false : codeOf false = 1 := rfl
theorem numB_mk {a : Int} (h0 : 0 ≤ a) (h1 : a ≤ 4294967295) : numB a = true := decide_eq_true ⟨h0, h1⟩
theorem numB_lo {a : Int} (h : a < 0) : numB a = false := decide_eq_false (by omega)
theorem numB_hi {a : Int} (h : 4294967295 < a) : numB a = false := decide_eq_false (by omega)
/-- Of two numbers that are in range: the distance. -/
theorem rdist_ok (a b : Int) (w : World) (a0 : 0 ≤ a) (a1 : a ≤ 4294967295) (b0 : 0 ≤ b) (b1 : b ≤ 4294967295) :
    Calls Try.prog 35 #[.int .i64 a, .int .i64 b] w fun e w' => e = .returned (.tuple #[.int .i64 ((b - a) % 4294967296), .int .i64 0]) ∧ w' = w := by
  have h := rdist_any a b w
  rw [distV, numB_mk a0 a1, numB_mk b0 b1, Bool.and_true, if_pos rfl, codeOf_true] at h
  exact h
theorem rdist_no (a b : Int) (w : World) (hab : (numB a && numB b) = false) :
    Calls Try.prog 35 #[.int .i64 a, .int .i64 b] w fun e w' => e = .returned (.tuple #[.int .i64 0, .int .i64 1]) ∧ w' = w := by
  have h := rdist_any a b w
  rw [distV, hab, if_neg (by simp), codeOf_false] at h
  exact h

/-! ### 15, 16: Ahead -/
set_option maxHeartbeats 400000 in
theorem ahd_any (a b : Int) (w : World) : Calls Try.prog 34 #[.int .i64 a, .int .i64 b] w fun e w' => e = .returned (.tuple #[.bool (aheadV a b), .int .i64 (codeOf (numB a && numB b))]) ∧ w' = w := by
  unfold aheadV
  cases ha : numB a
  · by_cases hb : numB b = true
    · obtain ⟨b0, b1⟩ := numB_t hb; clear hb
      rcases numB_f ha with h0 | h0 <;> clear ha
      all_goals
        go_enter Try.func34, Try.ntmps34
        go_wp2
        go_ret2
        exact ⟨by simp [codeOf], rfl⟩
    · rcases numB_f (Bool.eq_false_iff.2 hb) with h0 | h0 <;> clear ha hb
      all_goals
        go_enter Try.func34, Try.ntmps34
        go_wp2
        go_ret2
        exact ⟨by simp [codeOf], rfl⟩
  · obtain ⟨a0, a1⟩ := numB_t ha; clear ha
    cases hn : numB b
    · rcases numB_f hn with h0 | h0 <;> clear hn
      all_goals
        go_enter Try.func34, Try.ntmps34
        go_wp2
        go_ret2
        exact ⟨by simp [codeOf], rfl⟩
    · obtain ⟨n0, n1⟩ := numB_t hn; clear hn
      go_enter Try.func34, Try.ntmps34
      go_wp2_with (first | (go_at_call 37; refine (ahead_any _ _ _ (by omega) (by omega) (by omega) (by omega)).mono ?_; rintro e w' ⟨rfl, rfl⟩) | go_in)
      go_ret2
      exact ⟨by simp [codeOf], rfl⟩

set_option maxHeartbeats 400000 in
theorem rahd_any (a b : Int) (w : World) : Calls Try.prog 30 #[.int .i64 a, .int .i64 b] w fun e w' => e = .returned (.tuple #[.bool (aheadV a b), .int .i64 (codeOf (numB a && numB b))]) ∧ w' = w := by
  unfold aheadV
  cases hab : (numB a && numB b)
  · have H : Hid ((numB a && numB b) = false) := hab; clear hab
    go_enter Try.func30, Try.ntmps30
    go_wp2_with (first | (go_at_call 35; refine (rdist_no _ _ _ H.out).mono ?_; rintro e w' ⟨rfl, rfl⟩) | go_in)
    go_ret2
    exact ⟨by simp [codeOf], rfl⟩
  · obtain ⟨ha, hn⟩ := (Bool.and_eq_true _ _).mp hab; clear hab
    obtain ⟨a0, a1⟩ := numB_t ha; obtain ⟨n0, n1⟩ := numB_t hn; clear ha hn
    by_cases d : 0 < (b - a) % 4294967296
    all_goals
      go_enter Try.func30, Try.ntmps30
      go_wp2_with (first | (go_at_call 35; refine (rdist_ok _ _ _ (by omega) (by omega) (by omega) (by omega)).mono ?_; rintro e w' ⟨rfl, rfl⟩) | go_in)
      go_ret2
      exact ⟨by simp [codeOf]; try omega, rfl⟩

theorem rahd_ok (a b : Int) (w : World) (a0 : 0 ≤ a) (a1 : a ≤ 4294967295) (b0 : 0 ≤ b) (b1 : b ≤ 4294967295) :
    Calls Try.prog 30 #[.int .i64 a, .int .i64 b] w fun e w' => e = .returned (.tuple #[.bool (aheadV a b), .int .i64 0]) ∧ w' = w := by
  have h := rahd_any a b w
  rw [numB_mk a0 a1, numB_mk b0 b1, Bool.and_true, codeOf_true] at h
  exact h
theorem rahd_no (a b : Int) (w : World) (hab : (numB a && numB b) = false) :
    Calls Try.prog 30 #[.int .i64 a, .int .i64 b] w fun e w' => e = .returned (.tuple #[.bool false, .int .i64 1]) ∧ w' = w := by
  have h := rahd_any a b w
  rw [aheadV, hab, Bool.false_and, codeOf_false] at h
  exact h
theorem ahead2 (a b : Int) (w : World) (a0 : 0 ≤ a) (a1 : a ≤ 4294967295) (b0 : 0 ≤ b) (b1 : b ≤ 4294967295) :
    Calls Try.prog 37 #[.int .i64 a, .int .i64 b] w fun e w' => e = .returned (.bool (aheadV a b)) ∧ w' = w := by
  rw [aheadV, numB_mk a0 a1, numB_mk b0 b1]
  exact ahead_any a b w (by omega) (by omega) (by omega) (by omega)

/-! ### 17, 18: Max -/
/-! ### 11, 12, 23 -/
end Go.Proofs.Ytkkinnbmlghniaa
