/- The contracts of the functions of package seq and of the document's answer for layer 1: each call returns, for every input, just the numbers that are named here, and leaves the world as it was. -/
import Derived.Test.YtkclookpdngkoaaRows
import Derived.WalkKit
namespace Go.Proofs.Ytkclookpdngkoaa
open Go.RowKit
set_option maxRecDepth 100000

/-! ### Plain numbers -/
def numB (a : Int) : Bool := decide (0 ≤ a ∧ a ≤ 4294967295)
def stepB (n : Int) : Bool := decide (-4294967296 ≤ n ∧ n ≤ 4294967296)
def longB (n : Int) : Bool := decide (0 ≤ n ∧ n ≤ 4294967296)
def mostB (n : Int) : Bool := decide (0 ≤ n ∧ n ≤ 1073741824)
def codeOf (b : Bool) : Int := if b = true then 0 else 1
def addV (a n : Int) : Int := if (numB a && stepB n) = true then (a + n) % 4294967296 else 0
def distV (a b : Int) : Int := if (numB a && numB b) = true then (b - a) % 4294967296 else 0
def aheadV (a b : Int) : Bool := numB a && numB b && decide (0 < (b - a) % 4294967296 ∧ (b - a) % 4294967296 < 2147483648)
def maxV (a b : Int) : Int := if (numB a && numB b) = true then (if aheadV a b = true then b else a) else 0
def inV (n f l : Int) : Bool := numB n && numB f && longB l && decide ((n - f) % 4294967296 < l)
def cutB (f l t s : Int) : Bool := numB f && numB t && mostB l && mostB s
def cutS (f l t s : Int) : Int := if cutB f l t s = true then (if (t - f) % 4294967296 < 2147483648 then (if (t - f) % 4294967296 < l then (t - f) % 4294967296 else l) else 0) else 0
def cutK (f l t s : Int) : Int :=
  if cutB f l t s = true then
    (if (t - f) % 4294967296 < 2147483648 then (if (t - f) % 4294967296 < l then (if l - (t - f) % 4294967296 < s then l - (t - f) % 4294967296 else s) else 0)
     else (if s - (4294967296 - (t - f) % 4294967296) < 0 then 0 else if l < s - (4294967296 - (t - f) % 4294967296) then l else s - (4294967296 - (t - f) % 4294967296)))
  else 0

theorem numB_t {a : Int} (h : numB a = true) : 0 ≤ a ∧ a ≤ 4294967295 := of_decide_eq_true h
theorem numB_f {a : Int} (h : numB a = false) : a < 0 ∨ 4294967295 < a := by have := of_decide_eq_false h; omega
theorem stepB_t {a : Int} (h : stepB a = true) : -4294967296 ≤ a ∧ a ≤ 4294967296 := of_decide_eq_true h
theorem stepB_f {a : Int} (h : stepB a = false) : a < -4294967296 ∨ 4294967296 < a := by have := of_decide_eq_false h; omega
theorem longB_t {a : Int} (h : longB a = true) : 0 ≤ a ∧ a ≤ 4294967296 := of_decide_eq_true h
theorem longB_f {a : Int} (h : longB a = false) : a < 0 ∨ 4294967296 < a := by have := of_decide_eq_false h; omega
theorem mostB_t {a : Int} (h : mostB a = true) : 0 ≤ a ∧ a ≤ 1073741824 := of_decide_eq_true h
theorem mostB_f {a : Int} (h : mostB a = false) : a < 0 ∨ 1073741824 < a := by have := of_decide_eq_false h; omega
theorem ret_int {k : IntKind} {a b : Int} (h : a = b) : Ending.returned (.int k a) = .returned (.int k b) := by rw [h]
theorem tup3 {a a' b b' : Int} (h : a = a') (k : b = b') : Ending.returned (.tuple #[.int .i64 a, .int .i64 b, .int .i64 0]) = .returned (.tuple #[.int .i64 a', .int .i64 b', .int .i64 0]) := by rw [h, k]

theorem tmod_round (n m : Int) (hm : 0 < m) : (n.tmod m + m) % m = n % m ∧ -m < n.tmod m ∧ n.tmod m < m := by
  refine ⟨?_, ?_, Int.tmod_lt_of_pos n hm⟩
  · rw [Int.add_emod_right]
    by_cases h0 : 0 ≤ n
    · rw [Int.tmod_eq_emod_of_nonneg h0, Int.emod_emod]
    · obtain ⟨k, rfl⟩ : ∃ k : Int, n = -k := ⟨-n, by omega⟩
      rw [Int.neg_tmod, Int.tmod_eq_emod_of_nonneg (by omega : 0 ≤ k)]
      have e : -k = -(k % m) + m * (-(k / m)) := by have := Int.emod_add_mul_ediv k m; rw [Int.mul_neg]; omega
      have h := Int.add_mul_emod_self_left (-(k % m)) m (-(k / m))
      rw [← e] at h; exact h.symm
  · by_cases h0 : 0 ≤ n
    · have := Int.tmod_nonneg m h0; omega
    · obtain ⟨k, rfl⟩ : ∃ k : Int, n = -k := ⟨-n, by omega⟩
      rw [Int.neg_tmod]; have := Int.tmod_lt_of_pos k hm; omega

/-! ### Small calls -/
theorem among_any (n m : Int) (w : World) (m0 : 0 < m) (m1 : m ≤ 1000000000000) :
    Calls Try.prog 4 #[.int .i64 n, .int .i64 m] w fun e w' => e = .returned (.int .i64 (n % m)) ∧ w' = w := by
  obtain ⟨h, h1, h2⟩ := tmod_round n m m0
  rw [← h]; clear h
  go_enter Try.func4, Try.ntmps4
  go_wp2
  go_ret
  exact ⟨rfl, rfl⟩

theorem distance_any (a b : Int) (w : World) (a0 : 0 ≤ a) (a1 : a ≤ 1000000000000) (b0 : 0 ≤ b) (b1 : b ≤ 1000000000000) :
    Calls Try.prog 35 #[.int .i64 a, .int .i64 b] w fun e w' => e = .returned (.int .i64 ((b - a) % 4294967296)) ∧ w' = w := by
  go_enter Try.func35, Try.ntmps35
  go_wp2
  go_ret
  exact ⟨rfl, rfl⟩

theorem ahead_any (a b : Int) (w : World) (a0 : 0 ≤ a) (a1 : a ≤ 1000000000000) (b0 : 0 ≤ b) (b1 : b ≤ 1000000000000) :
    Calls Try.prog 34 #[.int .i64 a, .int .i64 b] w fun e w' => e = .returned (.bool (decide (0 < (b - a) % 4294967296 ∧ (b - a) % 4294967296 < 2147483648))) ∧ w' = w := by
  by_cases h : 0 < (b - a) % 4294967296
  all_goals
    go_enter Try.func34, Try.ntmps34
    go_wp2
    go_ret
    exact ⟨by simp [h]; try omega, rfl⟩

/-! ### 9, 10: Check -/
theorem check_any (a : Int) (w : World) : Calls Try.prog 18 #[.int .i64 a] w fun e w' => e = .returned (.int .i64 (codeOf (numB a))) ∧ w' = w := by
  cases h : numB a
  · rcases numB_f h with h0 | h0 <;> clear h
    all_goals
      go_enter Try.func18, Try.ntmps18
      go_wp2
      go_ret
      exact ⟨rfl, rfl⟩
  · obtain ⟨h0, h1⟩ := numB_t h; clear h
    go_enter Try.func18, Try.ntmps18
    go_wp2
    go_ret
    exact ⟨rfl, rfl⟩
theorem codeOf_true : codeOf true = 0 := rfl
/-! ### 7, 8: Add -/
theorem add_any (a n : Int) (w : World) : Calls Try.prog 31 #[.int .i64 a, .int .i64 n] w fun e w' => e = .returned (.tuple #[.int .i64 (addV a n), .int .i64 (codeOf (numB a && stepB n))]) ∧ w' = w := by
  unfold addV
  cases ha : numB a
  · rcases numB_f ha with h0 | h0 <;> clear ha
    all_goals
      go_enter Try.func31, Try.ntmps31
      go_wp2
      go_ret2
      exact ⟨rfl, rfl⟩
  · obtain ⟨a0, a1⟩ := numB_t ha; clear ha
    cases hn : stepB n
    · rcases stepB_f hn with h0 | h0 <;> clear hn
      all_goals
        go_enter Try.func31, Try.ntmps31
        go_wp2
        go_ret2
        exact ⟨rfl, rfl⟩
    · obtain ⟨n0, n1⟩ := stepB_t hn; clear hn
      go_enter Try.func31, Try.ntmps31
      go_wp2
      go_ret2
      exact ⟨rfl, rfl⟩
/-! ### 13, 14: Distance -/
theorem dist_any (a b : Int) (w : World) : Calls Try.prog 32 #[.int .i64 a, .int .i64 b] w fun e w' => e = .returned (.tuple #[.int .i64 (distV a b), .int .i64 (codeOf (numB a && numB b))]) ∧ w' = w := by
  unfold distV
  cases ha : numB a
  · by_cases hb : numB b = true
    · obtain ⟨b0, b1⟩ := numB_t hb; clear hb
      rcases numB_f ha with h0 | h0 <;> clear ha
      all_goals
        go_enter Try.func32, Try.ntmps32
        go_wp2
        go_ret2
        exact ⟨rfl, rfl⟩
    · rcases numB_f (Bool.eq_false_iff.2 hb) with h0 | h0 <;> clear ha hb
      all_goals
        go_enter Try.func32, Try.ntmps32
        go_wp2
        go_ret2
        exact ⟨rfl, rfl⟩
  · obtain ⟨a0, a1⟩ := numB_t ha; clear ha
    cases hn : numB b
    · rcases numB_f hn with h0 | h0 <;> clear hn
      all_goals
        go_enter Try.func32, Try.ntmps32
        go_wp2
        go_ret2
        exact ⟨rfl, rfl⟩
    · obtain ⟨n0, n1⟩ := numB_t hn; clear hn
      go_enter Try.func32, Try.ntmps32
      go_wp2
      go_ret2
      exact ⟨rfl, rfl⟩
end Go.Proofs.Ytkclookpdngkoaa
