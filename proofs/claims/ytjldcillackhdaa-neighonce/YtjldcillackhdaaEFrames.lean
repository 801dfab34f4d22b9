/- Plain facts of frames: addresses, groups, which frames may be, their bytes. -/
import Derived.Test.YtjldcillackhdaaMore
namespace Go.Proofs.Ytjldcillackhdaa.Eth
open Go.RowKit
set_option maxRecDepth 100000

def macB (n : Int) : Bool := decide (0 ≤ n ∧ n ≤ 281474976710655)
def grpB (n : Int) : Bool := decide (n / 1099511627776 % 2 = 1)
def mayB (t f k : Int) (z : Nat) : Bool := decide ((0 ≤ t ∧ t ≤ 281474976710655) ∧ (0 ≤ f ∧ f ≤ 281474976710655) ∧ f / 1099511627776 % 2 = 0 ∧ (1536 ≤ k ∧ k ≤ 65535) ∧ z ≤ 1500)
def codeE (b : Bool) : Int := if b = true then 0 else 30
def frV (t f k : Int) (d : ByteArray) : Value := .agg #[.int .i64 t, .int .i64 f, .int .i64 k, .string d]
def encS (t f k : Int) (d : ByteArray) : ByteArray := txt t 6 ++ txt f 6 ++ txt k 2 ++ d
def encV (t f k : Int) (d : ByteArray) : ByteArray := if mayB t f k d.size = true then encS t f k d else noS

theorem macB_t {n : Int} (h : 0 ≤ n ∧ n ≤ 281474976710655) : macB n = true := decide_eq_true h
theorem macB_f {n : Int} (h : ¬ (0 ≤ n ∧ n ≤ 281474976710655)) : macB n = false := decide_eq_false h
theorem grpB_t {n : Int} (h : n / 1099511627776 % 2 = 1) : grpB n = true := decide_eq_true h
theorem grpB_f {n : Int} (h : n / 1099511627776 % 2 = 0) : grpB n = false := decide_eq_false (by omega)
theorem mayB_t {t f k : Int} {z : Nat} (h : (0 ≤ t ∧ t ≤ 281474976710655) ∧ (0 ≤ f ∧ f ≤ 281474976710655) ∧ f / 1099511627776 % 2 = 0 ∧ (1536 ≤ k ∧ k ≤ 65535) ∧ z ≤ 1500) : mayB t f k z = true := decide_eq_true h
theorem mayB_f {t f k : Int} {z : Nat} (h : ¬ ((0 ≤ t ∧ t ≤ 281474976710655) ∧ (0 ≤ f ∧ f ≤ 281474976710655) ∧ f / 1099511627776 % 2 = 0 ∧ (1536 ≤ k ∧ k ≤ 65535) ∧ z ≤ 1500)) : mayB t f k z = false := decide_eq_false h

theorem and_group (n : Int) (h0 : 0 ≤ n) (h1 : n ≤ 281474976710655) : bits .and .i64 n 1099511627776 = n / 1099511627776 % 2 * 1099511627776 := by
  obtain ⟨N, rfl⟩ := Int.eq_ofNat_of_zero_le h0
  show IntKind.i64.wrap ((BitVec.ofInt 64 (N : Int) &&& BitVec.ofInt 64 1099511627776).toNat : Nat) = _
  have e : (BitVec.ofInt 64 1099511627776).toNat = 2 ^ 40 := by decide
  rw [BitVec.toNat_and, ofInt_u64 _ (by omega), e]
  have k : N &&& 2 ^ 40 = N / 2 ^ 40 % 2 * 2 ^ 40 := by
    apply Nat.eq_of_testBit_eq
    intro i
    rw [Nat.testBit_and, Nat.testBit_two_pow, Nat.testBit_mul_two_pow]
    by_cases h : i = 40
    · subst h
      simp [Nat.testBit_eq_decide_div_mod_eq]
    · rw [show decide (40 = i) = false from decide_eq_false (Ne.symm h), Bool.and_false]
      by_cases g : 40 ≤ i
      · obtain ⟨j, hj⟩ : ∃ j, i - 40 = j + 1 := ⟨i - 41, by omega⟩
        rw [hj, Nat.testBit_succ, show N / 2 ^ 40 % 2 / 2 = 0 by omega, Nat.zero_testBit, Bool.and_false]
      · simp [g]
  rw [k, IntKind.wrap_i64]
  omega

theorem isaddr_any (n : Int) (w : World) :
    Calls Try.prog 60 #[.int .i64 n] w fun e w' => e = .returned (.bool (macB n)) ∧ w' = w := by
  unfold macB
  by_cases h : 0 ≤ n
  · go_enter Try.func60, Try.ntmps60
    go_wp2
    go_ret
    exact ⟨by simp [h], rfl⟩
  · go_enter Try.func60, Try.ntmps60
    go_wp2
    go_ret
    exact ⟨by simp; omega, rfl⟩

theorem ingroup_any (n : Int) (w : World) (h0 : 0 ≤ n) (h1 : n ≤ 281474976710655) :
    Calls Try.prog 61 #[.int .i64 n] w fun e w' => e = .returned (.bool (grpB n)) ∧ w' = w := by
  unfold grpB
  have ha := and_group n h0 h1
  go_enter Try.func61, Try.ntmps61
  go_wp2
  go_ret
  have h2 : n / 1099511627776 % 2 = 0 ∨ n / 1099511627776 % 2 = 1 := by omega
  exact ⟨by rcases h2 with h | h <;> rw [h] <;> rfl, rfl⟩

end Go.Proofs.Ytjldcillackhdaa.Eth
