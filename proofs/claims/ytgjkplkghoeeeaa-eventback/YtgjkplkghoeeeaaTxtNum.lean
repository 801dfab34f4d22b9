/- Plain facts: numbers as bytes there and back, of any width; a number at a place of bytes. -/
import Derived.Test.YtgjkplkghoeeeaaPlainC
namespace Go.Proofs.Ytgjkplkghoeeeaa
open Go.RowKit

theorem byteAt_succ (n : Int) (j : Nat) : byteAt n (j + 1) = byteAt (n / 256) j := by
  unfold byteAt
  rw [show 8 * (j + 1) = 8 + 8 * j by omega, Int.pow_add, ← Int.ediv_ediv_of_nonneg (by decide)]
  rfl
theorem txtL_succ (n : Int) (k : Nat) : txtL n (k + 1) = txtL (n / 256) k ++ [byteAt n 0] := by
  unfold txtL
  rw [List.range_succ, List.map_append]
  congr 1
  · apply List.map_congr_left
    intro i hi
    have := List.mem_range.1 hi
    rw [show k + 1 - 1 - i = (k - 1 - i) + 1 by omega, byteAt_succ]
  · simp
theorem numL_txtL (k : Nat) : ∀ n : Int, numL (txtL n k) = n % 256 ^ k := by
  induction k with
  | zero => intro n; simp [txtL, numL]
  | succ k ih =>
    intro n
    rw [txtL_succ, numL_snoc, ih, byteAt_toNat]
    have hm : (0 : Int) < 256 ^ k := Int.pow_pos (by decide)
    rw [Int.pow_succ]
    generalize (256 : Int) ^ k = m at hm
    simp only [Nat.mul_zero, Int.pow_zero, Int.ediv_one]
    have e1 := Int.emod_add_mul_ediv (n / 256) m
    have b0 := Int.emod_nonneg (n / 256) (by omega : m ≠ 0)
    have b1 := Int.emod_lt_of_pos (n / 256) hm
    generalize n / 256 % m = r at e1 b0 b1 ⊢
    generalize n / 256 / m = q at e1
    have e2 : n = (r * 256 + n % 256) + (m * 256) * q := by
      rw [Int.mul_assoc, Int.mul_comm 256 q, ← Int.mul_assoc]
      omega
    have e3 : (r * 256 + n % 256) % (m * 256) = r * 256 + n % 256 := Int.emod_eq_of_lt (by omega) (by omega)
    have e4 : n % (m * 256) = ((r * 256 + n % 256) + (m * 256) * q) % (m * 256) := by rw [← e2]
    rw [e4, Int.add_mul_emod_self_left, e3]
theorem num_txt (n : Int) (k : Nat) (h0 : 0 ≤ n) (h1 : n < 256 ^ k) : numL (txtL n k) = n := by
  rw [numL_txtL, Int.emod_eq_of_lt h0 h1]
theorem byteAt_low (x : Int) (b : UInt8) : byteAt (x * 256 + (b.toNat : Int)) 0 = b := by
  have h := byteAt_toNat (x * 256 + (b.toNat : Int)) 0
  have hb := b.toNat_lt
  apply UInt8.toNat_inj.1
  simp only [Nat.mul_zero, Int.pow_zero, Int.ediv_one] at h
  omega
theorem txt_num (k : Nat) : ∀ l : List UInt8, l.length = k → txtL (numL l) k = l := by
  induction k with
  | zero => intro l h; rw [List.length_eq_zero_iff.1 h]; simp [txtL]
  | succ k ih =>
    intro l h
    have hl : l ≠ [] := by intro e; rw [e] at h; simp at h
    rw [← List.dropLast_concat_getLast hl] at h ⊢
    generalize l.dropLast = a at h ⊢
    generalize l.getLast hl = b at h ⊢
    have hb := b.toNat_lt
    rw [txtL_succ, numL_snoc, byteAt_low, show (numL a * 256 + (b.toNat : Int)) / 256 = numL a by omega, ih a (by simpa using h)]

theorem list_inj {a b : ByteArray} (h : a.toList = b.toList) : a = b := by rw [ByteArray.toList_eq, ByteArray.toList_eq] at h; exact ba_toList h
theorem app_nil (a : ByteArray) : a ++ (⟨#[]⟩ : ByteArray) = a := by apply ba_toList; rw [app_toList]; simp
theorem num_at (s : ByteArray) (pre post : List UInt8) (n : Int) (k a b : Nat) (hs : s.data.toList = pre ++ (txtL n k ++ post)) (ha : pre.length = a) (hb : b = a + k) (h0 : 0 ≤ n) (h1 : n < 256 ^ k) : numS (s.extract a b) = n := by
  unfold numS
  rw [ext_toList, hs, List.drop_left' ha, List.take_left' (by rw [txtL_len]; omega)]
  exact num_txt n k h0 h1
/-- The bytes of the number that stands at a place are the bytes there. -/
theorem txt_at (s : ByteArray) (k a b : Nat) (hb : b = a + k) (h : b ≤ s.size) : txtL (numS (s.extract a b)) k = (s.data.toList.drop a).take k := by
  have hl := len_toList s
  unfold numS
  rw [ext_toList, show b - a = k by omega]
  exact txt_num k _ (by rw [List.length_take, List.length_drop]; omega)
/-- Bytes that follow one another, put together. -/
theorem cut_join (l : List UInt8) (a k m : Nat) : (l.drop a).take k ++ (l.drop (a + k)).take m = (l.drop a).take (k + m) := by
  rw [List.take_add, List.drop_drop]
end Go.Proofs.Ytgjkplkghoeeeaa
