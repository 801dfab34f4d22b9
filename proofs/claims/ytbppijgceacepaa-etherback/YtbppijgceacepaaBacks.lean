/- Plain facts: numbers as bytes there and back, of any width; frames there and back. -/
import Derived.Test.YtbppijgceacepaaDecodes
import Derived.Test.YtbppijgceacepaaPlainC
namespace Go.Proofs.Ytbppijgceacepaa
open Go.RowKit

theorem byteAt_succ (n : Int) (j : Nat) : byteAt n (j + 1) = byteAt (n / 256) j := by
  unfold byteAt
  rw [show 8 * (j + 1) = 8 + 8 * j by omega, Int.pow_add, ← Int.ediv_ediv_of_nonneg (by decide)]
  rfl
theorem txtL_succ (n : Int) (k : Nat) : txtL n (k + 1) = txtL (n / 256) k ++ [byteAt n 0] := by
  unfold txtL
  rw [List.range_succ, List.map_append]
  congr 1
  · apply List.map_congr_left
    intro i hi
    have := List.mem_range.1 hi
    rw [show k + 1 - 1 - i = (k - 1 - i) + 1 by omega, byteAt_succ]
  · simp
theorem numL_txtL (k : Nat) : ∀ n : Int, numL (txtL n k) = n % 256 ^ k := by
  induction k with
  | zero => intro n; simp [txtL, numL]
  | succ k ih =>
    intro n
    rw [txtL_succ, numL_snoc, ih, byteAt_toNat]
    have hm : (0 : Int) < 256 ^ k := Int.pow_pos (by decide)
    rw [Int.pow_succ]
    generalize (256 : Int) ^ k = m at hm
    simp only [Nat.mul_zero, Int.pow_zero, Int.ediv_one]
    have e1 := Int.emod_add_mul_ediv (n / 256) m
    have b0 := Int.emod_nonneg (n / 256) (by omega : m ≠ 0)
    have b1 := Int.emod_lt_of_pos (n / 256) hm
    generalize n / 256 % m = r at e1 b0 b1 ⊢
    generalize n / 256 / m = q at e1
    have e2 : n = (r * 256 + n % 256) + (m * 256) * q := by
      rw [Int.mul_assoc, Int.mul_comm 256 q, ← Int.mul_assoc]
      omega
    have e3 : (r * 256 + n % 256) % (m * 256) = r * 256 + n % 256 := Int.emod_eq_of_lt (by omega) (by omega)
    have e4 : n % (m * 256) = ((r * 256 + n % 256) + (m * 256) * q) % (m * 256) := by rw [← e2]
    rw [e4, Int.add_mul_emod_self_left, e3]
theorem num_txt (n : Int) (k : Nat) (h0 : 0 ≤ n) (h1 : n < 256 ^ k) : numL (txtL n k) = n := by
  rw [numL_txtL, Int.emod_eq_of_lt h0 h1]
theorem byteAt_low (x : Int) (b : UInt8) : byteAt (x * 256 + (b.toNat : Int)) 0 = b := by
  have h := byteAt_toNat (x * 256 + (b.toNat : Int)) 0
  have hb := b.toNat_lt
  apply UInt8.toNat_inj.1
  simp only [Nat.mul_zero, Int.pow_zero, Int.ediv_one] at h
  omega
theorem txt_num (k : Nat) : ∀ l : List UInt8, l.length = k → txtL (numL l) k = l := by
  induction k with
  | zero => intro l h; rw [List.length_eq_zero_iff.1 h]; simp [txtL]
  | succ k ih =>
    intro l h
    have hl : l ≠ [] := by intro e; rw [e] at h; simp at h
    rw [← List.dropLast_concat_getLast hl] at h ⊢
    generalize l.dropLast = a at h ⊢
    generalize l.getLast hl = b at h ⊢
    have hb := b.toNat_lt
    rw [txtL_succ, numL_snoc, byteAt_low, show (numL a * 256 + (b.toNat : Int)) / 256 = numL a by omega, ih a (by simpa using h)]

theorem enc_toList (t f k : Int) (d : ByteArray) : (encS t f k d).data.toList = txtL t 6 ++ (txtL f 6 ++ (txtL k 2 ++ d.data.toList)) := by
  unfold encS
  rw [app_toList, app_toList, app_toList, txt_toList, txt_toList, txt_toList, List.append_assoc, List.append_assoc]
theorem enc_size (t f k : Int) (d : ByteArray) : (encS t f k d).size = 14 + d.size := by
  unfold encS
  rw [ByteArray.size_append, ByteArray.size_append, ByteArray.size_append, txt_size, txt_size, txt_size]
theorem dT_enc (t f k : Int) (d : ByteArray) (h : 0 ≤ t ∧ t ≤ 281474976710655) : dT (encS t f k d) = t := by
  unfold dT numS
  rw [ext_toList, enc_toList, List.drop_zero, List.take_left' (by rw [txtL_len])]
  exact num_txt t 6 h.1 (by have := h.2; omega)
theorem dF_enc (t f k : Int) (d : ByteArray) (h : 0 ≤ f ∧ f ≤ 281474976710655) : dF (encS t f k d) = f := by
  unfold dF numS
  rw [ext_toList, enc_toList, List.drop_left' (by rw [txtL_len]), List.take_left' (by rw [txtL_len])]
  exact num_txt f 6 h.1 (by have := h.2; omega)
theorem dK_enc (t f k : Int) (d : ByteArray) (h : 0 ≤ k ∧ k ≤ 65535) : dK (encS t f k d) = k := by
  unfold dK numS
  rw [ext_toList, enc_toList, ← List.append_assoc, List.drop_left' (by rw [List.length_append, txtL_len, txtL_len]), List.take_left' (by rw [txtL_len])]
  exact num_txt k 2 h.1 (by have := h.2; omega)
theorem dD_enc (t f k : Int) (d : ByteArray) : dD (encS t f k d) = d := by
  apply ba_toList
  unfold dD
  rw [ext_toList, enc_toList, enc_size, ← List.append_assoc, ← List.append_assoc, List.drop_left' (by rw [List.length_append, List.length_append, txtL_len, txtL_len, txtL_len]), List.take_of_length_le (by rw [len_toList]; omega)]

theorem enc_dec (s : ByteArray) (h : 14 ≤ s.size) : encS (dT s) (dF s) (dK s) (dD s) = s := by
  apply ba_toList
  have hl := len_toList s
  rw [enc_toList]
  unfold dT dF dK dD numS
  rw [ext_toList, ext_toList, ext_toList, ext_toList]
  rw [txt_num 6 _ (by rw [List.length_take, List.length_drop]; omega), txt_num 6 _ (by rw [List.length_take, List.length_drop]; omega), txt_num 2 _ (by rw [List.length_take, List.length_drop]; omega)]
  rw [List.take_of_length_le (l := s.data.toList.drop 14) (by rw [List.length_drop]; omega)]
  generalize s.data.toList = l at *
  have e1 : l.drop 14 = (l.drop 12).drop 2 := by rw [List.drop_drop]
  have e2 : l.drop 12 = (l.drop 6).drop 6 := by rw [List.drop_drop]
  rw [e1, List.take_append_drop, e2, List.take_append_drop, List.drop_zero, List.take_append_drop]

theorem dec_of_enc {t f k : Int} {d : ByteArray} (h : mayB t f k d.size = true) :
    decB (encS t f k d) = true ∧ deT (encS t f k d) = t ∧ deF (encS t f k d) = f ∧ deK (encS t f k d) = k ∧ deD (encS t f k d) = d := by
  obtain ⟨ht, hf, hg, hk, hz⟩ := may_parts h
  have e1 := dT_enc t f k d ht
  have e2 := dF_enc t f k d hf
  have e3 := dK_enc t f k d ⟨by omega, hk.2⟩
  have e4 := dD_enc t f k d
  have hB : decB (encS t f k d) = true := by
    unfold decB; rw [if_pos (by rw [enc_size]; omega), e1, e2, e3, e4, h]
  unfold deT deF deK deD
  rw [hB]
  exact ⟨rfl, e1, e2, e3, e4⟩
theorem enc_of_dec {s : ByteArray} (h : decB s = true) : mayB (deT s) (deF s) (deK s) (deD s).size = true ∧ encV (deT s) (deF s) (deK s) (deD s) = s := by
  unfold deT deF deK deD encV
  rw [h]
  unfold decB at h
  by_cases hz : 14 ≤ s.size
  · rw [if_pos hz] at h
    simp only [if_true]
    rw [h]
    exact ⟨rfl, enc_dec s hz⟩
  · rw [if_neg hz] at h; cases h
end Go.Proofs.Ytbppijgceacepaa
