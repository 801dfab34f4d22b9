/- the texts EFrames, EEncodes, EBacks, in part, merged by program -/
import Derived.Test.YtkpdmgoldngdaaaGreatDoorRows
import Derived.WalkKit
import Derived.WalkSpells
import Derived.Deep.RegionHeld3
import Derived.Test.YtkpdmgoldngdaaaGreatDoorMA01
import Derived.Test.YtkpdmgoldngdaaaGreatDoorMA02
import Derived.Test.YtkpdmgoldngdaaaGreatDoorMD01
import Derived.Test.YtkpdmgoldngdaaaGreatDoorMG01
import Derived.Test.YtkpdmgoldngdaaaGreatDoorMN01
import Derived.Test.YtkpdmgoldngdaaaGreatDoorMO01
namespace Go.Proofs.YtkpdmgoldngdaaaGreatDoor.Eth
open Go.RowKit
set_option maxRecDepth 100000
def encS (t f k : Int) (d : ByteArray) : ByteArray := txt t 6 ++ txt f 6 ++ txt k 2 ++ d
def encV (t f k : Int) (d : ByteArray) : ByteArray := if mayB t f k d.size = true then encS t f k d else noS

end Go.Proofs.YtkpdmgoldngdaaaGreatDoor.Eth

namespace Go.Proofs.YtkpdmgoldngdaaaGreatDoor.Eth
open Go.RowKit
set_option maxRecDepth 100000
theorem may_parts {t f k : Int} {z : Nat} (h : mayB t f k z = true) : (0 ≤ t ∧ t ≤ 281474976710655) ∧ (0 ≤ f ∧ f ≤ 281474976710655) ∧ f / 1099511627776 % 2 = 0 ∧ (1536 ≤ k ∧ k ≤ 65535) ∧ z ≤ 1500 := of_decide_eq_true h

theorem put_six (n : Int) (w : World) (h : 0 ≤ n ∧ n ≤ 281474976710655) :
    Calls Tryz.prog 57 #[.int .i64 n, .int .i64 6] w fun e w' => e = .returned (.tuple #[.string (txt n 6), .int .i64 0]) ∧ Below w.heap.size w w' := by
  have hp : putB n 6 = true := putB_t ⟨by decide, by decide, h.1, by have := h.2; simp; omega⟩
  have := pput_any n 6 w
  unfold putV at this
  rw [hp] at this
  exact this
theorem put_two (n : Int) (w : World) (h : 0 ≤ n ∧ n ≤ 65535) :
    Calls Tryz.prog 57 #[.int .i64 n, .int .i64 2] w fun e w' => e = .returned (.tuple #[.string (txt n 2), .int .i64 0]) ∧ Below w.heap.size w w' := by
  have hp : putB n 2 = true := putB_t ⟨by decide, by decide, h.1, by have := h.2; simp; omega⟩
  have := pput_any n 2 w
  unfold putV at this
  rw [hp] at this
  exact this

set_option maxHeartbeats 1000000 in
theorem enc_any (t f k : Int) (d : ByteArray) (w : World) (hd : d.size ≤ maxLen) :
    Calls Tryz.prog 25 #[.agg #[.int .i64 t, .int .i64 f, .int .i64 k, .string d]] w fun e w' => e = .returned (.tuple #[.string (encV t f k d), .int .i64 (codeE (mayB t f k d.size))]) ∧ Below w.heap.size w w' := by
  obtain ⟨c0, c1, c2, c3⟩ := box4 w (.int .i64 t) (.int .i64 f) (.int .i64 k) (.string d) 23
  have hbel := bel1 w
  unfold encV
  rcases Bool.eq_false_or_eq_true (mayB t f k d.size) with h | h
  · obtain ⟨ht, hf, _, ⟨k0, k1⟩, z⟩ := may_parts h
    have H : Hid (mayB t f k d.size = true) := h
    rw [h, if_pos rfl]
    have z1 := txt_size t 6
    have z2 := txt_size f 6
    have z3 := txt_size k 2
    go_enter Tryz.func25, Tryz.ntmps25
    go_wp2_with fail
    refine (may_any _ _ _ _ _ hd).mono ?_
    rintro e w1 ⟨rfl, hb1⟩
    have c0' := later hb1 c0
    go_wp2_with fail
    refine (put_six _ _ ht).mono ?_
    rintro e w2 ⟨rfl, hb2⟩
    have c1' := later hb2 (later hb1 c1)
    go_wp2_with fail
    refine (put_six _ _ hf).mono ?_
    rintro e w3 ⟨rfl, hb3⟩
    have c2' := later hb3 (later hb2 (later hb1 c2))
    go_wp2_with fail
    refine (put_two _ _ ⟨by omega, k1⟩).mono ?_
    rintro e w4 ⟨rfl, hb4⟩
    have c3' := later hb4 (later hb3 (later hb2 (later hb1 c3)))
    go_wp2
    go_ret2
    exact ⟨rfl, bt (bt (bt (bt (hbel _) hb1) hb2) hb3) hb4⟩
  · rw [h, if_neg (by simp)]
    go_enter Tryz.func25, Tryz.ntmps25
    go_wp2_with fail
    refine (may_any _ _ _ _ _ hd).mono ?_
    rintro e w1 ⟨rfl, hb1⟩
    go_wp2
    go_ret2
    exact ⟨rfl, bt (hbel _) hb1⟩

end Go.Proofs.YtkpdmgoldngdaaaGreatDoor.Eth

namespace Go.Proofs.YtkpdmgoldngdaaaGreatDoor.Eth
open Go.RowKit
set_option maxRecDepth 100000

theorem byteAt_succ (n : Int) (j : Nat) : byteAt n (j + 1) = byteAt (n / 256) j := by
  unfold byteAt
  rw [show 8 * (j + 1) = 8 + 8 * j by omega, Int.pow_add, ← Int.ediv_ediv_of_nonneg (by decide)]
  rfl
theorem txtL_succ (n : Int) (k : Nat) : txtL n (k + 1) = txtL (n / 256) k ++ [byteAt n 0] := by
  unfold txtL
  rw [List.range_succ, List.map_append]
  congr 1
  · apply List.map_congr_left
    intro i hi
    have := List.mem_range.1 hi
    rw [show k + 1 - 1 - i = (k - 1 - i) + 1 by omega, byteAt_succ]
  · simp
theorem numL_txtL (k : Nat) : ∀ n : Int, numL (txtL n k) = n % 256 ^ k := by
  induction k with
  | zero => intro n; simp [txtL, numL]
  | succ k ih =>
    intro n
    rw [txtL_succ, numL_snoc, ih, byteAt_toNat]
    have hm : (0 : Int) < 256 ^ k := Int.pow_pos (by decide)
    rw [Int.pow_succ]
    generalize (256 : Int) ^ k = m at hm
    simp only [Nat.mul_zero, Int.pow_zero, Int.ediv_one]
    have e1 := Int.emod_add_mul_ediv (n / 256) m
    have b0 := Int.emod_nonneg (n / 256) (by omega : m ≠ 0)
    have b1 := Int.emod_lt_of_pos (n / 256) hm
    generalize n / 256 % m = r at e1 b0 b1 ⊢
    generalize n / 256 / m = q at e1
    have e2 : n = (r * 256 + n % 256) + (m * 256) * q := by
      rw [Int.mul_assoc, Int.mul_comm 256 q, ← Int.mul_assoc]
      omega
    have e3 : (r * 256 + n % 256) % (m * 256) = r * 256 + n % 256 := Int.emod_eq_of_lt (by omega) (by omega)
    have e4 : n % (m * 256) = ((r * 256 + n % 256) + (m * 256) * q) % (m * 256) := by rw [← e2]
    rw [e4, Int.add_mul_emod_self_left, e3]
theorem num_txt (n : Int) (k : Nat) (h0 : 0 ≤ n) (h1 : n < 256 ^ k) : numL (txtL n k) = n := by
  rw [numL_txtL, Int.emod_eq_of_lt h0 h1]
theorem enc_toList (t f k : Int) (d : ByteArray) : (encS t f k d).data.toList = txtL t 6 ++ (txtL f 6 ++ (txtL k 2 ++ d.data.toList)) := by
  unfold encS
  rw [app_toList, app_toList, app_toList, txt_toList, txt_toList, txt_toList, List.append_assoc, List.append_assoc]
theorem enc_size (t f k : Int) (d : ByteArray) : (encS t f k d).size = 14 + d.size := by
  unfold encS
  rw [ByteArray.size_append, ByteArray.size_append, ByteArray.size_append, txt_size, txt_size, txt_size]
theorem dT_enc (t f k : Int) (d : ByteArray) (h : 0 ≤ t ∧ t ≤ 281474976710655) : dT (encS t f k d) = t := by
  unfold dT numS
  rw [ext_toList, enc_toList, List.drop_zero, List.take_left' (by rw [txtL_len])]
  exact num_txt t 6 h.1 (by have := h.2; omega)
theorem dF_enc (t f k : Int) (d : ByteArray) (h : 0 ≤ f ∧ f ≤ 281474976710655) : dF (encS t f k d) = f := by
  unfold dF numS
  rw [ext_toList, enc_toList, List.drop_left' (by rw [txtL_len]), List.take_left' (by rw [txtL_len])]
  exact num_txt f 6 h.1 (by have := h.2; omega)
theorem dK_enc (t f k : Int) (d : ByteArray) (h : 0 ≤ k ∧ k ≤ 65535) : dK (encS t f k d) = k := by
  unfold dK numS
  rw [ext_toList, enc_toList, ← List.append_assoc, List.drop_left' (by rw [List.length_append, txtL_len, txtL_len]), List.take_left' (by rw [txtL_len])]
  exact num_txt k 2 h.1 (by have := h.2; omega)
theorem dD_enc (t f k : Int) (d : ByteArray) : dD (encS t f k d) = d := by
  apply ba_toList
  unfold dD
  rw [ext_toList, enc_toList, enc_size, ← List.append_assoc, ← List.append_assoc, List.drop_left' (by rw [List.length_append, List.length_append, txtL_len, txtL_len, txtL_len]), List.take_of_length_le (by rw [len_toList]; omega)]

theorem dec_of_enc {t f k : Int} {d : ByteArray} (h : mayB t f k d.size = true) :
    decB (encS t f k d) = true ∧ deT (encS t f k d) = t ∧ deF (encS t f k d) = f ∧ deK (encS t f k d) = k ∧ deD (encS t f k d) = d := by
  obtain ⟨ht, hf, hg, hk, hz⟩ := may_parts h
  have e1 := dT_enc t f k d ht
  have e2 := dF_enc t f k d hf
  have e3 := dK_enc t f k d ⟨by omega, hk.2⟩
  have e4 := dD_enc t f k d
  have hB : decB (encS t f k d) = true := by
    unfold decB; rw [if_pos (by rw [enc_size]; omega), e1, e2, e3, e4, h]
  unfold deT deF deK deD
  rw [hB]
  exact ⟨rfl, e1, e2, e3, e4⟩
end Go.Proofs.YtkpdmgoldngdaaaGreatDoor.Eth
