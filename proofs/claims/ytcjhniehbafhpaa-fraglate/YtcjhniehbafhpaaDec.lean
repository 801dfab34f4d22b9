/- The contract of Decode of package ip: the packet that the bytes are; nothing that was there turns. -/
import Derived.Test.YtcjhniehbafhpaaPks
import Derived.Deep.RegionWith
namespace Go.Proofs.Ytcjhniehbafhpaa
open Go.RowKit
set_option maxRecDepth 100000

def byS (s : ByteArray) (i : Nat) : Int := if h : i < s.size then (s[i].toNat : Int) else 0
theorem byS_is (s : ByteArray) (i : Nat) (h : i < s.size) : (s[i].toNat : Int) = byS s i := by unfold byS; rw [dif_pos h]
theorem byS_bd (s : ByteArray) (i : Nat) : 0 ≤ byS s i ∧ byS s i ≤ 255 := by
  unfold byS; split
  · have := (s[i]).toNat_lt; omega
  · omega
def dH (s : ByteArray) : Int := byS s 0 % 16 * 4
def dL (s : ByteArray) : Int := numS (s.extract 2 4)
def dF (s : ByteArray) : Int := numS (s.extract 12 16)
def dT (s : ByteArray) : Int := numS (s.extract 16 20)
def dTl (s : ByteArray) : Int := numS (s.extract 8 9)
def dPr (s : ByteArray) : Int := numS (s.extract 9 10)
def dId (s : ByteArray) : Int := numS (s.extract 4 6)
def dFl (s : ByteArray) : Int := numS (s.extract 6 8)
def dFr (s : ByteArray) : Int := dFl s % 8192
def dMo (s : ByteArray) : Bool := dFl s / 8192 % 2 == 1
def dDn (s : ByteArray) : Bool := dFl s / 16384 % 2 == 1
def dOp (s : ByteArray) : ByteArray := s.extract 20 (dH s).toNat
def dDa (s : ByteArray) : ByteArray := s.extract (dH s).toNat (dL s).toNat
def mayD (s : ByteArray) : Bool := mayP (dF s) (dT s) (dTl s) (dPr s) (dId s) (dFr s) (dMo s) (dOp s).size (dDa s).size
theorem numS_bd (s : ByteArray) (a b k : Nat) (h : b - a ≤ k) : 0 ≤ numS (s.extract a b) ∧ numS (s.extract a b) < 256 ^ k := by
  have hb := numL_bd (s.extract a b).data.toList
  have hl : (s.extract a b).data.toList.length ≤ k := by
    rw [len_toList, ByteArray.size_extract]; omega
  refine ⟨hb.1, Int.lt_of_lt_of_le hb.2 ?_⟩
  rw [show (256 : Int) = ((256 : Nat) : Int) from rfl, ← Int.natCast_pow, ← Int.natCast_pow]
  exact Int.ofNat_le.2 (Nat.pow_le_pow_right (by decide) hl)
theorem dFl_bd (s : ByteArray) : 0 ≤ dFl s ∧ dFl s ≤ 65535 := by have := numS_bd s 6 8 2 (by decide); unfold dFl; omega
theorem dL_bd (s : ByteArray) : 0 ≤ dL s ∧ dL s ≤ 65535 := by have := numS_bd s 2 4 2 (by decide); unfold dL; omega
theorem and15 (n : Int) : bits .and .u8 n 15 = n % 16 := by
  show IntKind.u8.wrap ((BitVec.ofInt 8 n &&& BitVec.ofInt 8 15).toNat : Nat) = _
  have e : (BitVec.ofInt 8 15).toNat = 2 ^ 4 - 1 := by decide
  rw [BitVec.toNat_and, e, Nat.and_two_pow_sub_one_eq_mod, BitVec.toNat_ofInt, IntKind.wrap_u8']
  omega
theorem and_frag (n : Int) : bits .and .i64 n 8191 = n % 8192 := by
  show IntKind.i64.wrap ((BitVec.ofInt 64 n &&& BitVec.ofInt 64 8191).toNat : Nat) = _
  have e : (BitVec.ofInt 64 8191).toNat = 2 ^ 13 - 1 := by decide
  rw [BitVec.toNat_and, e, Nat.and_two_pow_sub_one_eq_mod, BitVec.toNat_ofInt, IntKind.wrap_i64]
  omega
theorem and_pow (n k : Nat) : n &&& 2 ^ k = n / 2 ^ k % 2 * 2 ^ k := by
  apply Nat.eq_of_testBit_eq
  intro i
  have e2 : n / 2 ^ k % 2 = n / 2 ^ k % 2 ^ 1 := rfl
  rw [Nat.testBit_and, Nat.testBit_two_pow, Nat.testBit_mul_two_pow, e2, Nat.testBit_mod_two_pow, Nat.testBit_div_two_pow]
  by_cases h : k = i
  · subst h; simp
  · have : k ≤ i → ¬ i - k < 1 := by omega
    by_cases h2 : k ≤ i
    · simp [h, h2, this h2]
    · simp [h, h2]
theorem and_bit (n : Int) (k : Nat) (K : Int) (hK : K = ((2 ^ k : Nat) : Int)) (hk : k < 62) (h0 : 0 ≤ n) (h1 : n ≤ 65535) : (bits .and .i64 n K != 0) = (n / K % 2 == 1) := by
  obtain ⟨m, rfl⟩ := Int.eq_ofNat_of_zero_le h0
  subst hK
  have hp : 2 ^ k < 2 ^ 62 := Nat.pow_lt_pow_right (by decide) hk
  have hp0 : 0 < 2 ^ k := Nat.two_pow_pos k
  have e : bits .and .i64 (m : Int) ((2 ^ k : Nat) : Int) = ((m / 2 ^ k % 2 * 2 ^ k : Nat) : Int) := by
    show IntKind.i64.wrap ((BitVec.ofInt 64 (m : Int) &&& BitVec.ofInt 64 ((2 ^ k : Nat) : Int)).toNat : Nat) = _
    have ea : (BitVec.ofInt 64 (m : Int)).toNat = m := by rw [BitVec.toNat_ofInt]; omega
    have eb : (BitVec.ofInt 64 ((2 ^ k : Nat) : Int)).toNat = 2 ^ k := by rw [BitVec.toNat_ofInt]; omega
    rw [BitVec.toNat_and, ea, eb, and_pow, IntKind.wrap_i64]
    have : m / 2 ^ k % 2 = 0 ∨ m / 2 ^ k % 2 = 1 := by omega
    rcases this with h | h <;> rw [h] <;> omega
  rw [e]
  have e2 : (m : Int) / ((2 ^ k : Nat) : Int) % 2 = ((m / 2 ^ k % 2 : Nat) : Int) := by omega
  rw [e2]
  have : m / 2 ^ k % 2 = 0 ∨ m / 2 ^ k % 2 = 1 := by omega
  rcases this with h | h <;> rw [h]
  · simp
  · rw [Nat.one_mul]
    have e3 : (((2 ^ k : Nat) : Int) != 0) = true := by rw [bne_iff_ne]; omega
    rw [e3]; rfl
theorem getV_is (s : ByteArray) (off k : Int) (a b : Nat) (ha : off = a) (hb : off + k = b) (hk : 1 ≤ k ∧ k ≤ 6) (h20 : 20 ≤ (s.size : Int)) (h : off + k ≤ 20) : getV s off k = numS (s.extract a b) := by
  unfold getV
  rw [getB_t ⟨hk.1, hk.2, by omega, by omega⟩, if_pos rfl, hb, ha]
  rfl

theorem ret_iib {a b : Int} {c d : Bool} (h : c = d) : Ending.returned (.tuple #[.int .i64 a, .int .i64 b, .bool c]) = .returned (.tuple #[.int .i64 a, .int .i64 b, .bool d]) := by rw [h]
theorem dOp_size {s : ByteArray} (hH : 20 ≤ dH s) (hL : dH s ≤ dL s) (hS : dL s ≤ (s.size : Int)) : ((dOp s).size : Int) = dH s - 20 := by
  unfold dOp; rw [ByteArray.size_extract]; omega
theorem dDa_size {s : ByteArray} (hH : 20 ≤ dH s) (hL : dH s ≤ dL s) (hS : dL s ≤ (s.size : Int)) : ((dDa s).size : Int) = dL s - dH s := by
  unfold dDa; rw [ByteArray.size_extract]; omega
theorem dH_bd (s : ByteArray) : 0 ≤ dH s ∧ dH s ≤ 60 := by unfold dH; have := byS_bd s 0; omega
def headS' (s : ByteArray) : ByteArray := s.extract 0 (dH s).toNat

theorem hd_size (s : ByteArray) : (headS' s).size ≤ 140737488355328 := by
  unfold headS'; rw [ByteArray.size_extract]; have := dH_bd s; omega
end Go.Proofs.Ytcjhniehbafhpaa
