/- The contracts of put, flags, header, Encode, Check, Hop and Whole of package ip: each returns just the values named here; nothing that was there turns. -/
import Derived.Test.YtcjhniehbafhpaaPks
namespace Go.Proofs.Ytcjhniehbafhpaa
open Go.RowKit
set_option maxRecDepth 100000

theorem keep10 {w W x : World} {a0 a1 a2 a3 a4 a5 a6 a7 a8 a9 : Addr} {v0 v1 v2 v3 v4 v5 v6 v7 v8 v9 : Value} (hb : Below W.heap.size W x) (h : Below w.heap.size w W ∧ W.cell? a0 = some v0 ∧ W.cell? a1 = some v1 ∧ W.cell? a2 = some v2 ∧ W.cell? a3 = some v3 ∧ W.cell? a4 = some v4 ∧ W.cell? a5 = some v5 ∧ W.cell? a6 = some v6 ∧ W.cell? a7 = some v7 ∧ W.cell? a8 = some v8 ∧ W.cell? a9 = some v9) :
    Below w.heap.size w x ∧ x.cell? a0 = some v0 ∧ x.cell? a1 = some v1 ∧ x.cell? a2 = some v2 ∧ x.cell? a3 = some v3 ∧ x.cell? a4 = some v4 ∧ x.cell? a5 = some v5 ∧ x.cell? a6 = some v6 ∧ x.cell? a7 = some v7 ∧ x.cell? a8 = some v8 ∧ x.cell? a9 = some v9 :=
  ⟨bt h.1 hb, later hb h.2.1, later hb h.2.2.1, later hb h.2.2.2.1, later hb h.2.2.2.2.1, later hb h.2.2.2.2.2.1, later hb h.2.2.2.2.2.2.1, later hb h.2.2.2.2.2.2.2.1, later hb h.2.2.2.2.2.2.2.2.1, later hb h.2.2.2.2.2.2.2.2.2.1, later hb h.2.2.2.2.2.2.2.2.2.2⟩
def flagsV (fr : Int) (mo dn : Bool) : Int := fr + (if dn = true then 16384 else 0) + (if mo = true then 8192 else 0)
def headP (f t tl pr id fr : Int) (mo dn : Bool) (op da : ByteArray) : ByteArray := txt (64 + (20 + (op.size : Int)) / 4) 1 ++ txt 0 1 ++ txt (20 + (op.size : Int) + (da.size : Int)) 2 ++ txt id 2 ++ txt (flagsV fr mo dn) 2 ++ txt tl 1 ++ txt pr 1 ++ txt 0 2 ++ txt f 4 ++ txt t 4 ++ op
def encP (f t tl pr id fr : Int) (mo dn : Bool) (op da : ByteArray) : ByteArray := sealS (headP f t tl pr id fr mo dn op da) 10 ++ da
theorem headP_size (f t tl pr id fr : Int) (mo dn : Bool) (op da : ByteArray) : (headP f t tl pr id fr mo dn op da).size = 20 + op.size := by
  unfold headP
  simp only [ByteArray.size_append, txt_size]
theorem encP_size (f t tl pr id fr : Int) (mo dn : Bool) (op da : ByteArray) : (encP f t tl pr id fr mo dn op da).size = 20 + op.size + da.size := by
  unfold encP
  rw [ByteArray.size_append, sealS_size _ _ (by decide) (by rw [headP_size]; omega), headP_size]
theorem flagsV_bd (fr : Int) (mo dn : Bool) (h0 : 0 ≤ fr) (h1 : fr ≤ 8191) : 0 ≤ flagsV fr mo dn ∧ flagsV fr mo dn ≤ 32767 := by
  unfold flagsV; cases mo <;> cases dn <;> simp <;> omega

theorem bor_add (a b k : Nat) (ha : a % 2 ^ k = 0) (hb : b < 2 ^ k) : a ||| b = a + b := by
  obtain ⟨c, rfl⟩ : ∃ c, a = 2 ^ k * c := ⟨a / 2 ^ k, by have := Nat.div_add_mod a (2 ^ k); omega⟩
  exact (Nat.two_pow_add_eq_or_of_lt hb c).symm
theorem or_nat (a b : Nat) (ha : a < 2 ^ 62) (hb : b < 2 ^ 62) : bits .or .i64 (a : Int) (b : Int) = ((a ||| b : Nat) : Int) := by
  show IntKind.i64.wrap ((BitVec.ofInt 64 (a : Int) ||| BitVec.ofInt 64 (b : Int)).toNat : Nat) = _
  have ea : (BitVec.ofInt 64 (a : Int)).toNat = a := by rw [BitVec.toNat_ofInt]; omega
  have eb : (BitVec.ofInt 64 (b : Int)).toNat = b := by rw [BitVec.toNat_ofInt]; omega
  have hl := Nat.or_lt_two_pow ha hb
  rw [BitVec.toNat_or, ea, eb, IntKind.wrap_i64]
  omega
theorem or_head (n : Int) (h0 : 0 ≤ n) (h1 : n ≤ 15) : bits .or .i64 64 n = 64 + n := by
  obtain ⟨m, rfl⟩ := Int.eq_ofNat_of_zero_le h0
  have := or_nat 64 m (by decide) (by omega)
  rw [bor_add 64 m 4 (by decide) (by omega)] at this
  exact this
theorem or_dont (n : Int) (h0 : 0 ≤ n) (h1 : n ≤ 8191) : bits .or .i64 n 16384 = n + 16384 := by
  obtain ⟨m, rfl⟩ := Int.eq_ofNat_of_zero_le h0
  have := or_nat m 16384 (by omega) (by decide)
  rw [Nat.or_comm, bor_add 16384 m 13 (by decide) (by omega)] at this
  rw [Int.add_comm]
  exact this
theorem or_more (n : Int) (h0 : 0 ≤ n) (h1 : n ≤ 8191) : bits .or .i64 n 8192 = n + 8192 := by
  obtain ⟨m, rfl⟩ := Int.eq_ofNat_of_zero_le h0
  have := or_nat m 8192 (by omega) (by decide)
  rw [Nat.or_comm, bor_add 8192 m 13 (by decide) (by omega)] at this
  rw [Int.add_comm]
  exact this
theorem or_both (n : Int) (h0 : 0 ≤ n) (h1 : n ≤ 8191) : bits .or .i64 (n + 16384) 8192 = n + 16384 + 8192 := by
  obtain ⟨m, rfl⟩ := Int.eq_ofNat_of_zero_le h0
  have := or_nat (m + 16384) 8192 (by omega) (by decide)
  have e1 : m + 16384 = 16384 ||| m := by rw [bor_add 16384 m 13 (by decide) (by omega)]; omega
  rw [e1, Nat.or_assoc, Nat.or_comm m, ← Nat.or_assoc, show (16384 ||| 8192 : Nat) = 24576 by decide, bor_add 24576 m 13 (by decide) (by omega)] at this
  rw [← e1] at this
  rw [show ((m : Int) + 16384) = ((m + 16384 : Nat) : Int) by omega]
  refine this.trans ?_
  omega

theorem putV_le (n k : Int) : (putV n k).size ≤ 6 := by
  unfold putV
  split
  · rename_i h
    have := of_decide_eq_true h
    rw [txt_size]; omega
  · exact Nat.zero_le _
theorem putV_is (n k : Int) (j : Nat) (hk : k = j) (hj : 1 ≤ j ∧ j ≤ 6) (h0 : 0 ≤ n) (h1 : n < 2 ^ (8 * j)) : putV n k = txt n j := by
  subst hk
  unfold putV
  rw [putB_t ⟨by omega, by omega, h0, by simpa using h1⟩, if_pos rfl]
  rfl

theorem head_is (f t tl pr id fr : Int) (mo dn : Bool) (op da : ByteArray) (h : mayP f t tl pr id fr mo op.size da.size = true) : (putV (64 + (20 + (op.size : Int)) / 4) 1) ++ (putV 0 1) ++ (putV (20 + (op.size : Int) + (da.size : Int)) 2) ++ (putV id 2) ++ (putV (flagsV fr mo dn) 2) ++ (putV tl 1) ++ (putV pr 1) ++ (putV 0 2) ++ (putV f 4) ++ (putV t 4) ++ op = headP f t tl pr id fr mo dn op da := by
  obtain ⟨⟨f0, f1⟩, ⟨t0, t1⟩, ⟨l0, l1⟩, ⟨p0, p1⟩, ⟨i0, i1⟩, ⟨r0, r1⟩, o4, o40, hm, hz, hz2⟩ := mayP_q h
  have hf := flagsV_bd fr mo dn r0 r1
  unfold headP
  rw [putV_is _ 1 1 rfl (by decide) (by omega) (by simp; omega), putV_is 0 1 1 rfl (by decide) (by omega) (by decide), putV_is _ 2 2 rfl (by decide) (by omega) (by simp; omega), putV_is id 2 2 rfl (by decide) i0 (by simp; omega), putV_is (flagsV fr mo dn) 2 2 rfl (by decide) hf.1 (by simp; omega), putV_is tl 1 1 rfl (by decide) l0 (by simp; omega), putV_is pr 1 1 rfl (by decide) p0 (by simp; omega), putV_is 0 2 2 rfl (by decide) (by omega) (by decide), putV_is f 4 4 rfl (by decide) f0 (by simp; omega), putV_is t 4 4 rfl (by decide) t0 (by simp; omega)]
theorem seal_is (f t tl pr id fr : Int) (mo dn : Bool) (op da : ByteArray) (h : mayP f t tl pr id fr mo op.size da.size = true) : sealV ((putV (64 + (20 + (op.size : Int)) / 4) 1) ++ (putV 0 1) ++ (putV (20 + (op.size : Int) + (da.size : Int)) 2) ++ (putV id 2) ++ (putV (flagsV fr mo dn) 2) ++ (putV tl 1) ++ (putV pr 1) ++ (putV 0 2) ++ (putV f 4) ++ (putV t 4) ++ op) 10 = sealS (headP f t tl pr id fr mo dn op da) 10 := by
  rw [head_is f t tl pr id fr mo dn op da h]
  have hq := mayP_q h
  have hz := headP_size f t tl pr id fr mo dn op da
  obtain ⟨-, -, -, -, -, -, -, o40, -, -, -⟩ := hq
  unfold sealV
  rw [place_t (by rw [hz]; omega), if_pos rfl, if_pos (by omega)]

end Go.Proofs.Ytcjhniehbafhpaa
