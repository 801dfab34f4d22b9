/- the texts PPks, PDec, PIpm, in part, merged by program -/
import Derived.Test.YtkpdmgoldngdaaaGreatDoorRows
import Derived.Deep.RegionHeld3
import Derived.Deep.QuietTactic
import Derived.BigQuiet
import Derived.WalkSmall
import Derived.WalkKit
import Derived.WalkSpells
import Derived.Deep.RegionWith
import Derived.LoopN
import Derived.Test.YtkpdmgoldngdaaaGreatDoorMA01
import Derived.Test.YtkpdmgoldngdaaaGreatDoorMA03
import Derived.Test.YtkpdmgoldngdaaaGreatDoorMD01
namespace Go.Proofs.YtkpdmgoldngdaaaGreatDoor.Ip
open Go.RowKit
set_option maxRecDepth 100000
theorem below10 {w W : World} {b : Nat} (h : Below w.heap.size w W) (hb : w.heap.size ≤ b) (v0 v1 v2 v3 v4 v5 v6 v7 v8 v9 : Value) : Below w.heap.size w ((((((((((W.setCell ⟨b, 0, none⟩ v0).setCell ⟨b, 1, none⟩ v1).setCell ⟨b, 2, none⟩ v2).setCell ⟨b, 3, none⟩ v3).setCell ⟨b, 4, none⟩ v4).setCell ⟨b, 5, none⟩ v5).setCell ⟨b, 6, none⟩ v6).setCell ⟨b, 7, none⟩ v7).setCell ⟨b, 8, none⟩ v8).setCell ⟨b, 9, none⟩ v9) :=
  ((((((((((h.setCell hb _).setCell hb _).setCell hb _).setCell hb _).setCell hb _).setCell hb _).setCell hb _).setCell hb _).setCell hb _).setCell hb _)

end Go.Proofs.YtkpdmgoldngdaaaGreatDoor.Ip

namespace Go.Proofs.YtkpdmgoldngdaaaGreatDoor.Ip
open Go.RowKit
set_option maxRecDepth 100000

def byS (s : ByteArray) (i : Nat) : Int := if h : i < s.size then (s[i].toNat : Int) else 0
theorem byS_is (s : ByteArray) (i : Nat) (h : i < s.size) : (s[i].toNat : Int) = byS s i := by unfold byS; rw [dif_pos h]
theorem byS_bd (s : ByteArray) (i : Nat) : 0 ≤ byS s i ∧ byS s i ≤ 255 := by
  unfold byS; split
  · have := (s[i]).toNat_lt; omega
  · omega
def dH (s : ByteArray) : Int := byS s 0 % 16 * 4
def dL (s : ByteArray) : Int := numS (s.extract 2 4)
def dF (s : ByteArray) : Int := numS (s.extract 12 16)
def dT (s : ByteArray) : Int := numS (s.extract 16 20)
def dTl (s : ByteArray) : Int := numS (s.extract 8 9)
def dPr (s : ByteArray) : Int := numS (s.extract 9 10)
def dId (s : ByteArray) : Int := numS (s.extract 4 6)
def dFl (s : ByteArray) : Int := numS (s.extract 6 8)
def dFr (s : ByteArray) : Int := dFl s % 8192
def dMo (s : ByteArray) : Bool := dFl s / 8192 % 2 == 1
def dDn (s : ByteArray) : Bool := dFl s / 16384 % 2 == 1
def dOp (s : ByteArray) : ByteArray := s.extract 20 (dH s).toNat
def dDa (s : ByteArray) : ByteArray := s.extract (dH s).toNat (dL s).toNat
def mayD (s : ByteArray) : Bool := mayP (dF s) (dT s) (dTl s) (dPr s) (dId s) (dFr s) (dMo s) (dOp s).size (dDa s).size
theorem numS_bd (s : ByteArray) (a b k : Nat) (h : b - a ≤ k) : 0 ≤ numS (s.extract a b) ∧ numS (s.extract a b) < 256 ^ k := by
  have hb := numL_bd (s.extract a b).data.toList
  have hl : (s.extract a b).data.toList.length ≤ k := by
    rw [len_toList, ByteArray.size_extract]; omega
  refine ⟨hb.1, Int.lt_of_lt_of_le hb.2 ?_⟩
  rw [show (256 : Int) = ((256 : Nat) : Int) from rfl, ← Int.natCast_pow, ← Int.natCast_pow]
  exact Int.ofNat_le.2 (Nat.pow_le_pow_right (by decide) hl)
theorem dFl_bd (s : ByteArray) : 0 ≤ dFl s ∧ dFl s ≤ 65535 := by have := numS_bd s 6 8 2 (by decide); unfold dFl; omega
theorem dL_bd (s : ByteArray) : 0 ≤ dL s ∧ dL s ≤ 65535 := by have := numS_bd s 2 4 2 (by decide); unfold dL; omega
theorem and15 (n : Int) : bits .and .u8 n 15 = n % 16 := by
  show IntKind.u8.wrap ((BitVec.ofInt 8 n &&& BitVec.ofInt 8 15).toNat : Nat) = _
  have e : (BitVec.ofInt 8 15).toNat = 2 ^ 4 - 1 := by decide
  rw [BitVec.toNat_and, e, Nat.and_two_pow_sub_one_eq_mod, BitVec.toNat_ofInt, IntKind.wrap_u8']
  omega
theorem and_frag (n : Int) : bits .and .i64 n 8191 = n % 8192 := by
  show IntKind.i64.wrap ((BitVec.ofInt 64 n &&& BitVec.ofInt 64 8191).toNat : Nat) = _
  have e : (BitVec.ofInt 64 8191).toNat = 2 ^ 13 - 1 := by decide
  rw [BitVec.toNat_and, e, Nat.and_two_pow_sub_one_eq_mod, BitVec.toNat_ofInt, IntKind.wrap_i64]
  omega
theorem and_pow (n k : Nat) : n &&& 2 ^ k = n / 2 ^ k % 2 * 2 ^ k := by
  apply Nat.eq_of_testBit_eq
  intro i
  have e2 : n / 2 ^ k % 2 = n / 2 ^ k % 2 ^ 1 := rfl
  rw [Nat.testBit_and, Nat.testBit_two_pow, Nat.testBit_mul_two_pow, e2, Nat.testBit_mod_two_pow, Nat.testBit_div_two_pow]
  by_cases h : k = i
  · subst h; simp
  · have : k ≤ i → ¬ i - k < 1 := by omega
    by_cases h2 : k ≤ i
    · simp [h, h2, this h2]
    · simp [h, h2]
theorem and_bit (n : Int) (k : Nat) (K : Int) (hK : K = ((2 ^ k : Nat) : Int)) (hk : k < 62) (h0 : 0 ≤ n) (h1 : n ≤ 65535) : (bits .and .i64 n K != 0) = (n / K % 2 == 1) := by
  obtain ⟨m, rfl⟩ := Int.eq_ofNat_of_zero_le h0
  subst hK
  have hp : 2 ^ k < 2 ^ 62 := Nat.pow_lt_pow_right (by decide) hk
  have hp0 : 0 < 2 ^ k := Nat.two_pow_pos k
  have e : bits .and .i64 (m : Int) ((2 ^ k : Nat) : Int) = ((m / 2 ^ k % 2 * 2 ^ k : Nat) : Int) := by
    show IntKind.i64.wrap ((BitVec.ofInt 64 (m : Int) &&& BitVec.ofInt 64 ((2 ^ k : Nat) : Int)).toNat : Nat) = _
    have ea : (BitVec.ofInt 64 (m : Int)).toNat = m := by rw [BitVec.toNat_ofInt]; omega
    have eb : (BitVec.ofInt 64 ((2 ^ k : Nat) : Int)).toNat = 2 ^ k := by rw [BitVec.toNat_ofInt]; omega
    rw [BitVec.toNat_and, ea, eb, and_pow, IntKind.wrap_i64]
    have : m / 2 ^ k % 2 = 0 ∨ m / 2 ^ k % 2 = 1 := by omega
    rcases this with h | h <;> rw [h] <;> omega
  rw [e]
  have e2 : (m : Int) / ((2 ^ k : Nat) : Int) % 2 = ((m / 2 ^ k % 2 : Nat) : Int) := by omega
  rw [e2]
  have : m / 2 ^ k % 2 = 0 ∨ m / 2 ^ k % 2 = 1 := by omega
  rcases this with h | h <;> rw [h]
  · simp
  · rw [Nat.one_mul]
    have e3 : (((2 ^ k : Nat) : Int) != 0) = true := by rw [bne_iff_ne]; omega
    rw [e3]; rfl
theorem get_c (s : ByteArray) (off k : Int) (w : World) (hs : s.size ≤ maxLen) : Calls Tryz.prog 140 #[.string s, .int .i64 off, .int .i64 k] w fun e w' => e = .returned (.int .i64 (getV s off k)) ∧ Below w.heap.size w w' := by
  go_enter Tryz.func140, Tryz.ntmps140
  go_wp2_with fail
  refine (get_any s off k _ hs).mono ?_
  rintro e w1 ⟨rfl, hb⟩
  go_wp2
  go_ret
  exact ⟨rfl, hb⟩
theorem getV_is (s : ByteArray) (off k : Int) (a b : Nat) (ha : off = a) (hb : off + k = b) (hk : 1 ≤ k ∧ k ≤ 6) (h20 : 20 ≤ (s.size : Int)) (h : off + k ≤ 20) : getV s off k = numS (s.extract a b) := by
  unfold getV
  rw [getB_t ⟨hk.1, hk.2, by omega, by omega⟩, if_pos rfl, hb, ha]
  rfl

theorem ret_iib {a b : Int} {c d : Bool} (h : c = d) : Ending.returned (.tuple #[.int .i64 a, .int .i64 b, .bool c]) = .returned (.tuple #[.int .i64 a, .int .i64 b, .bool d]) := by rw [h]
set_option maxHeartbeats 1000000 in
theorem len_y {s : ByteArray} (h20 : 20 ≤ (s.size : Int)) (h4 : (byS s 0 / 16 != 4) = false) (b : Bool) (hb : b = false ∧ dH s < 20 ∨ b = false ∧ 20 ≤ dH s ∧ dL s < dH s ∨ b = false ∧ 20 ≤ dH s ∧ dH s ≤ dL s ∧ (s.size : Int) < dL s ∨ b = true ∧ 20 ≤ dH s ∧ dH s ≤ dL s ∧ dL s ≤ (s.size : Int)) (w : World) (hs : s.size ≤ 1125899906842624) :
    Calls Tryz.prog 105 #[.string s] w fun e w' => e = .returned (.tuple #[.int .i64 (dH s), .int .i64 (dL s), .bool b]) ∧ Below w.heap.size w w' := by
  have hs' : (s.size : Int) ≤ 1125899906842624 := by omega
  have hsm : s.size ≤ maxLen := by unfold maxLen; omega
  have h0 : 0 < s.size := by omega
  have e0 := byS_is s 0 h0
  have e1 := and15 (byS s 0)
  have e2 : byS s 0 % 16 * 4 = dH s := rfl
  have e3 := getV_is s 2 2 2 4 rfl rfl (by decide) h20 (by decide)
  have e4 : numS (s.extract 2 4) = dL s := rfl
  rw [e4] at e3
  have q0 : 0 ≤ byS s 0 % 16 := by omega
  have q1 : byS s 0 % 16 ≤ 15 := by omega
  clear e4
  rcases hb with ⟨rfl, a1⟩ | ⟨rfl, a1, a2⟩ | ⟨rfl, a1, a2, a3⟩ | ⟨rfl, a1, a2, a3⟩
  all_goals
    go_enter Tryz.func105, Tryz.ntmps105
    go_wp2_with fail
    refine (get_c _ _ _ _ hsm).mono ?_
    rintro e w1 ⟨rfl, hb⟩
    go_wp2
    go_ret3
    first | exact ⟨rfl, hb⟩ | exact ⟨ret_iib (decide_eq_false (by omega)), hb⟩ | exact ⟨ret_iib (decide_eq_true (by omega)), hb⟩

set_option maxRecDepth 100000 in
set_option maxHeartbeats 4000000 in
theorem read_y {s : ByteArray} (h20 : 20 ≤ (s.size : Int)) (hH : 20 ≤ dH s) (hL : dH s ≤ dL s) (hS : dL s ≤ (s.size : Int)) (w : World) (hs : s.size ≤ 1125899906842624) :
    Calls Tryz.prog 106 #[.string s, .int .i64 (dH s), .int .i64 (dL s)] w fun e w' => e = .returned (.agg #[.int .i64 (dF s), .int .i64 (dT s), .int .i64 (dTl s), .int .i64 (dPr s), .int .i64 (dId s), .int .i64 (dFr s), .bool (dMo s), .bool (dDn s), .string (dOp s), .string (dDa s)]) ∧ Below w.heap.size w w' := by
  have hs' : (s.size : Int) ≤ 1125899906842624 := by omega
  have hsm : s.size ≤ maxLen := by unfold maxLen; omega
  have hl := bel1 w (.cells #[.int .i64 0, .int .i64 0, .int .i64 0, .int .i64 0, .int .i64 0, .int .i64 0, .bool false, .bool false, .string ⟨#[]⟩, .string ⟨#[]⟩] 27)
  have hR := At.box w #[.int .i64 0, .int .i64 0, .int .i64 0, .int .i64 0, .int .i64 0, .int .i64 0, .bool false, .bool false, .string ⟨#[]⟩, .string ⟨#[]⟩] 27
  have hHs : dH s ≤ (s.size : Int) := by omega
  have hH0 : 0 ≤ dH s := by omega
  have hL0 : 0 ≤ dL s := by omega
  have e1 : getV s 6 2 = dFl s := getV_is s 6 2 6 8 rfl rfl (by decide) h20 (by decide)
  have e2 : getV s 12 4 = dF s := getV_is s 12 4 12 16 rfl rfl (by decide) h20 (by decide)
  have e3 : getV s 16 4 = dT s := getV_is s 16 4 16 20 rfl rfl (by decide) h20 (by decide)
  have e4 : getV s 8 1 = dTl s := getV_is s 8 1 8 9 rfl rfl (by decide) h20 (by decide)
  have e5 : getV s 9 1 = dPr s := getV_is s 9 1 9 10 rfl rfl (by decide) h20 (by decide)
  have e6 : getV s 4 2 = dId s := getV_is s 4 2 4 6 rfl rfl (by decide) h20 (by decide)
  have e7 : bits .and .i64 (dFl s) 8191 = dFr s := and_frag _
  have e8 : (bits .and .i64 (dFl s) 8192 != 0) = dMo s := and_bit _ 13 8192 rfl (by decide) (dFl_bd s).1 (dFl_bd s).2
  have e9 : (bits .and .i64 (dFl s) 16384 != 0) = dDn s := and_bit _ 14 16384 rfl (by decide) (dFl_bd s).1 (dFl_bd s).2
  have x1 : s.extract 20 (dH s).toNat = dOp s := rfl
  have x2 : s.extract (dH s).toNat (dL s).toNat = dDa s := rfl
  have hg := fun W off k => get_c s off k W hsm
  generalize dFl s = FL at *
  generalize dF s = X1 at *
  generalize dT s = X2 at *
  generalize dTl s = X3 at *
  generalize dPr s = X4 at *
  generalize dId s = X5 at *
  generalize dFr s = X6 at *
  generalize dMo s = X7 at *
  generalize dDn s = X8 at *
  generalize dOp s = X9 at *
  generalize dDa s = X10 at *
  generalize dH s = H at *
  generalize dL s = L at *
  go_enter Tryz.func106, Tryz.ntmps106
  go_wp2_with fail
  refine (hg _ _ _).mono ?_
  rintro e w1 ⟨rfl, hb⟩
  have hl := bt hl hb
  replace hR := hR.later hb
  clear hb
  have hR : At w1.drew w.heap.size #[.int .i64 0, .int .i64 0, .int .i64 0, .int .i64 0, .int .i64 0, .int .i64 0, .bool false, .bool false, .string ⟨#[]⟩, .string ⟨#[]⟩] := hR
  have hl : Below w.heap.size w w1.drew := hl.drew
  go_wp2
  go_region_with (first | (go_at_call 140; refine (hg _ _ _).mono ?_; rintro e w' ⟨rfl, hb⟩; replace hl := bt hl hb; replace hR := hR.later hb; clear hb; (try clear hx); have hx := hR.ten))
  obtain ⟨⟨r0, r1, r2, r3, r4, r5, r6, r7, r8, r9⟩, -, hlt⟩ := hx
  go_wp2
  exact bodyPost_ret (v := .agg #[.int .i64 X1, .int .i64 X2, .int .i64 X3, .int .i64 X4, .int .i64 X5, .int .i64 X6, .bool X7, .bool X8, .string X9, .string X10]) (by simp [results, Tryz.results106, go_sem, r0, r1, r2, r3, r4, r5, r6, r7, r8, r9]) rfl ⟨rfl, below10 hl (Nat.le_refl _) _ _ _ _ _ _ _ _ _ _⟩

theorem dOp_size {s : ByteArray} (hH : 20 ≤ dH s) (hL : dH s ≤ dL s) (hS : dL s ≤ (s.size : Int)) : ((dOp s).size : Int) = dH s - 20 := by
  unfold dOp; rw [ByteArray.size_extract]; omega
theorem dDa_size {s : ByteArray} (hH : 20 ≤ dH s) (hL : dH s ≤ dL s) (hS : dL s ≤ (s.size : Int)) : ((dDa s).size : Int) = dL s - dH s := by
  unfold dDa; rw [ByteArray.size_extract]; omega
theorem dH_bd (s : ByteArray) : 0 ≤ dH s ∧ dH s ≤ 60 := by unfold dH; have := byS_bd s 0; omega
def headS' (s : ByteArray) : ByteArray := s.extract 0 (dH s).toNat

theorem wh_t {s : ByteArray} (h : sumS s = 0) (w : World) (hs : s.size ≤ 140737488355328) : Calls Tryz.prog 70 #[.string s] w fun e w' => e = .returned (.bool true) ∧ Below w.heap.size w w' := by
  have := whole_any s w hs; rw [h] at this; exact this
theorem hd_size (s : ByteArray) : (headS' s).size ≤ 140737488355328 := by
  unfold headS'; rw [ByteArray.size_extract]; have := dH_bd s; omega
set_option maxRecDepth 100000 in
set_option maxHeartbeats 2000000 in
theorem dec_4 {s : ByteArray} (h20 : 20 ≤ (s.size : Int)) (h4 : (byS s 0 / 16 != 4) = false) (hH : 20 ≤ dH s) (hL : dH s ≤ dL s) (hS : dL s ≤ (s.size : Int)) (hw : sumS (headS' s) = 0) (h : (byS s 1 != 0) = true ∨ (byS s 1 != 0) = false ∧ (byS s 6 / 128 != 0) = true) (w : World) (hs : s.size ≤ 1125899906842624) :
    Calls Tryz.prog 61 #[.string s] w fun e w' => e = .returned (.tuple #[.agg #[.int .i64 0, .int .i64 0, .int .i64 0, .int .i64 0, .int .i64 0, .int .i64 0, .bool false, .bool false, .string ⟨#[]⟩, .string ⟨#[]⟩], .int .i64 50]) ∧ Below w.heap.size w w' := by
  have hl := bel1 w (.cells #[.int .i64 0, .int .i64 0, .int .i64 0, .int .i64 0, .int .i64 0, .int .i64 0, .bool false, .bool false, .string ⟨#[]⟩, .string ⟨#[]⟩] 27)
  have hR := At.box w #[.int .i64 0, .int .i64 0, .int .i64 0, .int .i64 0, .int .i64 0, .int .i64 0, .bool false, .bool false, .string ⟨#[]⟩, .string ⟨#[]⟩] 27
  have x1 : s.extract 0 (dH s).toNat = headS' s := rfl
  have hHs : dH s ≤ (s.size : Int) := by omega
  have hH0 : 0 ≤ dH s := by omega
  have e1 := byS_is s 1 (by omega)
  have e6 := byS_is s 6 (by omega)
  have z1 := dOp_size hH hL hS
  have z2 := dDa_size hH hL hS
  have hbd := dH_bd s
  have hbl := dL_bd s
  have ho : (dOp s).size ≤ 1125899906842624 := by omega
  have hd : (dDa s).size ≤ 1125899906842624 := by omega
  have hq1 : 1 < (s.size : Int) := by omega
  have hq6 : 6 < (s.size : Int) := by omega
  clear z1 z2 hbd hbl
  rcases h with h | ⟨h, h2⟩
  all_goals
    go_enter Tryz.func61, Tryz.ntmps61
    go_wp2_with fail
    refine (len_y h20 h4 true (.inr (.inr (.inr ⟨rfl, hH, hL, hS⟩))) _ hs).mono ?_
    rintro e w1 ⟨rfl, hb⟩
    have hl := bt hl hb
    replace hR := hR.later hb
    clear hb
    go_wp2_with fail
    refine (wh_t hw _ (hd_size s)).mono ?_
    rintro e w2 ⟨rfl, hb⟩
    replace hl := bt hl hb
    replace hR := hR.later hb
    clear hb
    go_wp2_with fail
    refine (read_y h20 hH hL hS _ hs).mono ?_
    rintro e w3 ⟨rfl, hb⟩
    replace hl := bt hl hb
    replace hR := hR.later hb
    clear hb
    have hP := At.box w3 #[.int .i64 (dF s), .int .i64 (dT s), .int .i64 (dTl s), .int .i64 (dPr s), .int .i64 (dId s), .int .i64 (dFr s), .bool (dMo s), .bool (dDn s), .string (dOp s), .string (dDa s)] 27
    replace hR := hR.later (bel1 w3 (.cells #[.int .i64 (dF s), .int .i64 (dT s), .int .i64 (dTl s), .int .i64 (dPr s), .int .i64 (dId s), .int .i64 (dFr s), .bool (dMo s), .bool (dDn s), .string (dOp s), .string (dDa s)] 27))
    replace hl := bt hl (bel1 w3 (.cells #[.int .i64 (dF s), .int .i64 (dT s), .int .i64 (dTl s), .int .i64 (dPr s), .int .i64 (dId s), .int .i64 (dFr s), .bool (dMo s), .bool (dDn s), .string (dOp s), .string (dDa s)] 27))
    obtain ⟨⟨r0, r1, r2, r3, r4, r5, r6, r7, r8, r9⟩, ⟨f0, f1, f2, f3, f4, f5, f6, f7, f8, f9⟩, hlt⟩ := hR.ten
    go_wp2
    exact bodyPost_ret (v := .tuple #[.agg #[.int .i64 0, .int .i64 0, .int .i64 0, .int .i64 0, .int .i64 0, .int .i64 0, .bool false, .bool false, .string ⟨#[]⟩, .string ⟨#[]⟩], .int .i64 50]) (by simp [results, Tryz.results61, go_sem, r0, r1, r2, r3, r4, r5, r6, r7, r8, r9]) rfl ⟨rfl, below10 hl (Nat.le_refl _) _ _ _ _ _ _ _ _ _ _⟩

set_option maxRecDepth 100000 in
set_option maxHeartbeats 2000000 in
theorem dec_5 {s : ByteArray} (h20 : 20 ≤ (s.size : Int)) (h4 : (byS s 0 / 16 != 4) = false) (hH : 20 ≤ dH s) (hL : dH s ≤ dL s) (hS : dL s ≤ (s.size : Int)) (hw : sumS (headS' s) = 0) (h1 : (byS s 1 != 0) = false) (h6 : (byS s 6 / 128 != 0) = false) (h : mayD s = true) (w : World) (hs : s.size ≤ 1125899906842624) :
    Calls Tryz.prog 61 #[.string s] w fun e w' => e = .returned (.tuple #[.agg #[.int .i64 (dF s), .int .i64 (dT s), .int .i64 (dTl s), .int .i64 (dPr s), .int .i64 (dId s), .int .i64 (dFr s), .bool (dMo s), .bool (dDn s), .string (dOp s), .string (dDa s)], .int .i64 0]) ∧ Below w.heap.size w w' := by
  have hl := bel1 w (.cells #[.int .i64 0, .int .i64 0, .int .i64 0, .int .i64 0, .int .i64 0, .int .i64 0, .bool false, .bool false, .string ⟨#[]⟩, .string ⟨#[]⟩] 27)
  have hR := At.box w #[.int .i64 0, .int .i64 0, .int .i64 0, .int .i64 0, .int .i64 0, .int .i64 0, .bool false, .bool false, .string ⟨#[]⟩, .string ⟨#[]⟩] 27
  have x1 : s.extract 0 (dH s).toNat = headS' s := rfl
  have hHs : dH s ≤ (s.size : Int) := by omega
  have hH0 : 0 ≤ dH s := by omega
  have e1 := byS_is s 1 (by omega)
  have e6 := byS_is s 6 (by omega)
  have z1 := dOp_size hH hL hS
  have z2 := dDa_size hH hL hS
  have hbd := dH_bd s
  have hbl := dL_bd s
  have ho : (dOp s).size ≤ 1125899906842624 := by omega
  have hd : (dDa s).size ≤ 1125899906842624 := by omega
  have hq1 : 1 < (s.size : Int) := by omega
  have hq6 : 6 < (s.size : Int) := by omega
  clear z1 z2 hbd hbl
  have hh := h
  iterate 1
    go_enter Tryz.func61, Tryz.ntmps61
    go_wp2_with fail
    refine (len_y h20 h4 true (.inr (.inr (.inr ⟨rfl, hH, hL, hS⟩))) _ hs).mono ?_
    rintro e w1 ⟨rfl, hb⟩
    have hl := bt hl hb
    replace hR := hR.later hb
    clear hb
    go_wp2_with fail
    refine (wh_t hw _ (hd_size s)).mono ?_
    rintro e w2 ⟨rfl, hb⟩
    replace hl := bt hl hb
    replace hR := hR.later hb
    clear hb
    go_wp2_with fail
    refine (read_y h20 hH hL hS _ hs).mono ?_
    rintro e w3 ⟨rfl, hb⟩
    replace hl := bt hl hb
    replace hR := hR.later hb
    clear hb
    have hP := At.box w3 #[.int .i64 (dF s), .int .i64 (dT s), .int .i64 (dTl s), .int .i64 (dPr s), .int .i64 (dId s), .int .i64 (dFr s), .bool (dMo s), .bool (dDn s), .string (dOp s), .string (dDa s)] 27
    replace hR := hR.later (bel1 w3 (.cells #[.int .i64 (dF s), .int .i64 (dT s), .int .i64 (dTl s), .int .i64 (dPr s), .int .i64 (dId s), .int .i64 (dFr s), .bool (dMo s), .bool (dDn s), .string (dOp s), .string (dDa s)] 27))
    replace hl := bt hl (bel1 w3 (.cells #[.int .i64 (dF s), .int .i64 (dT s), .int .i64 (dTl s), .int .i64 (dPr s), .int .i64 (dId s), .int .i64 (dFr s), .bool (dMo s), .bool (dDn s), .string (dOp s), .string (dDa s)] 27))
    obtain ⟨⟨r0, r1, r2, r3, r4, r5, r6, r7, r8, r9⟩, ⟨f0, f1, f2, f3, f4, f5, f6, f7, f8, f9⟩, hlt⟩ := hR.ten
    go_wp2_with fail
    refine (mp_t h _ ho hd).mono ?_
    rintro e w4 ⟨rfl, hb⟩
    clear r0 r1 r2 r3 r4 r5 r6 r7 r8 r9 f0 f1 f2 f3 f4 f5 f6 f7 f8 f9 hlt
    replace hl := bt hl hb
    obtain ⟨⟨r0, r1, r2, r3, r4, r5, r6, r7, r8, r9⟩, ⟨f0, f1, f2, f3, f4, f5, f6, f7, f8, f9⟩, hlt⟩ := (hR.later hb).ten
    obtain ⟨⟨p0, p1, p2, p3, p4, p5, p6, p7, p8, p9⟩, -, -⟩ := (hP.later hb).ten
    go_wp2
    exact bodyPost_ret (v := .tuple #[.agg #[.int .i64 (dF s), .int .i64 (dT s), .int .i64 (dTl s), .int .i64 (dPr s), .int .i64 (dId s), .int .i64 (dFr s), .bool (dMo s), .bool (dDn s), .string (dOp s), .string (dDa s)], .int .i64 0]) (by simp [results, Tryz.results61, go_sem, r0, r1, r2, r3, r4, r5, r6, r7, r8, r9]) rfl ⟨rfl, below10 hl (Nat.le_refl _) _ _ _ _ _ _ _ _ _ _⟩
end Go.Proofs.YtkpdmgoldngdaaaGreatDoor.Ip

namespace Go.Proofs.YtkpdmgoldngdaaaGreatDoor.Ip
open Go.RowKit
set_option maxRecDepth 100000

theorem two_num (s : ByteArray) (i j : Nat) (hj : j = i + 2) (h : i + 1 < s.size) : numS (s.extract i j) = byS s i * 256 + byS s (i + 1) := by
  subst hj
  have hl := len_toList s
  unfold numS
  rw [ext_toList, ← byS_is s i (by omega), ← byS_is s (i + 1) h, show i + 2 - i = 2 by omega]
  rw [List.drop_eq_getElem_cons (by omega : i < s.data.toList.length), List.drop_eq_getElem_cons (by omega : i + 1 < s.data.toList.length)]
  simp [numL]
  rfl
theorem high_bit (s : ByteArray) (h : 20 ≤ (s.size : Int)) : byS s 6 / 128 = 0 ↔ dFl s < 32768 := by
  have e := two_num s 6 8 rfl (by omega)
  have b6 := byS_bd s 6
  have b7 := byS_bd s (6 + 1)
  unfold dFl
  rw [e]
  omega
end Go.Proofs.YtkpdmgoldngdaaaGreatDoor.Ip
