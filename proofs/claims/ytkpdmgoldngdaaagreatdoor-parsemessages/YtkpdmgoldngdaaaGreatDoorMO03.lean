/- the texts PPks, PEnc, PEnb, PIpl, PIpm, in part, merged by program -/
import Derived.Test.YtkpdmgoldngdaaaGreatDoorRows
import Derived.Deep.RegionHeld3
import Derived.Deep.QuietTactic
import Derived.BigQuiet
import Derived.WalkSmall
import Derived.WalkKit
import Derived.WalkSpells
import Derived.Deep.RegionWith
import Derived.LoopN
import Derived.Test.YtkpdmgoldngdaaaGreatDoorMA01
import Derived.Test.YtkpdmgoldngdaaaGreatDoorMA03
import Derived.Test.YtkpdmgoldngdaaaGreatDoorMD01
import Derived.Test.YtkpdmgoldngdaaaGreatDoorME01
import Derived.Test.YtkpdmgoldngdaaaGreatDoorMG01
import Derived.Test.YtkpdmgoldngdaaaGreatDoorMG02
import Derived.Test.YtkpdmgoldngdaaaGreatDoorMH01
import Derived.Test.YtkpdmgoldngdaaaGreatDoorMO01
namespace Go.Proofs.YtkpdmgoldngdaaaGreatDoor.Ip
open Go.RowKit
set_option maxRecDepth 100000
theorem mayP_q {f t tl pr id fr : Int} {mo : Bool} {zo zd : Nat} (h : mayP f t tl pr id fr mo zo zd = true) : mayQ f t tl pr id fr mo zo zd := of_decide_eq_true h
end Go.Proofs.YtkpdmgoldngdaaaGreatDoor.Ip

namespace Go.Proofs.YtkpdmgoldngdaaaGreatDoor.Ip
open Go.RowKit
set_option maxRecDepth 100000

theorem keep10 {w W x : World} {a0 a1 a2 a3 a4 a5 a6 a7 a8 a9 : Addr} {v0 v1 v2 v3 v4 v5 v6 v7 v8 v9 : Value} (hb : Below W.heap.size W x) (h : Below w.heap.size w W ∧ W.cell? a0 = some v0 ∧ W.cell? a1 = some v1 ∧ W.cell? a2 = some v2 ∧ W.cell? a3 = some v3 ∧ W.cell? a4 = some v4 ∧ W.cell? a5 = some v5 ∧ W.cell? a6 = some v6 ∧ W.cell? a7 = some v7 ∧ W.cell? a8 = some v8 ∧ W.cell? a9 = some v9) :
    Below w.heap.size w x ∧ x.cell? a0 = some v0 ∧ x.cell? a1 = some v1 ∧ x.cell? a2 = some v2 ∧ x.cell? a3 = some v3 ∧ x.cell? a4 = some v4 ∧ x.cell? a5 = some v5 ∧ x.cell? a6 = some v6 ∧ x.cell? a7 = some v7 ∧ x.cell? a8 = some v8 ∧ x.cell? a9 = some v9 :=
  ⟨bt h.1 hb, later hb h.2.1, later hb h.2.2.1, later hb h.2.2.2.1, later hb h.2.2.2.2.1, later hb h.2.2.2.2.2.1, later hb h.2.2.2.2.2.2.1, later hb h.2.2.2.2.2.2.2.1, later hb h.2.2.2.2.2.2.2.2.1, later hb h.2.2.2.2.2.2.2.2.2.1, later hb h.2.2.2.2.2.2.2.2.2.2⟩
def flagsV (fr : Int) (mo dn : Bool) : Int := fr + (if dn = true then 16384 else 0) + (if mo = true then 8192 else 0)
def headP (f t tl pr id fr : Int) (mo dn : Bool) (op da : ByteArray) : ByteArray := txt (64 + (20 + (op.size : Int)) / 4) 1 ++ txt 0 1 ++ txt (20 + (op.size : Int) + (da.size : Int)) 2 ++ txt id 2 ++ txt (flagsV fr mo dn) 2 ++ txt tl 1 ++ txt pr 1 ++ txt 0 2 ++ txt f 4 ++ txt t 4 ++ op
def encP (f t tl pr id fr : Int) (mo dn : Bool) (op da : ByteArray) : ByteArray := sealS (headP f t tl pr id fr mo dn op da) 10 ++ da
theorem headP_size (f t tl pr id fr : Int) (mo dn : Bool) (op da : ByteArray) : (headP f t tl pr id fr mo dn op da).size = 20 + op.size := by
  unfold headP
  simp only [ByteArray.size_append, txt_size]
theorem encP_size (f t tl pr id fr : Int) (mo dn : Bool) (op da : ByteArray) : (encP f t tl pr id fr mo dn op da).size = 20 + op.size + da.size := by
  unfold encP
  rw [ByteArray.size_append, sealS_size _ _ (by decide) (by rw [headP_size]; omega), headP_size]
theorem flagsV_bd (fr : Int) (mo dn : Bool) (h0 : 0 ≤ fr) (h1 : fr ≤ 8191) : 0 ≤ flagsV fr mo dn ∧ flagsV fr mo dn ≤ 32767 := by
  unfold flagsV; cases mo <;> cases dn <;> simp <;> omega

theorem bor_add (a b k : Nat) (ha : a % 2 ^ k = 0) (hb : b < 2 ^ k) : a ||| b = a + b := by
  obtain ⟨c, rfl⟩ : ∃ c, a = 2 ^ k * c := ⟨a / 2 ^ k, by have := Nat.div_add_mod a (2 ^ k); omega⟩
  exact (Nat.two_pow_add_eq_or_of_lt hb c).symm
theorem or_nat (a b : Nat) (ha : a < 2 ^ 62) (hb : b < 2 ^ 62) : bits .or .i64 (a : Int) (b : Int) = ((a ||| b : Nat) : Int) := by
  show IntKind.i64.wrap ((BitVec.ofInt 64 (a : Int) ||| BitVec.ofInt 64 (b : Int)).toNat : Nat) = _
  have ea : (BitVec.ofInt 64 (a : Int)).toNat = a := by rw [BitVec.toNat_ofInt]; omega
  have eb : (BitVec.ofInt 64 (b : Int)).toNat = b := by rw [BitVec.toNat_ofInt]; omega
  have hl := Nat.or_lt_two_pow ha hb
  rw [BitVec.toNat_or, ea, eb, IntKind.wrap_i64]
  omega
theorem or_head (n : Int) (h0 : 0 ≤ n) (h1 : n ≤ 15) : bits .or .i64 64 n = 64 + n := by
  obtain ⟨m, rfl⟩ := Int.eq_ofNat_of_zero_le h0
  have := or_nat 64 m (by decide) (by omega)
  rw [bor_add 64 m 4 (by decide) (by omega)] at this
  exact this
theorem or_dont (n : Int) (h0 : 0 ≤ n) (h1 : n ≤ 8191) : bits .or .i64 n 16384 = n + 16384 := by
  obtain ⟨m, rfl⟩ := Int.eq_ofNat_of_zero_le h0
  have := or_nat m 16384 (by omega) (by decide)
  rw [Nat.or_comm, bor_add 16384 m 13 (by decide) (by omega)] at this
  rw [Int.add_comm]
  exact this
theorem or_more (n : Int) (h0 : 0 ≤ n) (h1 : n ≤ 8191) : bits .or .i64 n 8192 = n + 8192 := by
  obtain ⟨m, rfl⟩ := Int.eq_ofNat_of_zero_le h0
  have := or_nat m 8192 (by omega) (by decide)
  rw [Nat.or_comm, bor_add 8192 m 13 (by decide) (by omega)] at this
  rw [Int.add_comm]
  exact this
theorem or_both (n : Int) (h0 : 0 ≤ n) (h1 : n ≤ 8191) : bits .or .i64 (n + 16384) 8192 = n + 16384 + 8192 := by
  obtain ⟨m, rfl⟩ := Int.eq_ofNat_of_zero_le h0
  have := or_nat (m + 16384) 8192 (by omega) (by decide)
  have e1 : m + 16384 = 16384 ||| m := by rw [bor_add 16384 m 13 (by decide) (by omega)]; omega
  rw [e1, Nat.or_assoc, Nat.or_comm m, ← Nat.or_assoc, show (16384 ||| 8192 : Nat) = 24576 by decide, bor_add 24576 m 13 (by decide) (by omega)] at this
  rw [← e1] at this
  rw [show ((m : Int) + 16384) = ((m + 16384 : Nat) : Int) by omega]
  refine this.trans ?_
  omega

theorem fl_any (f t tl pr id fr : Int) (mo dn : Bool) (op da : ByteArray) (w : World) (h0 : 0 ≤ fr) (h1 : fr ≤ 8191) :
    Calls Tryz.prog 138 #[.agg #[.int .i64 f, .int .i64 t, .int .i64 tl, .int .i64 pr, .int .i64 id, .int .i64 fr, .bool mo, .bool dn, .string op, .string da]] w fun e w' => e = .returned (.int .i64 (flagsV fr mo dn)) ∧ Below w.heap.size w w' := by
  have q1 := or_dont fr h0 h1
  have q2 := or_more fr h0 h1
  have q3 := or_both fr h0 h1
  unfold flagsV
  cases mo
  all_goals
    cases dn
    all_goals
      go_enter Tryz.func138, Tryz.ntmps138
      go_wp2
      go_ret
      exact ⟨ret_int (by simp), bel1 _ _⟩

theorem put_c (n k : Int) (w : World) : Calls Tryz.prog 137 #[.int .i64 n, .int .i64 k] w fun e w' => e = .returned (.string (putV n k)) ∧ Below w.heap.size w w' := by
  go_enter Tryz.func137, Tryz.ntmps137
  go_wp2_with fail
  refine (pput_any n k _).mono ?_
  rintro e w1 ⟨rfl, hb⟩
  go_wp2
  go_ret
  exact ⟨rfl, hb⟩
theorem putV_le (n k : Int) : (putV n k).size ≤ 6 := by
  unfold putV
  split
  · rename_i h
    have := of_decide_eq_true h
    rw [txt_size]; omega
  · exact Nat.zero_le _
theorem putV_is (n k : Int) (j : Nat) (hk : k = j) (hj : 1 ≤ j ∧ j ≤ 6) (h0 : 0 ≤ n) (h1 : n < 2 ^ (8 * j)) : putV n k = txt n j := by
  subst hk
  unfold putV
  rw [putB_t ⟨by omega, by omega, h0, by simpa using h1⟩, if_pos rfl]
  rfl

theorem head_is (f t tl pr id fr : Int) (mo dn : Bool) (op da : ByteArray) (h : mayP f t tl pr id fr mo op.size da.size = true) : (putV (64 + (20 + (op.size : Int)) / 4) 1) ++ (putV 0 1) ++ (putV (20 + (op.size : Int) + (da.size : Int)) 2) ++ (putV id 2) ++ (putV (flagsV fr mo dn) 2) ++ (putV tl 1) ++ (putV pr 1) ++ (putV 0 2) ++ (putV f 4) ++ (putV t 4) ++ op = headP f t tl pr id fr mo dn op da := by
  obtain ⟨⟨f0, f1⟩, ⟨t0, t1⟩, ⟨l0, l1⟩, ⟨p0, p1⟩, ⟨i0, i1⟩, ⟨r0, r1⟩, o4, o40, hm, hz, hz2⟩ := mayP_q h
  have hf := flagsV_bd fr mo dn r0 r1
  unfold headP
  rw [putV_is _ 1 1 rfl (by decide) (by omega) (by simp; omega), putV_is 0 1 1 rfl (by decide) (by omega) (by decide), putV_is _ 2 2 rfl (by decide) (by omega) (by simp; omega), putV_is id 2 2 rfl (by decide) i0 (by simp; omega), putV_is (flagsV fr mo dn) 2 2 rfl (by decide) hf.1 (by simp; omega), putV_is tl 1 1 rfl (by decide) l0 (by simp; omega), putV_is pr 1 1 rfl (by decide) p0 (by simp; omega), putV_is 0 2 2 rfl (by decide) (by omega) (by decide), putV_is f 4 4 rfl (by decide) f0 (by simp; omega), putV_is t 4 4 rfl (by decide) t0 (by simp; omega)]
theorem seal_is (f t tl pr id fr : Int) (mo dn : Bool) (op da : ByteArray) (h : mayP f t tl pr id fr mo op.size da.size = true) : sealV ((putV (64 + (20 + (op.size : Int)) / 4) 1) ++ (putV 0 1) ++ (putV (20 + (op.size : Int) + (da.size : Int)) 2) ++ (putV id 2) ++ (putV (flagsV fr mo dn) 2) ++ (putV tl 1) ++ (putV pr 1) ++ (putV 0 2) ++ (putV f 4) ++ (putV t 4) ++ op) 10 = sealS (headP f t tl pr id fr mo dn op da) 10 := by
  rw [head_is f t tl pr id fr mo dn op da h]
  have hq := mayP_q h
  have hz := headP_size f t tl pr id fr mo dn op da
  obtain ⟨-, -, -, -, -, -, -, o40, -, -, -⟩ := hq
  unfold sealV
  rw [place_t (by rw [hz]; omega), if_pos rfl, if_pos (by omega)]

set_option maxRecDepth 100000 in
set_option maxHeartbeats 4000000 in
theorem hdr_h {f t tl pr id fr : Int} {mo dn : Bool} {op da : ByteArray} (H : Int) (w : World) (hH : ∀ W, Calls Tryz.prog 136 #[.agg #[.int .i64 f, .int .i64 t, .int .i64 tl, .int .i64 pr, .int .i64 id, .int .i64 fr, .bool mo, .bool dn, .string op, .string da]] W fun e w' => e = .returned (.int .i64 H) ∧ Below W.heap.size W w') (H0 : 0 ≤ H) (H1 : H ≤ 60) (hfr : 0 ≤ fr ∧ fr ≤ 8191) (ho : op.size ≤ 40) (hd0 : (da.size : Int) ≤ 65535) :
    Calls Tryz.prog 94 #[.agg #[.int .i64 f, .int .i64 t, .int .i64 tl, .int .i64 pr, .int .i64 id, .int .i64 fr, .bool mo, .bool dn, .string op, .string da]] w fun e w' => e = .returned (.string (sealV ((putV (64 + H / 4) 1) ++ (putV 0 1) ++ (putV (H + (da.size : Int)) 2) ++ (putV id 2) ++ (putV (flagsV fr mo dn) 2) ++ (putV tl 1) ++ (putV pr 1) ++ (putV 0 2) ++ (putV f 4) ++ (putV t 4) ++ op) 10)) ∧ Below w.heap.size w w' := by
  have hA := At.box w #[.int .i64 f, .int .i64 t, .int .i64 tl, .int .i64 pr, .int .i64 id, .int .i64 fr, .bool mo, .bool dn, .string op, .string da] 27
  have hl := bel1 w (.cells #[.int .i64 f, .int .i64 t, .int .i64 tl, .int .i64 pr, .int .i64 id, .int .i64 fr, .bool mo, .bool dn, .string op, .string da] 27)
  have e1 : IntKind.i64.wrap (H.tdiv 4) = H / 4 := by rw [Int.tdiv_eq_ediv_of_nonneg H0, IntKind.wrap_i64]; omega
  have e2 : bits .or .i64 64 (H / 4) = 64 + H / 4 := or_head _ (by omega) (by omega)
  have e3 : IntKind.i64.wrap (H + (da.size : Int)) = H + (da.size : Int) := by rw [IntKind.wrap_i64]; omega
  have hfl := fun W => fl_any f t tl pr id fr mo dn op da W hfr.1 hfr.2
  have y1 := putV_le (64 + H / 4) 1
  have y2 := putV_le 0 1
  have y3 := putV_le (H + (da.size : Int)) 2
  have y4 := putV_le id 2
  have y5 := putV_le (flagsV fr mo dn) 2
  have y6 := putV_le tl 1
  have y7 := putV_le pr 1
  have y8 := putV_le 0 2
  have y9 := putV_le f 4
  have y10 := putV_le t 4
  have r1 : ∀ W, (Op.stringOp .add ((putV (64 + H / 4) 1)) (putV 0 1)).run Tryz.prog W = .ok (.string ((putV (64 + H / 4) 1) ++ (putV 0 1))) W := fun W => run_string_add_sum W _ _ (by omega)
  have r2 : ∀ W, (Op.stringOp .add ((putV (64 + H / 4) 1) ++ (putV 0 1)) (putV (H + (da.size : Int)) 2)).run Tryz.prog W = .ok (.string ((putV (64 + H / 4) 1) ++ (putV 0 1) ++ (putV (H + (da.size : Int)) 2))) W := fun W => run_string_add_sum W _ _ (by simp only [ByteArray.size_append]; omega)
  have r3 : ∀ W, (Op.stringOp .add ((putV (64 + H / 4) 1) ++ (putV 0 1) ++ (putV (H + (da.size : Int)) 2)) (putV id 2)).run Tryz.prog W = .ok (.string ((putV (64 + H / 4) 1) ++ (putV 0 1) ++ (putV (H + (da.size : Int)) 2) ++ (putV id 2))) W := fun W => run_string_add_sum W _ _ (by simp only [ByteArray.size_append]; omega)
  have r4 : ∀ W, (Op.stringOp .add ((putV (64 + H / 4) 1) ++ (putV 0 1) ++ (putV (H + (da.size : Int)) 2) ++ (putV id 2)) (putV (flagsV fr mo dn) 2)).run Tryz.prog W = .ok (.string ((putV (64 + H / 4) 1) ++ (putV 0 1) ++ (putV (H + (da.size : Int)) 2) ++ (putV id 2) ++ (putV (flagsV fr mo dn) 2))) W := fun W => run_string_add_sum W _ _ (by simp only [ByteArray.size_append]; omega)
  have r5 : ∀ W, (Op.stringOp .add ((putV (64 + H / 4) 1) ++ (putV 0 1) ++ (putV (H + (da.size : Int)) 2) ++ (putV id 2) ++ (putV (flagsV fr mo dn) 2)) (putV tl 1)).run Tryz.prog W = .ok (.string ((putV (64 + H / 4) 1) ++ (putV 0 1) ++ (putV (H + (da.size : Int)) 2) ++ (putV id 2) ++ (putV (flagsV fr mo dn) 2) ++ (putV tl 1))) W := fun W => run_string_add_sum W _ _ (by simp only [ByteArray.size_append]; omega)
  have r6 : ∀ W, (Op.stringOp .add ((putV (64 + H / 4) 1) ++ (putV 0 1) ++ (putV (H + (da.size : Int)) 2) ++ (putV id 2) ++ (putV (flagsV fr mo dn) 2) ++ (putV tl 1)) (putV pr 1)).run Tryz.prog W = .ok (.string ((putV (64 + H / 4) 1) ++ (putV 0 1) ++ (putV (H + (da.size : Int)) 2) ++ (putV id 2) ++ (putV (flagsV fr mo dn) 2) ++ (putV tl 1) ++ (putV pr 1))) W := fun W => run_string_add_sum W _ _ (by simp only [ByteArray.size_append]; omega)
  have r7 : ∀ W, (Op.stringOp .add ((putV (64 + H / 4) 1) ++ (putV 0 1) ++ (putV (H + (da.size : Int)) 2) ++ (putV id 2) ++ (putV (flagsV fr mo dn) 2) ++ (putV tl 1) ++ (putV pr 1)) (putV 0 2)).run Tryz.prog W = .ok (.string ((putV (64 + H / 4) 1) ++ (putV 0 1) ++ (putV (H + (da.size : Int)) 2) ++ (putV id 2) ++ (putV (flagsV fr mo dn) 2) ++ (putV tl 1) ++ (putV pr 1) ++ (putV 0 2))) W := fun W => run_string_add_sum W _ _ (by simp only [ByteArray.size_append]; omega)
  have r8 : ∀ W, (Op.stringOp .add ((putV (64 + H / 4) 1) ++ (putV 0 1) ++ (putV (H + (da.size : Int)) 2) ++ (putV id 2) ++ (putV (flagsV fr mo dn) 2) ++ (putV tl 1) ++ (putV pr 1) ++ (putV 0 2)) (putV f 4)).run Tryz.prog W = .ok (.string ((putV (64 + H / 4) 1) ++ (putV 0 1) ++ (putV (H + (da.size : Int)) 2) ++ (putV id 2) ++ (putV (flagsV fr mo dn) 2) ++ (putV tl 1) ++ (putV pr 1) ++ (putV 0 2) ++ (putV f 4))) W := fun W => run_string_add_sum W _ _ (by simp only [ByteArray.size_append]; omega)
  have r9 : ∀ W, (Op.stringOp .add ((putV (64 + H / 4) 1) ++ (putV 0 1) ++ (putV (H + (da.size : Int)) 2) ++ (putV id 2) ++ (putV (flagsV fr mo dn) 2) ++ (putV tl 1) ++ (putV pr 1) ++ (putV 0 2) ++ (putV f 4)) (putV t 4)).run Tryz.prog W = .ok (.string ((putV (64 + H / 4) 1) ++ (putV 0 1) ++ (putV (H + (da.size : Int)) 2) ++ (putV id 2) ++ (putV (flagsV fr mo dn) 2) ++ (putV tl 1) ++ (putV pr 1) ++ (putV 0 2) ++ (putV f 4) ++ (putV t 4))) W := fun W => run_string_add_sum W _ _ (by simp only [ByteArray.size_append]; omega)
  have r10 : ∀ W, (Op.stringOp .add ((putV (64 + H / 4) 1) ++ (putV 0 1) ++ (putV (H + (da.size : Int)) 2) ++ (putV id 2) ++ (putV (flagsV fr mo dn) 2) ++ (putV tl 1) ++ (putV pr 1) ++ (putV 0 2) ++ (putV f 4) ++ (putV t 4)) op).run Tryz.prog W = .ok (.string ((putV (64 + H / 4) 1) ++ (putV 0 1) ++ (putV (H + (da.size : Int)) 2) ++ (putV id 2) ++ (putV (flagsV fr mo dn) 2) ++ (putV tl 1) ++ (putV pr 1) ++ (putV 0 2) ++ (putV f 4) ++ (putV t 4) ++ op)) W := fun W => run_string_add_sum W _ _ (by simp only [ByteArray.size_append]; omega)
  have hzz : ((putV (64 + H / 4) 1) ++ (putV 0 1) ++ (putV (H + (da.size : Int)) 2) ++ (putV id 2) ++ (putV (flagsV fr mo dn) 2) ++ (putV tl 1) ++ (putV pr 1) ++ (putV 0 2) ++ (putV f 4) ++ (putV t 4) ++ op).size ≤ maxLen := by simp only [ByteArray.size_append]; unfold maxLen; omega
  have hse := fun W => seal_any ((putV (64 + H / 4) 1) ++ (putV 0 1) ++ (putV (H + (da.size : Int)) 2) ++ (putV id 2) ++ (putV (flagsV fr mo dn) 2) ++ (putV tl 1) ++ (putV pr 1) ++ (putV 0 2) ++ (putV f 4) ++ (putV t 4) ++ op) 10 W hzz
  have HSE : Hid (∀ W, Calls Tryz.prog 49 #[.string ((putV (64 + H / 4) 1) ++ (putV 0 1) ++ (putV (H + (da.size : Int)) 2) ++ (putV id 2) ++ (putV (flagsV fr mo dn) 2) ++ (putV tl 1) ++ (putV pr 1) ++ (putV 0 2) ++ (putV f 4) ++ (putV t 4) ++ op), .int .i64 10] W fun e w' => e = .returned (.tuple #[.string (sealV ((putV (64 + H / 4) 1) ++ (putV 0 1) ++ (putV (H + (da.size : Int)) 2) ++ (putV id 2) ++ (putV (flagsV fr mo dn) 2) ++ (putV tl 1) ++ (putV pr 1) ++ (putV 0 2) ++ (putV f 4) ++ (putV t 4) ++ op) 10), .int .i64 (sealC ((putV (64 + H / 4) 1) ++ (putV 0 1) ++ (putV (H + (da.size : Int)) 2) ++ (putV id 2) ++ (putV (flagsV fr mo dn) 2) ++ (putV tl 1) ++ (putV pr 1) ++ (putV 0 2) ++ (putV f 4) ++ (putV t 4) ++ op) 10)]) ∧ Below W.heap.size W w') := hse
  clear hse hzz y1 y2 y3 y4 y5 y6 y7 y8 y9 y10 ho
  go_enter Tryz.func94, Tryz.ntmps94
  go_wp2_with fail
  refine (hH _).mono ?_
  rintro e w1 ⟨rfl, hb⟩
  have hl := bt hl hb
  obtain ⟨hx, -, -⟩ := (hA.later hb).ten
  have hx5 := And.intro hl hx
  clear hA hb hl hx hH
  go_wp2
  go_region_held3 (fun W => Below w.heap.size w W ∧ W.cell? ⟨w.heap.size, 0, none⟩ = some (.int .i64 f) ∧ W.cell? ⟨w.heap.size, 1, none⟩ = some (.int .i64 t) ∧ W.cell? ⟨w.heap.size, 2, none⟩ = some (.int .i64 tl) ∧ W.cell? ⟨w.heap.size, 3, none⟩ = some (.int .i64 pr) ∧ W.cell? ⟨w.heap.size, 4, none⟩ = some (.int .i64 id) ∧ W.cell? ⟨w.heap.size, 5, none⟩ = some (.int .i64 fr) ∧ W.cell? ⟨w.heap.size, 6, none⟩ = some (.bool mo) ∧ W.cell? ⟨w.heap.size, 7, none⟩ = some (.bool dn) ∧ W.cell? ⟨w.heap.size, 8, none⟩ = some (.string op) ∧ W.cell? ⟨w.heap.size, 9, none⟩ = some (.string da)) (first | exact ⟨hx5.1.drew, hx5.2⟩ | (refine keep10 hb ?_; assumption)) (first | (go_at_call 137; refine (put_c _ _ _).mono ?_; rintro e w' ⟨rfl, hb⟩) | (go_at_call 138; refine (hfl _).mono ?_; rintro e w' ⟨rfl, hb⟩))
  all_goals
    rename_i hq
    go_wp2_with fail
    refine (HSE.out _).mono ?_
    rintro e w2 ⟨rfl, hb⟩
    go_wp2
    go_ret
    exact ⟨rfl, bt hq.1 hb⟩

theorem hdr_y {f t tl pr id fr : Int} {mo dn : Bool} {op da : ByteArray} (h : mayP f t tl pr id fr mo op.size da.size = true) (w : World) :
    Calls Tryz.prog 94 #[.agg #[.int .i64 f, .int .i64 t, .int .i64 tl, .int .i64 pr, .int .i64 id, .int .i64 fr, .bool mo, .bool dn, .string op, .string da]] w fun e w' => e = .returned (.string (sealS (headP f t tl pr id fr mo dn op da) 10)) ∧ Below w.heap.size w w' := by
  obtain ⟨-, -, -, -, -, h01, o4, o40, -, hz, -⟩ := mayP_q h
  have := hdr_h (f := f) (t := t) (tl := tl) (pr := pr) (id := id) (fr := fr) (mo := mo) (dn := dn) (op := op) (da := da) (20 + (op.size : Int)) w (fun W => hl_any f t tl pr id fr mo dn op da W (by omega)) (by omega) (by omega) h01 o40 (by omega)
  rw [seal_is f t tl pr id fr mo dn op da h] at this
  exact this
end Go.Proofs.YtkpdmgoldngdaaaGreatDoor.Ip

namespace Go.Proofs.YtkpdmgoldngdaaaGreatDoor.Ip
open Go.RowKit
set_option maxRecDepth 100000

theorem encP_le {f t tl pr id fr : Int} {mo dn : Bool} {op da : ByteArray} (h : mayP f t tl pr id fr mo op.size da.size = true) : (encP f t tl pr id fr mo dn op da).size ≤ 65535 := by
  rw [encP_size]; have := mayP_q h; obtain ⟨-, -, -, -, -, -, -, -, -, hz, -⟩ := this; exact hz
set_option maxRecDepth 100000 in
set_option maxHeartbeats 1000000 in
theorem enc_y {f t tl pr id fr : Int} {mo dn : Bool} {op da : ByteArray} (h : mayP f t tl pr id fr mo op.size da.size = true) (w : World) :
    Calls Tryz.prog 50 #[.agg #[.int .i64 f, .int .i64 t, .int .i64 tl, .int .i64 pr, .int .i64 id, .int .i64 fr, .bool mo, .bool dn, .string op, .string da]] w fun e w' => e = .returned (.tuple #[.string (encP f t tl pr id fr mo dn op da), .int .i64 0]) ∧ Below w.heap.size w w' := by
  have hA := At.box w #[.int .i64 f, .int .i64 t, .int .i64 tl, .int .i64 pr, .int .i64 id, .int .i64 fr, .bool mo, .bool dn, .string op, .string da] 27
  have hl := bel1 w (.cells #[.int .i64 f, .int .i64 t, .int .i64 tl, .int .i64 pr, .int .i64 id, .int .i64 fr, .bool mo, .bool dn, .string op, .string da] 27)
  obtain ⟨-, -, -, -, -, -, -, o40, -, hz, -⟩ := mayP_q h
  have ho : op.size ≤ 1125899906842624 := by omega
  have hd : da.size ≤ 1125899906842624 := by omega
  have hhd := fun W => hdr_y (dn := dn) h W
  have hz1 : (sealS (headP f t tl pr id fr mo dn op da) 10).size = 20 + op.size := by rw [sealS_size _ _ (by decide) (by rw [headP_size]; omega), headP_size]
  unfold encP
  generalize sealS (headP f t tl pr id fr mo dn op da) 10 = B at *
  have r1 : ∀ W, (Op.stringOp .add B da).run Tryz.prog W = .ok (.string (B ++ da)) W := fun W => run_string_add_sum W _ _ (by omega)
  clear hz1 hz o40
  go_enter Tryz.func50, Tryz.ntmps50
  go_wp2_with fail
  refine (mp_t h _ ho hd).mono ?_
  rintro e w1 ⟨rfl, hb⟩
  have hl := bt hl hb
  obtain ⟨hx, -, -⟩ := (hA.later hb).ten
  have hx5 := And.intro hl hx
  clear hA hb hl hx
  go_wp2
  go_region_held3 (fun W => Below w.heap.size w W ∧ W.cell? ⟨w.heap.size, 0, none⟩ = some (.int .i64 f) ∧ W.cell? ⟨w.heap.size, 1, none⟩ = some (.int .i64 t) ∧ W.cell? ⟨w.heap.size, 2, none⟩ = some (.int .i64 tl) ∧ W.cell? ⟨w.heap.size, 3, none⟩ = some (.int .i64 pr) ∧ W.cell? ⟨w.heap.size, 4, none⟩ = some (.int .i64 id) ∧ W.cell? ⟨w.heap.size, 5, none⟩ = some (.int .i64 fr) ∧ W.cell? ⟨w.heap.size, 6, none⟩ = some (.bool mo) ∧ W.cell? ⟨w.heap.size, 7, none⟩ = some (.bool dn) ∧ W.cell? ⟨w.heap.size, 8, none⟩ = some (.string op) ∧ W.cell? ⟨w.heap.size, 9, none⟩ = some (.string da)) (first | exact ⟨hx5.1.drew, hx5.2⟩ | (refine keep10 hb ?_; assumption)) (first | (go_at_call 94; refine (hhd _).mono ?_; rintro e w' ⟨rfl, hb⟩))
  all_goals
    rename_i hq
    go_wp2
    go_ret2
    exact ⟨rfl, hq.1⟩
theorem enc_n {f t tl pr id fr : Int} {mo dn : Bool} {op da : ByteArray} (h : mayP f t tl pr id fr mo op.size da.size = false) (w : World) (ho : op.size ≤ 1125899906842624) (hd : da.size ≤ 1125899906842624) :
    Calls Tryz.prog 50 #[.agg #[.int .i64 f, .int .i64 t, .int .i64 tl, .int .i64 pr, .int .i64 id, .int .i64 fr, .bool mo, .bool dn, .string op, .string da]] w fun e w' => e = .returned (.tuple #[.string ⟨#[]⟩, .int .i64 50]) ∧ Below w.heap.size w w' := by
  have hl := bel1 w (.cells #[.int .i64 f, .int .i64 t, .int .i64 tl, .int .i64 pr, .int .i64 id, .int .i64 fr, .bool mo, .bool dn, .string op, .string da] 27)
  go_enter Tryz.func50, Tryz.ntmps50
  go_wp2_with fail
  refine (mp_f h _ ho hd).mono ?_
  rintro e w1 ⟨rfl, hb⟩
  have hl := bt hl hb
  go_wp2
  go_ret2
  exact ⟨rfl, hl⟩
end Go.Proofs.YtkpdmgoldngdaaaGreatDoor.Ip

namespace Go.Proofs.YtkpdmgoldngdaaaGreatDoor.Ip
open Go.RowKit
set_option maxRecDepth 100000

def preP (A L id fl tl pr : Int) : ByteArray := txt A 1 ++ txt 0 1 ++ txt L 2 ++ txt id 2 ++ txt fl 2 ++ txt tl 1 ++ txt pr 1
def postP (f t : Int) (op : ByteArray) : ByteArray := txt f 4 ++ txt t 4 ++ op
theorem preP_size (A L id fl tl pr : Int) : (preP A L id fl tl pr).size = 10 := by unfold preP; simp only [ByteArray.size_append, txt_size]
def sumP (f t : Int) (A L id fl tl pr : Int) (op : ByteArray) : Int := missV (totS [preP A L id fl tl pr, postP f t op])
theorem seal_parts (f t tl pr id fr : Int) (mo dn : Bool) (op da : ByteArray) : sealS (headP f t tl pr id fr mo dn op da) 10 = preP (64 + (20 + (op.size : Int)) / 4) (20 + (op.size : Int) + (da.size : Int)) id (flagsV fr mo dn) tl pr ++ txt (sumP f t (64 + (20 + (op.size : Int)) / 4) (20 + (op.size : Int) + (da.size : Int)) id (flagsV fr mo dn) tl pr op) 2 ++ postP f t op := by
  have e : headP f t tl pr id fr mo dn op da = preP (64 + (20 + (op.size : Int)) / 4) (20 + (op.size : Int) + (da.size : Int)) id (flagsV fr mo dn) tl pr ++ txt 0 2 ++ postP f t op := by
    unfold headP preP postP
    simp only [ByteArray.append_assoc]
  have h1 : headS (headP f t tl pr id fr mo dn op da) 10 = preP (64 + (20 + (op.size : Int)) / 4) (20 + (op.size : Int) + (da.size : Int)) id (flagsV fr mo dn) tl pr := by
    rw [e]; unfold headS
    have := mid_head (preP (64 + (20 + (op.size : Int)) / 4) (20 + (op.size : Int) + (da.size : Int)) id (flagsV fr mo dn) tl pr) (txt 0 2) (postP f t op)
    rw [preP_size] at this; exact this
  have h2 : tailS (headP f t tl pr id fr mo dn op da) 10 = postP f t op := by
    rw [e]; unfold tailS
    exact mid_tail _ _ _ _ (by rw [preP_size, txt_size]; rfl)
  unfold sealS sumP
  rw [h1, h2]
theorem sumP_bd (f t : Int) (A L id fl tl pr : Int) (op : ByteArray) : 0 ≤ sumP f t A L id fl tl pr op ∧ sumP f t A L id fl tl pr op ≤ 65535 := missV_bd _
theorem enc_list (f t tl pr id fr : Int) (mo dn : Bool) (op da : ByteArray) (more : ByteArray) : (encP f t tl pr id fr mo dn op da ++ more).data.toList = txtL (64 + (20 + (op.size : Int)) / 4) 1 ++ (txtL 0 1 ++ (txtL (20 + (op.size : Int) + (da.size : Int)) 2 ++ (txtL id 2 ++ (txtL (flagsV fr mo dn) 2 ++ (txtL tl 1 ++ (txtL pr 1 ++ (txtL (sumP f t (64 + (20 + (op.size : Int)) / 4) (20 + (op.size : Int) + (da.size : Int)) id (flagsV fr mo dn) tl pr op) 2 ++ (txtL f 4 ++ (txtL t 4 ++ (op.data.toList ++ (da.data.toList ++ more.data.toList))))))))))) := by
  unfold encP
  rw [seal_parts]
  unfold preP postP
  simp only [app_toList, txt_toList, List.append_assoc]

theorem byS_one (s : ByteArray) (i j : Nat) (hj : j = i + 1) (h : i < s.size) : byS s i = numS (s.extract i j) := by
  subst hj
  have hl := len_toList s
  unfold numS
  rw [ext_toList, ← byS_is s i h, show i + 1 - i = 1 by omega]
  rw [List.drop_eq_getElem_cons (by omega : i < s.data.toList.length)]
  simp [numL]
  rfl
theorem byS_at (s : ByteArray) (pre post : List UInt8) (n : Int) (i : Nat) (hs : s.data.toList = pre ++ (txtL n 1 ++ post)) (ha : pre.length = i) (h0 : 0 ≤ n) (h1 : n ≤ 255) : byS s i = n := by
  have hl := len_toList s
  have hi : i < s.size := by rw [← hl, hs]; simp [txtL_len]; omega
  rw [← num_at s pre post n 1 i (i + 1) hs ha rfl h0 (by simp; omega)]
  exact byS_one s i (i + 1) rfl hi

theorem back_fields {f t tl pr id fr : Int} {mo dn : Bool} {op da : ByteArray} (h : mayP f t tl pr id fr mo op.size da.size = true) (more s : ByteArray) (hsq : s = encP f t tl pr id fr mo dn op da ++ more) :
    20 ≤ (s.size : Int) ∧ byS s 0 = 64 + (20 + (op.size : Int)) / 4 ∧ byS s 1 = 0 ∧ dH s = 20 + (op.size : Int) ∧ dL s = 20 + (op.size : Int) + (da.size : Int) ∧ dL s ≤ (s.size : Int) ∧ dF s = f ∧ dT s = t ∧ dTl s = tl ∧ dPr s = pr ∧ dId s = id ∧ dFl s = flagsV fr mo dn := by
  obtain ⟨⟨f0, f1⟩, ⟨t0, t1⟩, ⟨l0, l1⟩, ⟨p0, p1⟩, ⟨i0, i1⟩, ⟨r0, r1⟩, o4, o40, hm, hz, hz2⟩ := mayP_q h
  have hf := flagsV_bd fr mo dn r0 r1
  have hL := enc_list f t tl pr id fr mo dn op da more
  rw [← hsq] at hL
  have hsz : s.size = 20 + op.size + da.size + more.size := by rw [hsq, ByteArray.size_append, encP_size]
  have a0 : byS s 0 = 64 + (20 + (op.size : Int)) / 4 := byS_at s [] _ _ 0 hL rfl (by omega) (by omega)
  have cc := sumP_bd f t (64 + (20 + (op.size : Int)) / 4) (20 + (op.size : Int) + (da.size : Int)) id (flagsV fr mo dn) tl pr op
  obtain ⟨A, hA⟩ : ∃ A : Int, A = 64 + (20 + (op.size : Int)) / 4 := ⟨_, rfl⟩
  rw [← hA] at hL a0 cc ⊢
  generalize sumP f t A (20 + (op.size : Int) + (da.size : Int)) id (flagsV fr mo dn) tl pr op = C at hL cc
  have hdl : dL s = 20 + (op.size : Int) + (da.size : Int) := num_at s (txtL A 1 ++ txtL 0 1) _ _ 2 2 4 (by rw [hL]; simp only [List.append_assoc]; rfl) (by simp only [List.length_append, txtL_len]) rfl (by omega) (by simp; omega)
  refine ⟨by omega, a0, ?_, ?_, hdl, by omega, ?_, ?_, ?_, ?_, ?_, ?_⟩
  · exact byS_at s (txtL A 1) _ _ 1 hL (by rw [txtL_len]) (by decide) (by decide)
  · unfold dH; rw [a0]; omega
  · exact num_at s (txtL A 1 ++ (txtL 0 1 ++ (txtL (20 + (op.size : Int) + (da.size : Int)) 2 ++ (txtL id 2 ++ (txtL (flagsV fr mo dn) 2 ++ (txtL tl 1 ++ (txtL pr 1 ++ txtL C 2))))))) _ _ 4 12 16 (by rw [hL]; simp only [List.append_assoc]; rfl) (by simp only [List.length_append, txtL_len]) rfl f0 (by simp; omega)
  · exact num_at s (txtL A 1 ++ (txtL 0 1 ++ (txtL (20 + (op.size : Int) + (da.size : Int)) 2 ++ (txtL id 2 ++ (txtL (flagsV fr mo dn) 2 ++ (txtL tl 1 ++ (txtL pr 1 ++ (txtL C 2 ++ txtL f 4)))))))) _ _ 4 16 20 (by rw [hL]; simp only [List.append_assoc]; rfl) (by simp only [List.length_append, txtL_len]) rfl t0 (by simp; omega)
  · exact num_at s (txtL A 1 ++ (txtL 0 1 ++ (txtL (20 + (op.size : Int) + (da.size : Int)) 2 ++ (txtL id 2 ++ txtL (flagsV fr mo dn) 2)))) _ _ 1 8 9 (by rw [hL]; simp only [List.append_assoc]; rfl) (by simp only [List.length_append, txtL_len]) rfl l0 (by simp; omega)
  · exact num_at s (txtL A 1 ++ (txtL 0 1 ++ (txtL (20 + (op.size : Int) + (da.size : Int)) 2 ++ (txtL id 2 ++ (txtL (flagsV fr mo dn) 2 ++ txtL tl 1))))) _ _ 1 9 10 (by rw [hL]; simp only [List.append_assoc]; rfl) (by simp only [List.length_append, txtL_len]) rfl p0 (by simp; omega)
  · exact num_at s (txtL A 1 ++ (txtL 0 1 ++ txtL (20 + (op.size : Int) + (da.size : Int)) 2)) _ _ 2 4 6 (by rw [hL]; simp only [List.append_assoc]; rfl) (by simp only [List.length_append, txtL_len]) rfl i0 (by simp; omega)
  · exact num_at s (txtL A 1 ++ (txtL 0 1 ++ (txtL (20 + (op.size : Int) + (da.size : Int)) 2 ++ txtL id 2))) _ _ 2 6 8 (by rw [hL]; simp only [List.append_assoc]; rfl) (by simp only [List.length_append, txtL_len]) rfl hf.1 (by simp; omega)
end Go.Proofs.YtkpdmgoldngdaaaGreatDoor.Ip

namespace Go.Proofs.YtkpdmgoldngdaaaGreatDoor.Ip
open Go.RowKit
set_option maxRecDepth 100000
theorem back_flags (s : ByteArray) (fr : Int) (mo dn : Bool) (h0 : 0 ≤ fr) (h1 : fr ≤ 8191) (h : dFl s = flagsV fr mo dn) : dFr s = fr ∧ dMo s = mo ∧ dDn s = dn := by
  unfold dFr dMo dDn
  rw [h]
  unfold flagsV
  refine ⟨?_, ?_, ?_⟩ <;> cases mo <;> cases dn <;> simp <;> omega
theorem sum_zero {s : ByteArray} (h : foldV (ws true s.data.toList) = 65535) : sumS s = 0 := by unfold sumS missV; omega
def goodD (s : ByteArray) : Prop := 20 ≤ (s.size : Int) ∧ (byS s 0 / 16 != 4) = false ∧ 20 ≤ dH s ∧ dH s ≤ dL s ∧ dL s ≤ (s.size : Int) ∧ sumS (headS' s) = 0 ∧ (byS s 1 != 0) = false ∧ (byS s 6 / 128 != 0) = false ∧ mayD s = true
theorem dec_y {s : ByteArray} (h : goodD s) (w : World) (hs : s.size ≤ 1125899906842624) :
    Calls Tryz.prog 61 #[.string s] w fun e w' => e = .returned (.tuple #[.agg #[.int .i64 (dF s), .int .i64 (dT s), .int .i64 (dTl s), .int .i64 (dPr s), .int .i64 (dId s), .int .i64 (dFr s), .bool (dMo s), .bool (dDn s), .string (dOp s), .string (dDa s)], .int .i64 0]) ∧ Below w.heap.size w w' := by
  obtain ⟨a, b, c, d, e, f, g, i, j⟩ := h
  exact dec_5 a b c d e f g i j w hs
theorem ext_pre (A B : ByteArray) (n : Nat) (h : n = A.size) : (A ++ B).extract 0 n = A := by
  apply ba_toList
  rw [ext_toList, app_toList, List.drop_zero, h, Nat.sub_zero, ← len_toList A, List.take_left]
theorem ext_mid (A B C : ByteArray) (n m : Nat) (h : n = A.size) (hm : m = A.size + B.size) : (A ++ B ++ C).extract n m = B := by
  apply ba_toList
  rw [ext_toList, app_toList, app_toList, List.append_assoc, h, hm, ← len_toList A, List.drop_left, ← len_toList B, show A.data.toList.length + B.data.toList.length - A.data.toList.length = B.data.toList.length by omega, List.take_left]
theorem seal_split (f t tl pr id fr : Int) (mo dn : Bool) (op da : ByteArray) : sealS (headP f t tl pr id fr mo dn op da) 10 = (preP (64 + (20 + (op.size : Int)) / 4) (20 + (op.size : Int) + (da.size : Int)) id (flagsV fr mo dn) tl pr ++ txt (sumP f t (64 + (20 + (op.size : Int)) / 4) (20 + (op.size : Int) + (da.size : Int)) id (flagsV fr mo dn) tl pr op) 2 ++ txt f 4 ++ txt t 4) ++ op := by
  rw [seal_parts]; unfold postP; simp only [ByteArray.append_assoc]
theorem back_good {f t tl pr id fr : Int} {mo dn : Bool} {op da : ByteArray} (h : mayP f t tl pr id fr mo op.size da.size = true) (more s : ByteArray) (hsq : s = encP f t tl pr id fr mo dn op da ++ more) :
    goodD s ∧ dF s = f ∧ dT s = t ∧ dTl s = tl ∧ dPr s = pr ∧ dId s = id ∧ dFr s = fr ∧ dMo s = mo ∧ dDn s = dn ∧ dOp s = op ∧ dDa s = da := by
  obtain ⟨b20, b0, b1, bH, bL, bS, bf, bt, btl, bpr, bid, bfl⟩ := back_fields h more s hsq
  have hq := mayP_q h
  obtain ⟨-, -, -, -, -, ⟨r0, r1⟩, o4, o40, hm, hz, hz2⟩ := hq
  obtain ⟨g1, g2, g3⟩ := back_flags s fr mo dn r0 r1 bfl
  have hf := flagsV_bd fr mo dn r0 r1
  have hsz : (sealS (headP f t tl pr id fr mo dn op da) 10).size = 20 + op.size := by rw [sealS_size _ _ (by decide) (by rw [headP_size]; omega), headP_size]
  have hS1 : s = sealS (headP f t tl pr id fr mo dn op da) 10 ++ da ++ more := by rw [hsq]; rfl
  have hop : dOp s = op := by
    unfold dOp
    rw [bH, hS1, seal_split, ByteArray.append_assoc]
    have hX := hsz
    rw [seal_split, ByteArray.size_append] at hX
    exact ext_mid _ _ _ _ _ (by omega) (by omega)
  have hda : dDa s = da := by
    unfold dDa
    rw [bH, bL, hS1]
    exact ext_mid _ _ _ _ _ (by omega) (by omega)
  have hw : sumS (headS' s) = 0 := by
    have : headS' s = sealS (headP f t tl pr id fr mo dn op da) 10 := by
      unfold headS'
      rw [bH, hS1, ByteArray.append_assoc]
      exact ext_pre _ _ _ (by omega)
    rw [this]
    exact sum_zero (sum_sealS _ _ (by decide) (by rw [headP_size]; omega) (by decide))
  refine ⟨⟨b20, ?_, by omega, by omega, bS, hw, ?_, ?_, ?_⟩, bf, bt, btl, bpr, bid, g1, g2, g3, hop, hda⟩
  · rw [b0, bne_eq_false_iff_eq]; omega
  · rw [b1]; rfl
  · rw [bne_eq_false_iff_eq, high_bit s b20, bfl]; omega
  · unfold mayD; rw [bf, bt, btl, bpr, bid, g1, g2, hop, hda]; exact h
theorem dec_back {f t tl pr id fr : Int} {mo dn : Bool} {op da : ByteArray} (h : mayP f t tl pr id fr mo op.size da.size = true) (more : ByteArray) (w : World) (hs : (encP f t tl pr id fr mo dn op da ++ more).size ≤ 1125899906842624) :
    Calls Tryz.prog 61 #[.string (encP f t tl pr id fr mo dn op da ++ more)] w fun e w' => e = .returned (.tuple #[.agg #[.int .i64 f, .int .i64 t, .int .i64 tl, .int .i64 pr, .int .i64 id, .int .i64 fr, .bool mo, .bool dn, .string op, .string da], .int .i64 0]) ∧ Below w.heap.size w w' := by
  obtain ⟨g, bf, bt, btl, bpr, bid, g1, g2, g3, hop, hda⟩ := back_good h more _ (rfl : encP f t tl pr id fr mo dn op da ++ more = encP f t tl pr id fr mo dn op da ++ more)
  have := dec_y g w hs
  rw [bf, bt, btl, bpr, bid, g1, g2, g3, hop, hda] at this
  exact this

end Go.Proofs.YtkpdmgoldngdaaaGreatDoor.Ip
