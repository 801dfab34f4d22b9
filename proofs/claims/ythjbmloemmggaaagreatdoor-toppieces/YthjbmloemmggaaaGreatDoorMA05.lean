/- the texts PEnc, PEnb, PDec, PIpl, PIpm, in part, merged by program -/
import Derived.Test.YthjbmloemmggaaaGreatDoorRows
import Derived.WalkKit
import Derived.WalkSpells
import Derived.Deep.RegionHeld3
import Derived.Deep.QuietTactic
import Derived.BigQuiet
import Derived.WalkSmall
import Derived.Deep.RegionWith
import Derived.LoopN
import Derived.Test.YthjbmloemmggaaaGreatDoorMA01
import Derived.Test.YthjbmloemmggaaaGreatDoorMA04
namespace Go.Proofs.YthjbmloemmggaaaGreatDoor.Ip
open Go.RowKit
set_option maxRecDepth 100000

theorem keep10 {w W x : World} {a0 a1 a2 a3 a4 a5 a6 a7 a8 a9 : Addr} {v0 v1 v2 v3 v4 v5 v6 v7 v8 v9 : Value} (hb : Below W.heap.size W x) (h : Below w.heap.size w W ∧ W.cell? a0 = some v0 ∧ W.cell? a1 = some v1 ∧ W.cell? a2 = some v2 ∧ W.cell? a3 = some v3 ∧ W.cell? a4 = some v4 ∧ W.cell? a5 = some v5 ∧ W.cell? a6 = some v6 ∧ W.cell? a7 = some v7 ∧ W.cell? a8 = some v8 ∧ W.cell? a9 = some v9) :
    Below w.heap.size w x ∧ x.cell? a0 = some v0 ∧ x.cell? a1 = some v1 ∧ x.cell? a2 = some v2 ∧ x.cell? a3 = some v3 ∧ x.cell? a4 = some v4 ∧ x.cell? a5 = some v5 ∧ x.cell? a6 = some v6 ∧ x.cell? a7 = some v7 ∧ x.cell? a8 = some v8 ∧ x.cell? a9 = some v9 :=
  ⟨bt h.1 hb, later hb h.2.1, later hb h.2.2.1, later hb h.2.2.2.1, later hb h.2.2.2.2.1, later hb h.2.2.2.2.2.1, later hb h.2.2.2.2.2.2.1, later hb h.2.2.2.2.2.2.2.1, later hb h.2.2.2.2.2.2.2.2.1, later hb h.2.2.2.2.2.2.2.2.2.1, later hb h.2.2.2.2.2.2.2.2.2.2⟩
def flagsV (fr : Int) (mo dn : Bool) : Int := fr + (if dn = true then 16384 else 0) + (if mo = true then 8192 else 0)
def headP (f t tl pr id fr : Int) (mo dn : Bool) (op da : ByteArray) : ByteArray := txt (64 + (20 + (op.size : Int)) / 4) 1 ++ txt 0 1 ++ txt (20 + (op.size : Int) + (da.size : Int)) 2 ++ txt id 2 ++ txt (flagsV fr mo dn) 2 ++ txt tl 1 ++ txt pr 1 ++ txt 0 2 ++ txt f 4 ++ txt t 4 ++ op
def encP (f t tl pr id fr : Int) (mo dn : Bool) (op da : ByteArray) : ByteArray := sealS (headP f t tl pr id fr mo dn op da) 10 ++ da
theorem headP_size (f t tl pr id fr : Int) (mo dn : Bool) (op da : ByteArray) : (headP f t tl pr id fr mo dn op da).size = 20 + op.size := by
  unfold headP
  simp only [ByteArray.size_append, txt_size]
theorem encP_size (f t tl pr id fr : Int) (mo dn : Bool) (op da : ByteArray) : (encP f t tl pr id fr mo dn op da).size = 20 + op.size + da.size := by
  unfold encP
  rw [ByteArray.size_append, sealS_size _ _ (by decide) (by rw [headP_size]; omega), headP_size]
theorem flagsV_bd (fr : Int) (mo dn : Bool) (h0 : 0 ≤ fr) (h1 : fr ≤ 8191) : 0 ≤ flagsV fr mo dn ∧ flagsV fr mo dn ≤ 32767 := by
  unfold flagsV; cases mo <;> cases dn <;> simp <;> omega

theorem bor_add (a b k : Nat) (ha : a % 2 ^ k = 0) (hb : b < 2 ^ k) : a ||| b = a + b := by
  obtain ⟨c, rfl⟩ : ∃ c, a = 2 ^ k * c := ⟨a / 2 ^ k, by have := Nat.div_add_mod a (2 ^ k); omega⟩
  exact (Nat.two_pow_add_eq_or_of_lt hb c).symm
theorem or_nat (a b : Nat) (ha : a < 2 ^ 62) (hb : b < 2 ^ 62) : bits .or .i64 (a : Int) (b : Int) = ((a ||| b : Nat) : Int) := by
  show IntKind.i64.wrap ((BitVec.ofInt 64 (a : Int) ||| BitVec.ofInt 64 (b : Int)).toNat : Nat) = _
  have ea : (BitVec.ofInt 64 (a : Int)).toNat = a := by rw [BitVec.toNat_ofInt]; omega
  have eb : (BitVec.ofInt 64 (b : Int)).toNat = b := by rw [BitVec.toNat_ofInt]; omega
  have hl := Nat.or_lt_two_pow ha hb
  rw [BitVec.toNat_or, ea, eb, IntKind.wrap_i64]
  omega
theorem or_head (n : Int) (h0 : 0 ≤ n) (h1 : n ≤ 15) : bits .or .i64 64 n = 64 + n := by
  obtain ⟨m, rfl⟩ := Int.eq_ofNat_of_zero_le h0
  have := or_nat 64 m (by decide) (by omega)
  rw [bor_add 64 m 4 (by decide) (by omega)] at this
  exact this
theorem or_dont (n : Int) (h0 : 0 ≤ n) (h1 : n ≤ 8191) : bits .or .i64 n 16384 = n + 16384 := by
  obtain ⟨m, rfl⟩ := Int.eq_ofNat_of_zero_le h0
  have := or_nat m 16384 (by omega) (by decide)
  rw [Nat.or_comm, bor_add 16384 m 13 (by decide) (by omega)] at this
  rw [Int.add_comm]
  exact this
theorem or_more (n : Int) (h0 : 0 ≤ n) (h1 : n ≤ 8191) : bits .or .i64 n 8192 = n + 8192 := by
  obtain ⟨m, rfl⟩ := Int.eq_ofNat_of_zero_le h0
  have := or_nat m 8192 (by omega) (by decide)
  rw [Nat.or_comm, bor_add 8192 m 13 (by decide) (by omega)] at this
  rw [Int.add_comm]
  exact this
theorem or_both (n : Int) (h0 : 0 ≤ n) (h1 : n ≤ 8191) : bits .or .i64 (n + 16384) 8192 = n + 16384 + 8192 := by
  obtain ⟨m, rfl⟩ := Int.eq_ofNat_of_zero_le h0
  have := or_nat (m + 16384) 8192 (by omega) (by decide)
  have e1 : m + 16384 = 16384 ||| m := by rw [bor_add 16384 m 13 (by decide) (by omega)]; omega
  rw [e1, Nat.or_assoc, Nat.or_comm m, ← Nat.or_assoc, show (16384 ||| 8192 : Nat) = 24576 by decide, bor_add 24576 m 13 (by decide) (by omega)] at this
  rw [← e1] at this
  rw [show ((m : Int) + 16384) = ((m + 16384 : Nat) : Int) by omega]
  refine this.trans ?_
  omega

theorem fl_any (f t tl pr id fr : Int) (mo dn : Bool) (op da : ByteArray) (w : World) (h0 : 0 ≤ fr) (h1 : fr ≤ 8191) :
    Calls Tryz.prog 42 #[.agg #[.int .i64 f, .int .i64 t, .int .i64 tl, .int .i64 pr, .int .i64 id, .int .i64 fr, .bool mo, .bool dn, .string op, .string da]] w fun e w' => e = .returned (.int .i64 (flagsV fr mo dn)) ∧ Below w.heap.size w w' := by
  have q1 := or_dont fr h0 h1
  have q2 := or_more fr h0 h1
  have q3 := or_both fr h0 h1
  unfold flagsV
  cases mo
  all_goals
    cases dn
    all_goals
      go_enter Tryz.func42, Tryz.ntmps42
      go_wp2
      go_ret
      exact ⟨ret_int (by simp), bel1 _ _⟩

theorem put_c (n k : Int) (w : World) : Calls Tryz.prog 41 #[.int .i64 n, .int .i64 k] w fun e w' => e = .returned (.string (putV n k)) ∧ Below w.heap.size w w' := by
  go_enter Tryz.func41, Tryz.ntmps41
  go_wp2_with fail
  refine (pput_any n k _).mono ?_
  rintro e w1 ⟨rfl, hb⟩
  go_wp2
  go_ret
  exact ⟨rfl, hb⟩
theorem putV_le (n k : Int) : (putV n k).size ≤ 6 := by
  unfold putV
  split
  · rename_i h
    have := of_decide_eq_true h
    rw [txt_size]; omega
  · exact Nat.zero_le _
theorem putV_is (n k : Int) (j : Nat) (hk : k = j) (hj : 1 ≤ j ∧ j ≤ 6) (h0 : 0 ≤ n) (h1 : n < 2 ^ (8 * j)) : putV n k = txt n j := by
  subst hk
  unfold putV
  rw [putB_t ⟨by omega, by omega, h0, by simpa using h1⟩, if_pos rfl]
  rfl

theorem head_is (f t tl pr id fr : Int) (mo dn : Bool) (op da : ByteArray) (h : mayP f t tl pr id fr mo op.size da.size = true) : (putV (64 + (20 + (op.size : Int)) / 4) 1) ++ (putV 0 1) ++ (putV (20 + (op.size : Int) + (da.size : Int)) 2) ++ (putV id 2) ++ (putV (flagsV fr mo dn) 2) ++ (putV tl 1) ++ (putV pr 1) ++ (putV 0 2) ++ (putV f 4) ++ (putV t 4) ++ op = headP f t tl pr id fr mo dn op da := by
  obtain ⟨⟨f0, f1⟩, ⟨t0, t1⟩, ⟨l0, l1⟩, ⟨p0, p1⟩, ⟨i0, i1⟩, ⟨r0, r1⟩, o4, o40, hm, hz, hz2⟩ := mayP_q h
  have hf := flagsV_bd fr mo dn r0 r1
  unfold headP
  rw [putV_is _ 1 1 rfl (by decide) (by omega) (by simp; omega), putV_is 0 1 1 rfl (by decide) (by omega) (by decide), putV_is _ 2 2 rfl (by decide) (by omega) (by simp; omega), putV_is id 2 2 rfl (by decide) i0 (by simp; omega), putV_is (flagsV fr mo dn) 2 2 rfl (by decide) hf.1 (by simp; omega), putV_is tl 1 1 rfl (by decide) l0 (by simp; omega), putV_is pr 1 1 rfl (by decide) p0 (by simp; omega), putV_is 0 2 2 rfl (by decide) (by omega) (by decide), putV_is f 4 4 rfl (by decide) f0 (by simp; omega), putV_is t 4 4 rfl (by decide) t0 (by simp; omega)]
theorem seal_is (f t tl pr id fr : Int) (mo dn : Bool) (op da : ByteArray) (h : mayP f t tl pr id fr mo op.size da.size = true) : sealV ((putV (64 + (20 + (op.size : Int)) / 4) 1) ++ (putV 0 1) ++ (putV (20 + (op.size : Int) + (da.size : Int)) 2) ++ (putV id 2) ++ (putV (flagsV fr mo dn) 2) ++ (putV tl 1) ++ (putV pr 1) ++ (putV 0 2) ++ (putV f 4) ++ (putV t 4) ++ op) 10 = sealS (headP f t tl pr id fr mo dn op da) 10 := by
  rw [head_is f t tl pr id fr mo dn op da h]
  have hq := mayP_q h
  have hz := headP_size f t tl pr id fr mo dn op da
  obtain ⟨-, -, -, -, -, -, -, o40, -, -, -⟩ := hq
  unfold sealV
  rw [place_t (by rw [hz]; omega), if_pos rfl, if_pos (by omega)]

set_option maxRecDepth 100000 in
set_option maxHeartbeats 4000000 in
theorem hdr_h {f t tl pr id fr : Int} {mo dn : Bool} {op da : ByteArray} (H : Int) (w : World) (hH : ∀ W, Calls Tryz.prog 17 #[.agg #[.int .i64 f, .int .i64 t, .int .i64 tl, .int .i64 pr, .int .i64 id, .int .i64 fr, .bool mo, .bool dn, .string op, .string da]] W fun e w' => e = .returned (.int .i64 H) ∧ Below W.heap.size W w') (H0 : 0 ≤ H) (H1 : H ≤ 60) (hfr : 0 ≤ fr ∧ fr ≤ 8191) (ho : op.size ≤ 40) (hd0 : (da.size : Int) ≤ 65535) :
    Calls Tryz.prog 26 #[.agg #[.int .i64 f, .int .i64 t, .int .i64 tl, .int .i64 pr, .int .i64 id, .int .i64 fr, .bool mo, .bool dn, .string op, .string da]] w fun e w' => e = .returned (.string (sealV ((putV (64 + H / 4) 1) ++ (putV 0 1) ++ (putV (H + (da.size : Int)) 2) ++ (putV id 2) ++ (putV (flagsV fr mo dn) 2) ++ (putV tl 1) ++ (putV pr 1) ++ (putV 0 2) ++ (putV f 4) ++ (putV t 4) ++ op) 10)) ∧ Below w.heap.size w w' := by
  have hA := At.box w #[.int .i64 f, .int .i64 t, .int .i64 tl, .int .i64 pr, .int .i64 id, .int .i64 fr, .bool mo, .bool dn, .string op, .string da] 23
  have hl := bel1 w (.cells #[.int .i64 f, .int .i64 t, .int .i64 tl, .int .i64 pr, .int .i64 id, .int .i64 fr, .bool mo, .bool dn, .string op, .string da] 23)
  have e1 : IntKind.i64.wrap (H.tdiv 4) = H / 4 := by rw [Int.tdiv_eq_ediv_of_nonneg H0, IntKind.wrap_i64]; omega
  have e2 : bits .or .i64 64 (H / 4) = 64 + H / 4 := or_head _ (by omega) (by omega)
  have e3 : IntKind.i64.wrap (H + (da.size : Int)) = H + (da.size : Int) := by rw [IntKind.wrap_i64]; omega
  have hfl := fun W => fl_any f t tl pr id fr mo dn op da W hfr.1 hfr.2
  have y1 := putV_le (64 + H / 4) 1
  have y2 := putV_le 0 1
  have y3 := putV_le (H + (da.size : Int)) 2
  have y4 := putV_le id 2
  have y5 := putV_le (flagsV fr mo dn) 2
  have y6 := putV_le tl 1
  have y7 := putV_le pr 1
  have y8 := putV_le 0 2
  have y9 := putV_le f 4
  have y10 := putV_le t 4
  have r1 : ∀ W, (Op.stringOp .add ((putV (64 + H / 4) 1)) (putV 0 1)).run Tryz.prog W = .ok (.string ((putV (64 + H / 4) 1) ++ (putV 0 1))) W := fun W => run_string_add_sum W _ _ (by omega)
  have r2 : ∀ W, (Op.stringOp .add ((putV (64 + H / 4) 1) ++ (putV 0 1)) (putV (H + (da.size : Int)) 2)).run Tryz.prog W = .ok (.string ((putV (64 + H / 4) 1) ++ (putV 0 1) ++ (putV (H + (da.size : Int)) 2))) W := fun W => run_string_add_sum W _ _ (by simp only [ByteArray.size_append]; omega)
  have r3 : ∀ W, (Op.stringOp .add ((putV (64 + H / 4) 1) ++ (putV 0 1) ++ (putV (H + (da.size : Int)) 2)) (putV id 2)).run Tryz.prog W = .ok (.string ((putV (64 + H / 4) 1) ++ (putV 0 1) ++ (putV (H + (da.size : Int)) 2) ++ (putV id 2))) W := fun W => run_string_add_sum W _ _ (by simp only [ByteArray.size_append]; omega)
  have r4 : ∀ W, (Op.stringOp .add ((putV (64 + H / 4) 1) ++ (putV 0 1) ++ (putV (H + (da.size : Int)) 2) ++ (putV id 2)) (putV (flagsV fr mo dn) 2)).run Tryz.prog W = .ok (.string ((putV (64 + H / 4) 1) ++ (putV 0 1) ++ (putV (H + (da.size : Int)) 2) ++ (putV id 2) ++ (putV (flagsV fr mo dn) 2))) W := fun W => run_string_add_sum W _ _ (by simp only [ByteArray.size_append]; omega)
  have r5 : ∀ W, (Op.stringOp .add ((putV (64 + H / 4) 1) ++ (putV 0 1) ++ (putV (H + (da.size : Int)) 2) ++ (putV id 2) ++ (putV (flagsV fr mo dn) 2)) (putV tl 1)).run Tryz.prog W = .ok (.string ((putV (64 + H / 4) 1) ++ (putV 0 1) ++ (putV (H + (da.size : Int)) 2) ++ (putV id 2) ++ (putV (flagsV fr mo dn) 2) ++ (putV tl 1))) W := fun W => run_string_add_sum W _ _ (by simp only [ByteArray.size_append]; omega)
  have r6 : ∀ W, (Op.stringOp .add ((putV (64 + H / 4) 1) ++ (putV 0 1) ++ (putV (H + (da.size : Int)) 2) ++ (putV id 2) ++ (putV (flagsV fr mo dn) 2) ++ (putV tl 1)) (putV pr 1)).run Tryz.prog W = .ok (.string ((putV (64 + H / 4) 1) ++ (putV 0 1) ++ (putV (H + (da.size : Int)) 2) ++ (putV id 2) ++ (putV (flagsV fr mo dn) 2) ++ (putV tl 1) ++ (putV pr 1))) W := fun W => run_string_add_sum W _ _ (by simp only [ByteArray.size_append]; omega)
  have r7 : ∀ W, (Op.stringOp .add ((putV (64 + H / 4) 1) ++ (putV 0 1) ++ (putV (H + (da.size : Int)) 2) ++ (putV id 2) ++ (putV (flagsV fr mo dn) 2) ++ (putV tl 1) ++ (putV pr 1)) (putV 0 2)).run Tryz.prog W = .ok (.string ((putV (64 + H / 4) 1) ++ (putV 0 1) ++ (putV (H + (da.size : Int)) 2) ++ (putV id 2) ++ (putV (flagsV fr mo dn) 2) ++ (putV tl 1) ++ (putV pr 1) ++ (putV 0 2))) W := fun W => run_string_add_sum W _ _ (by simp only [ByteArray.size_append]; omega)
  have r8 : ∀ W, (Op.stringOp .add ((putV (64 + H / 4) 1) ++ (putV 0 1) ++ (putV (H + (da.size : Int)) 2) ++ (putV id 2) ++ (putV (flagsV fr mo dn) 2) ++ (putV tl 1) ++ (putV pr 1) ++ (putV 0 2)) (putV f 4)).run Tryz.prog W = .ok (.string ((putV (64 + H / 4) 1) ++ (putV 0 1) ++ (putV (H + (da.size : Int)) 2) ++ (putV id 2) ++ (putV (flagsV fr mo dn) 2) ++ (putV tl 1) ++ (putV pr 1) ++ (putV 0 2) ++ (putV f 4))) W := fun W => run_string_add_sum W _ _ (by simp only [ByteArray.size_append]; omega)
  have r9 : ∀ W, (Op.stringOp .add ((putV (64 + H / 4) 1) ++ (putV 0 1) ++ (putV (H + (da.size : Int)) 2) ++ (putV id 2) ++ (putV (flagsV fr mo dn) 2) ++ (putV tl 1) ++ (putV pr 1) ++ (putV 0 2) ++ (putV f 4)) (putV t 4)).run Tryz.prog W = .ok (.string ((putV (64 + H / 4) 1) ++ (putV 0 1) ++ (putV (H + (da.size : Int)) 2) ++ (putV id 2) ++ (putV (flagsV fr mo dn) 2) ++ (putV tl 1) ++ (putV pr 1) ++ (putV 0 2) ++ (putV f 4) ++ (putV t 4))) W := fun W => run_string_add_sum W _ _ (by simp only [ByteArray.size_append]; omega)
  have r10 : ∀ W, (Op.stringOp .add ((putV (64 + H / 4) 1) ++ (putV 0 1) ++ (putV (H + (da.size : Int)) 2) ++ (putV id 2) ++ (putV (flagsV fr mo dn) 2) ++ (putV tl 1) ++ (putV pr 1) ++ (putV 0 2) ++ (putV f 4) ++ (putV t 4)) op).run Tryz.prog W = .ok (.string ((putV (64 + H / 4) 1) ++ (putV 0 1) ++ (putV (H + (da.size : Int)) 2) ++ (putV id 2) ++ (putV (flagsV fr mo dn) 2) ++ (putV tl 1) ++ (putV pr 1) ++ (putV 0 2) ++ (putV f 4) ++ (putV t 4) ++ op)) W := fun W => run_string_add_sum W _ _ (by simp only [ByteArray.size_append]; omega)
  have hzz : ((putV (64 + H / 4) 1) ++ (putV 0 1) ++ (putV (H + (da.size : Int)) 2) ++ (putV id 2) ++ (putV (flagsV fr mo dn) 2) ++ (putV tl 1) ++ (putV pr 1) ++ (putV 0 2) ++ (putV f 4) ++ (putV t 4) ++ op).size ≤ maxLen := by simp only [ByteArray.size_append]; unfold maxLen; omega
  have hse := fun W => seal_any ((putV (64 + H / 4) 1) ++ (putV 0 1) ++ (putV (H + (da.size : Int)) 2) ++ (putV id 2) ++ (putV (flagsV fr mo dn) 2) ++ (putV tl 1) ++ (putV pr 1) ++ (putV 0 2) ++ (putV f 4) ++ (putV t 4) ++ op) 10 W hzz
  have HSE : Hid (∀ W, Calls Tryz.prog 43 #[.string ((putV (64 + H / 4) 1) ++ (putV 0 1) ++ (putV (H + (da.size : Int)) 2) ++ (putV id 2) ++ (putV (flagsV fr mo dn) 2) ++ (putV tl 1) ++ (putV pr 1) ++ (putV 0 2) ++ (putV f 4) ++ (putV t 4) ++ op), .int .i64 10] W fun e w' => e = .returned (.tuple #[.string (sealV ((putV (64 + H / 4) 1) ++ (putV 0 1) ++ (putV (H + (da.size : Int)) 2) ++ (putV id 2) ++ (putV (flagsV fr mo dn) 2) ++ (putV tl 1) ++ (putV pr 1) ++ (putV 0 2) ++ (putV f 4) ++ (putV t 4) ++ op) 10), .int .i64 (sealC ((putV (64 + H / 4) 1) ++ (putV 0 1) ++ (putV (H + (da.size : Int)) 2) ++ (putV id 2) ++ (putV (flagsV fr mo dn) 2) ++ (putV tl 1) ++ (putV pr 1) ++ (putV 0 2) ++ (putV f 4) ++ (putV t 4) ++ op) 10)]) ∧ Below W.heap.size W w') := hse
  clear hse hzz y1 y2 y3 y4 y5 y6 y7 y8 y9 y10 ho
  go_enter Tryz.func26, Tryz.ntmps26
  go_wp2_with fail
  refine (hH _).mono ?_
  rintro e w1 ⟨rfl, hb⟩
  have hl := bt hl hb
  obtain ⟨hx, -, -⟩ := (hA.later hb).ten
  have hx5 := And.intro hl hx
  clear hA hb hl hx hH
  go_wp2
  go_region_held3 (fun W => Below w.heap.size w W ∧ W.cell? ⟨w.heap.size, 0, none⟩ = some (.int .i64 f) ∧ W.cell? ⟨w.heap.size, 1, none⟩ = some (.int .i64 t) ∧ W.cell? ⟨w.heap.size, 2, none⟩ = some (.int .i64 tl) ∧ W.cell? ⟨w.heap.size, 3, none⟩ = some (.int .i64 pr) ∧ W.cell? ⟨w.heap.size, 4, none⟩ = some (.int .i64 id) ∧ W.cell? ⟨w.heap.size, 5, none⟩ = some (.int .i64 fr) ∧ W.cell? ⟨w.heap.size, 6, none⟩ = some (.bool mo) ∧ W.cell? ⟨w.heap.size, 7, none⟩ = some (.bool dn) ∧ W.cell? ⟨w.heap.size, 8, none⟩ = some (.string op) ∧ W.cell? ⟨w.heap.size, 9, none⟩ = some (.string da)) (first | exact ⟨hx5.1.drew, hx5.2⟩ | (refine keep10 hb ?_; assumption)) (first | (go_at_call 41; refine (put_c _ _ _).mono ?_; rintro e w' ⟨rfl, hb⟩) | (go_at_call 42; refine (hfl _).mono ?_; rintro e w' ⟨rfl, hb⟩))
  all_goals
    rename_i hq
    go_wp2_with fail
    refine (HSE.out _).mono ?_
    rintro e w2 ⟨rfl, hb⟩
    go_wp2
    go_ret
    exact ⟨rfl, bt hq.1 hb⟩

theorem hdr_y {f t tl pr id fr : Int} {mo dn : Bool} {op da : ByteArray} (h : mayP f t tl pr id fr mo op.size da.size = true) (w : World) :
    Calls Tryz.prog 26 #[.agg #[.int .i64 f, .int .i64 t, .int .i64 tl, .int .i64 pr, .int .i64 id, .int .i64 fr, .bool mo, .bool dn, .string op, .string da]] w fun e w' => e = .returned (.string (sealS (headP f t tl pr id fr mo dn op da) 10)) ∧ Below w.heap.size w w' := by
  obtain ⟨-, -, -, -, -, h01, o4, o40, -, hz, -⟩ := mayP_q h
  have := hdr_h (f := f) (t := t) (tl := tl) (pr := pr) (id := id) (fr := fr) (mo := mo) (dn := dn) (op := op) (da := da) (20 + (op.size : Int)) w (fun W => hl_any f t tl pr id fr mo dn op da W (by omega)) (by omega) (by omega) h01 o40 (by omega)
  rw [seal_is f t tl pr id fr mo dn op da h] at this
  exact this
end Go.Proofs.YthjbmloemmggaaaGreatDoor.Ip

namespace Go.Proofs.YthjbmloemmggaaaGreatDoor.Ip
open Go.RowKit
set_option maxRecDepth 100000

theorem encP_le {f t tl pr id fr : Int} {mo dn : Bool} {op da : ByteArray} (h : mayP f t tl pr id fr mo op.size da.size = true) : (encP f t tl pr id fr mo dn op da).size ≤ 65535 := by
  rw [encP_size]; have := mayP_q h; obtain ⟨-, -, -, -, -, -, -, -, -, hz, -⟩ := this; exact hz
set_option maxRecDepth 100000 in
set_option maxHeartbeats 1000000 in
theorem enc_y {f t tl pr id fr : Int} {mo dn : Bool} {op da : ByteArray} (h : mayP f t tl pr id fr mo op.size da.size = true) (w : World) :
    Calls Tryz.prog 10 #[.agg #[.int .i64 f, .int .i64 t, .int .i64 tl, .int .i64 pr, .int .i64 id, .int .i64 fr, .bool mo, .bool dn, .string op, .string da]] w fun e w' => e = .returned (.tuple #[.string (encP f t tl pr id fr mo dn op da), .int .i64 0]) ∧ Below w.heap.size w w' := by
  have hA := At.box w #[.int .i64 f, .int .i64 t, .int .i64 tl, .int .i64 pr, .int .i64 id, .int .i64 fr, .bool mo, .bool dn, .string op, .string da] 23
  have hl := bel1 w (.cells #[.int .i64 f, .int .i64 t, .int .i64 tl, .int .i64 pr, .int .i64 id, .int .i64 fr, .bool mo, .bool dn, .string op, .string da] 23)
  obtain ⟨-, -, -, -, -, -, -, o40, -, hz, -⟩ := mayP_q h
  have ho : op.size ≤ 1125899906842624 := by omega
  have hd : da.size ≤ 1125899906842624 := by omega
  have hhd := fun W => hdr_y (dn := dn) h W
  have hz1 : (sealS (headP f t tl pr id fr mo dn op da) 10).size = 20 + op.size := by rw [sealS_size _ _ (by decide) (by rw [headP_size]; omega), headP_size]
  unfold encP
  generalize sealS (headP f t tl pr id fr mo dn op da) 10 = B at *
  have r1 : ∀ W, (Op.stringOp .add B da).run Tryz.prog W = .ok (.string (B ++ da)) W := fun W => run_string_add_sum W _ _ (by omega)
  clear hz1 hz o40
  go_enter Tryz.func10, Tryz.ntmps10
  go_wp2_with fail
  refine (mp_t h _ ho hd).mono ?_
  rintro e w1 ⟨rfl, hb⟩
  have hl := bt hl hb
  obtain ⟨hx, -, -⟩ := (hA.later hb).ten
  have hx5 := And.intro hl hx
  clear hA hb hl hx
  go_wp2
  go_region_held3 (fun W => Below w.heap.size w W ∧ W.cell? ⟨w.heap.size, 0, none⟩ = some (.int .i64 f) ∧ W.cell? ⟨w.heap.size, 1, none⟩ = some (.int .i64 t) ∧ W.cell? ⟨w.heap.size, 2, none⟩ = some (.int .i64 tl) ∧ W.cell? ⟨w.heap.size, 3, none⟩ = some (.int .i64 pr) ∧ W.cell? ⟨w.heap.size, 4, none⟩ = some (.int .i64 id) ∧ W.cell? ⟨w.heap.size, 5, none⟩ = some (.int .i64 fr) ∧ W.cell? ⟨w.heap.size, 6, none⟩ = some (.bool mo) ∧ W.cell? ⟨w.heap.size, 7, none⟩ = some (.bool dn) ∧ W.cell? ⟨w.heap.size, 8, none⟩ = some (.string op) ∧ W.cell? ⟨w.heap.size, 9, none⟩ = some (.string da)) (first | exact ⟨hx5.1.drew, hx5.2⟩ | (refine keep10 hb ?_; assumption)) (first | (go_at_call 26; refine (hhd _).mono ?_; rintro e w' ⟨rfl, hb⟩))
  all_goals
    rename_i hq
    go_wp2
    go_ret2
    exact ⟨rfl, hq.1⟩
end Go.Proofs.YthjbmloemmggaaaGreatDoor.Ip

namespace Go.Proofs.YthjbmloemmggaaaGreatDoor.Ip
open Go.RowKit
set_option maxRecDepth 100000

def byS (s : ByteArray) (i : Nat) : Int := if h : i < s.size then (s[i].toNat : Int) else 0
theorem byS_is (s : ByteArray) (i : Nat) (h : i < s.size) : (s[i].toNat : Int) = byS s i := by unfold byS; rw [dif_pos h]
theorem byS_bd (s : ByteArray) (i : Nat) : 0 ≤ byS s i ∧ byS s i ≤ 255 := by
  unfold byS; split
  · have := (s[i]).toNat_lt; omega
  · omega
def dH (s : ByteArray) : Int := byS s 0 % 16 * 4
def dL (s : ByteArray) : Int := numS (s.extract 2 4)
def dF (s : ByteArray) : Int := numS (s.extract 12 16)
def dT (s : ByteArray) : Int := numS (s.extract 16 20)
def dTl (s : ByteArray) : Int := numS (s.extract 8 9)
def dPr (s : ByteArray) : Int := numS (s.extract 9 10)
def dId (s : ByteArray) : Int := numS (s.extract 4 6)
def dFl (s : ByteArray) : Int := numS (s.extract 6 8)
def dFr (s : ByteArray) : Int := dFl s % 8192
def dMo (s : ByteArray) : Bool := dFl s / 8192 % 2 == 1
def dDn (s : ByteArray) : Bool := dFl s / 16384 % 2 == 1
def dOp (s : ByteArray) : ByteArray := s.extract 20 (dH s).toNat
def dDa (s : ByteArray) : ByteArray := s.extract (dH s).toNat (dL s).toNat
def mayD (s : ByteArray) : Bool := mayP (dF s) (dT s) (dTl s) (dPr s) (dId s) (dFr s) (dMo s) (dOp s).size (dDa s).size
theorem numS_bd (s : ByteArray) (a b k : Nat) (h : b - a ≤ k) : 0 ≤ numS (s.extract a b) ∧ numS (s.extract a b) < 256 ^ k := by
  have hb := numL_bd (s.extract a b).data.toList
  have hl : (s.extract a b).data.toList.length ≤ k := by
    rw [len_toList, ByteArray.size_extract]; omega
  refine ⟨hb.1, Int.lt_of_lt_of_le hb.2 ?_⟩
  rw [show (256 : Int) = ((256 : Nat) : Int) from rfl, ← Int.natCast_pow, ← Int.natCast_pow]
  exact Int.ofNat_le.2 (Nat.pow_le_pow_right (by decide) hl)
theorem dFl_bd (s : ByteArray) : 0 ≤ dFl s ∧ dFl s ≤ 65535 := by have := numS_bd s 6 8 2 (by decide); unfold dFl; omega
theorem dL_bd (s : ByteArray) : 0 ≤ dL s ∧ dL s ≤ 65535 := by have := numS_bd s 2 4 2 (by decide); unfold dL; omega
theorem and15 (n : Int) : bits .and .u8 n 15 = n % 16 := by
  show IntKind.u8.wrap ((BitVec.ofInt 8 n &&& BitVec.ofInt 8 15).toNat : Nat) = _
  have e : (BitVec.ofInt 8 15).toNat = 2 ^ 4 - 1 := by decide
  rw [BitVec.toNat_and, e, Nat.and_two_pow_sub_one_eq_mod, BitVec.toNat_ofInt, IntKind.wrap_u8']
  omega
theorem and_frag (n : Int) : bits .and .i64 n 8191 = n % 8192 := by
  show IntKind.i64.wrap ((BitVec.ofInt 64 n &&& BitVec.ofInt 64 8191).toNat : Nat) = _
  have e : (BitVec.ofInt 64 8191).toNat = 2 ^ 13 - 1 := by decide
  rw [BitVec.toNat_and, e, Nat.and_two_pow_sub_one_eq_mod, BitVec.toNat_ofInt, IntKind.wrap_i64]
  omega
theorem and_pow (n k : Nat) : n &&& 2 ^ k = n / 2 ^ k % 2 * 2 ^ k := by
  apply Nat.eq_of_testBit_eq
  intro i
  have e2 : n / 2 ^ k % 2 = n / 2 ^ k % 2 ^ 1 := rfl
  rw [Nat.testBit_and, Nat.testBit_two_pow, Nat.testBit_mul_two_pow, e2, Nat.testBit_mod_two_pow, Nat.testBit_div_two_pow]
  by_cases h : k = i
  · subst h; simp
  · have : k ≤ i → ¬ i - k < 1 := by omega
    by_cases h2 : k ≤ i
    · simp [h, h2, this h2]
    · simp [h, h2]
theorem and_bit (n : Int) (k : Nat) (K : Int) (hK : K = ((2 ^ k : Nat) : Int)) (hk : k < 62) (h0 : 0 ≤ n) (h1 : n ≤ 65535) : (bits .and .i64 n K != 0) = (n / K % 2 == 1) := by
  obtain ⟨m, rfl⟩ := Int.eq_ofNat_of_zero_le h0
  subst hK
  have hp : 2 ^ k < 2 ^ 62 := Nat.pow_lt_pow_right (by decide) hk
  have hp0 : 0 < 2 ^ k := Nat.two_pow_pos k
  have e : bits .and .i64 (m : Int) ((2 ^ k : Nat) : Int) = ((m / 2 ^ k % 2 * 2 ^ k : Nat) : Int) := by
    show IntKind.i64.wrap ((BitVec.ofInt 64 (m : Int) &&& BitVec.ofInt 64 ((2 ^ k : Nat) : Int)).toNat : Nat) = _
    have ea : (BitVec.ofInt 64 (m : Int)).toNat = m := by rw [BitVec.toNat_ofInt]; omega
    have eb : (BitVec.ofInt 64 ((2 ^ k : Nat) : Int)).toNat = 2 ^ k := by rw [BitVec.toNat_ofInt]; omega
    rw [BitVec.toNat_and, ea, eb, and_pow, IntKind.wrap_i64]
    have : m / 2 ^ k % 2 = 0 ∨ m / 2 ^ k % 2 = 1 := by omega
    rcases this with h | h <;> rw [h] <;> omega
  rw [e]
  have e2 : (m : Int) / ((2 ^ k : Nat) : Int) % 2 = ((m / 2 ^ k % 2 : Nat) : Int) := by omega
  rw [e2]
  have : m / 2 ^ k % 2 = 0 ∨ m / 2 ^ k % 2 = 1 := by omega
  rcases this with h | h <;> rw [h]
  · simp
  · rw [Nat.one_mul]
    have e3 : (((2 ^ k : Nat) : Int) != 0) = true := by rw [bne_iff_ne]; omega
    rw [e3]; rfl
theorem get_c (s : ByteArray) (off k : Int) (w : World) (hs : s.size ≤ maxLen) : Calls Tryz.prog 83 #[.string s, .int .i64 off, .int .i64 k] w fun e w' => e = .returned (.int .i64 (getV s off k)) ∧ Below w.heap.size w w' := by
  go_enter Tryz.func83, Tryz.ntmps83
  go_wp2_with fail
  refine (get_any s off k _ hs).mono ?_
  rintro e w1 ⟨rfl, hb⟩
  go_wp2
  go_ret
  exact ⟨rfl, hb⟩
theorem getV_is (s : ByteArray) (off k : Int) (a b : Nat) (ha : off = a) (hb : off + k = b) (hk : 1 ≤ k ∧ k ≤ 6) (h20 : 20 ≤ (s.size : Int)) (h : off + k ≤ 20) : getV s off k = numS (s.extract a b) := by
  unfold getV
  rw [getB_t ⟨hk.1, hk.2, by omega, by omega⟩, if_pos rfl, hb, ha]
  rfl

theorem ret_iib {a b : Int} {c d : Bool} (h : c = d) : Ending.returned (.tuple #[.int .i64 a, .int .i64 b, .bool c]) = .returned (.tuple #[.int .i64 a, .int .i64 b, .bool d]) := by rw [h]
set_option maxHeartbeats 1000000 in
theorem len_y {s : ByteArray} (h20 : 20 ≤ (s.size : Int)) (h4 : (byS s 0 / 16 != 4) = false) (b : Bool) (hb : b = false ∧ dH s < 20 ∨ b = false ∧ 20 ≤ dH s ∧ dL s < dH s ∨ b = false ∧ 20 ≤ dH s ∧ dH s ≤ dL s ∧ (s.size : Int) < dL s ∨ b = true ∧ 20 ≤ dH s ∧ dH s ≤ dL s ∧ dL s ≤ (s.size : Int)) (w : World) (hs : s.size ≤ 1125899906842624) :
    Calls Tryz.prog 64 #[.string s] w fun e w' => e = .returned (.tuple #[.int .i64 (dH s), .int .i64 (dL s), .bool b]) ∧ Below w.heap.size w w' := by
  have hs' : (s.size : Int) ≤ 1125899906842624 := by omega
  have hsm : s.size ≤ maxLen := by unfold maxLen; omega
  have h0 : 0 < s.size := by omega
  have e0 := byS_is s 0 h0
  have e1 := and15 (byS s 0)
  have e2 : byS s 0 % 16 * 4 = dH s := rfl
  have e3 := getV_is s 2 2 2 4 rfl rfl (by decide) h20 (by decide)
  have e4 : numS (s.extract 2 4) = dL s := rfl
  rw [e4] at e3
  have q0 : 0 ≤ byS s 0 % 16 := by omega
  have q1 : byS s 0 % 16 ≤ 15 := by omega
  clear e4
  rcases hb with ⟨rfl, a1⟩ | ⟨rfl, a1, a2⟩ | ⟨rfl, a1, a2, a3⟩ | ⟨rfl, a1, a2, a3⟩
  all_goals
    go_enter Tryz.func64, Tryz.ntmps64
    go_wp2_with fail
    refine (get_c _ _ _ _ hsm).mono ?_
    rintro e w1 ⟨rfl, hb⟩
    go_wp2
    go_ret3
    first | exact ⟨rfl, hb⟩ | exact ⟨ret_iib (decide_eq_false (by omega)), hb⟩ | exact ⟨ret_iib (decide_eq_true (by omega)), hb⟩

set_option maxRecDepth 100000 in
set_option maxHeartbeats 4000000 in
theorem read_y {s : ByteArray} (h20 : 20 ≤ (s.size : Int)) (hH : 20 ≤ dH s) (hL : dH s ≤ dL s) (hS : dL s ≤ (s.size : Int)) (w : World) (hs : s.size ≤ 1125899906842624) :
    Calls Tryz.prog 66 #[.string s, .int .i64 (dH s), .int .i64 (dL s)] w fun e w' => e = .returned (.agg #[.int .i64 (dF s), .int .i64 (dT s), .int .i64 (dTl s), .int .i64 (dPr s), .int .i64 (dId s), .int .i64 (dFr s), .bool (dMo s), .bool (dDn s), .string (dOp s), .string (dDa s)]) ∧ Below w.heap.size w w' := by
  have hs' : (s.size : Int) ≤ 1125899906842624 := by omega
  have hsm : s.size ≤ maxLen := by unfold maxLen; omega
  have hl := bel1 w (.cells #[.int .i64 0, .int .i64 0, .int .i64 0, .int .i64 0, .int .i64 0, .int .i64 0, .bool false, .bool false, .string ⟨#[]⟩, .string ⟨#[]⟩] 23)
  have hR := At.box w #[.int .i64 0, .int .i64 0, .int .i64 0, .int .i64 0, .int .i64 0, .int .i64 0, .bool false, .bool false, .string ⟨#[]⟩, .string ⟨#[]⟩] 23
  have hHs : dH s ≤ (s.size : Int) := by omega
  have hH0 : 0 ≤ dH s := by omega
  have hL0 : 0 ≤ dL s := by omega
  have e1 : getV s 6 2 = dFl s := getV_is s 6 2 6 8 rfl rfl (by decide) h20 (by decide)
  have e2 : getV s 12 4 = dF s := getV_is s 12 4 12 16 rfl rfl (by decide) h20 (by decide)
  have e3 : getV s 16 4 = dT s := getV_is s 16 4 16 20 rfl rfl (by decide) h20 (by decide)
  have e4 : getV s 8 1 = dTl s := getV_is s 8 1 8 9 rfl rfl (by decide) h20 (by decide)
  have e5 : getV s 9 1 = dPr s := getV_is s 9 1 9 10 rfl rfl (by decide) h20 (by decide)
  have e6 : getV s 4 2 = dId s := getV_is s 4 2 4 6 rfl rfl (by decide) h20 (by decide)
  have e7 : bits .and .i64 (dFl s) 8191 = dFr s := and_frag _
  have e8 : (bits .and .i64 (dFl s) 8192 != 0) = dMo s := and_bit _ 13 8192 rfl (by decide) (dFl_bd s).1 (dFl_bd s).2
  have e9 : (bits .and .i64 (dFl s) 16384 != 0) = dDn s := and_bit _ 14 16384 rfl (by decide) (dFl_bd s).1 (dFl_bd s).2
  have x1 : s.extract 20 (dH s).toNat = dOp s := rfl
  have x2 : s.extract (dH s).toNat (dL s).toNat = dDa s := rfl
  have hg := fun W off k => get_c s off k W hsm
  generalize dFl s = FL at *
  generalize dF s = X1 at *
  generalize dT s = X2 at *
  generalize dTl s = X3 at *
  generalize dPr s = X4 at *
  generalize dId s = X5 at *
  generalize dFr s = X6 at *
  generalize dMo s = X7 at *
  generalize dDn s = X8 at *
  generalize dOp s = X9 at *
  generalize dDa s = X10 at *
  generalize dH s = H at *
  generalize dL s = L at *
  go_enter Tryz.func66, Tryz.ntmps66
  go_wp2_with fail
  refine (hg _ _ _).mono ?_
  rintro e w1 ⟨rfl, hb⟩
  have hl := bt hl hb
  replace hR := hR.later hb
  clear hb
  have hR : At w1.drew w.heap.size #[.int .i64 0, .int .i64 0, .int .i64 0, .int .i64 0, .int .i64 0, .int .i64 0, .bool false, .bool false, .string ⟨#[]⟩, .string ⟨#[]⟩] := hR
  have hl : Below w.heap.size w w1.drew := hl.drew
  go_wp2
  go_region_with (first | (go_at_call 83; refine (hg _ _ _).mono ?_; rintro e w' ⟨rfl, hb⟩; replace hl := bt hl hb; replace hR := hR.later hb; clear hb; (try clear hx); have hx := hR.ten))
  obtain ⟨⟨r0, r1, r2, r3, r4, r5, r6, r7, r8, r9⟩, -, hlt⟩ := hx
  go_wp2
  exact bodyPost_ret (v := .agg #[.int .i64 X1, .int .i64 X2, .int .i64 X3, .int .i64 X4, .int .i64 X5, .int .i64 X6, .bool X7, .bool X8, .string X9, .string X10]) (by simp [results, Tryz.results66, go_sem, r0, r1, r2, r3, r4, r5, r6, r7, r8, r9]) rfl ⟨rfl, below10 hl (Nat.le_refl _) _ _ _ _ _ _ _ _ _ _⟩

theorem dOp_size {s : ByteArray} (hH : 20 ≤ dH s) (hL : dH s ≤ dL s) (hS : dL s ≤ (s.size : Int)) : ((dOp s).size : Int) = dH s - 20 := by
  unfold dOp; rw [ByteArray.size_extract]; omega
theorem dDa_size {s : ByteArray} (hH : 20 ≤ dH s) (hL : dH s ≤ dL s) (hS : dL s ≤ (s.size : Int)) : ((dDa s).size : Int) = dL s - dH s := by
  unfold dDa; rw [ByteArray.size_extract]; omega
theorem dH_bd (s : ByteArray) : 0 ≤ dH s ∧ dH s ≤ 60 := by unfold dH; have := byS_bd s 0; omega
def headS' (s : ByteArray) : ByteArray := s.extract 0 (dH s).toNat

theorem wh_t {s : ByteArray} (h : sumS s = 0) (w : World) (hs : s.size ≤ 140737488355328) : Calls Tryz.prog 65 #[.string s] w fun e w' => e = .returned (.bool true) ∧ Below w.heap.size w w' := by
  have := whole_any s w hs; rw [h] at this; exact this
theorem hd_size (s : ByteArray) : (headS' s).size ≤ 140737488355328 := by
  unfold headS'; rw [ByteArray.size_extract]; have := dH_bd s; omega
set_option maxRecDepth 100000 in
set_option maxHeartbeats 2000000 in
theorem dec_4 {s : ByteArray} (h20 : 20 ≤ (s.size : Int)) (h4 : (byS s 0 / 16 != 4) = false) (hH : 20 ≤ dH s) (hL : dH s ≤ dL s) (hS : dL s ≤ (s.size : Int)) (hw : sumS (headS' s) = 0) (h : (byS s 1 != 0) = true ∨ (byS s 1 != 0) = false ∧ (byS s 6 / 128 != 0) = true) (w : World) (hs : s.size ≤ 1125899906842624) :
    Calls Tryz.prog 50 #[.string s] w fun e w' => e = .returned (.tuple #[.agg #[.int .i64 0, .int .i64 0, .int .i64 0, .int .i64 0, .int .i64 0, .int .i64 0, .bool false, .bool false, .string ⟨#[]⟩, .string ⟨#[]⟩], .int .i64 50]) ∧ Below w.heap.size w w' := by
  have hl := bel1 w (.cells #[.int .i64 0, .int .i64 0, .int .i64 0, .int .i64 0, .int .i64 0, .int .i64 0, .bool false, .bool false, .string ⟨#[]⟩, .string ⟨#[]⟩] 23)
  have hR := At.box w #[.int .i64 0, .int .i64 0, .int .i64 0, .int .i64 0, .int .i64 0, .int .i64 0, .bool false, .bool false, .string ⟨#[]⟩, .string ⟨#[]⟩] 23
  have x1 : s.extract 0 (dH s).toNat = headS' s := rfl
  have hHs : dH s ≤ (s.size : Int) := by omega
  have hH0 : 0 ≤ dH s := by omega
  have e1 := byS_is s 1 (by omega)
  have e6 := byS_is s 6 (by omega)
  have z1 := dOp_size hH hL hS
  have z2 := dDa_size hH hL hS
  have hbd := dH_bd s
  have hbl := dL_bd s
  have ho : (dOp s).size ≤ 1125899906842624 := by omega
  have hd : (dDa s).size ≤ 1125899906842624 := by omega
  have hq1 : 1 < (s.size : Int) := by omega
  have hq6 : 6 < (s.size : Int) := by omega
  clear z1 z2 hbd hbl
  rcases h with h | ⟨h, h2⟩
  all_goals
    go_enter Tryz.func50, Tryz.ntmps50
    go_wp2_with fail
    refine (len_y h20 h4 true (.inr (.inr (.inr ⟨rfl, hH, hL, hS⟩))) _ hs).mono ?_
    rintro e w1 ⟨rfl, hb⟩
    have hl := bt hl hb
    replace hR := hR.later hb
    clear hb
    go_wp2_with fail
    refine (wh_t hw _ (hd_size s)).mono ?_
    rintro e w2 ⟨rfl, hb⟩
    replace hl := bt hl hb
    replace hR := hR.later hb
    clear hb
    go_wp2_with fail
    refine (read_y h20 hH hL hS _ hs).mono ?_
    rintro e w3 ⟨rfl, hb⟩
    replace hl := bt hl hb
    replace hR := hR.later hb
    clear hb
    have hP := At.box w3 #[.int .i64 (dF s), .int .i64 (dT s), .int .i64 (dTl s), .int .i64 (dPr s), .int .i64 (dId s), .int .i64 (dFr s), .bool (dMo s), .bool (dDn s), .string (dOp s), .string (dDa s)] 23
    replace hR := hR.later (bel1 w3 (.cells #[.int .i64 (dF s), .int .i64 (dT s), .int .i64 (dTl s), .int .i64 (dPr s), .int .i64 (dId s), .int .i64 (dFr s), .bool (dMo s), .bool (dDn s), .string (dOp s), .string (dDa s)] 23))
    replace hl := bt hl (bel1 w3 (.cells #[.int .i64 (dF s), .int .i64 (dT s), .int .i64 (dTl s), .int .i64 (dPr s), .int .i64 (dId s), .int .i64 (dFr s), .bool (dMo s), .bool (dDn s), .string (dOp s), .string (dDa s)] 23))
    obtain ⟨⟨r0, r1, r2, r3, r4, r5, r6, r7, r8, r9⟩, ⟨f0, f1, f2, f3, f4, f5, f6, f7, f8, f9⟩, hlt⟩ := hR.ten
    go_wp2
    exact bodyPost_ret (v := .tuple #[.agg #[.int .i64 0, .int .i64 0, .int .i64 0, .int .i64 0, .int .i64 0, .int .i64 0, .bool false, .bool false, .string ⟨#[]⟩, .string ⟨#[]⟩], .int .i64 50]) (by simp [results, Tryz.results50, go_sem, r0, r1, r2, r3, r4, r5, r6, r7, r8, r9]) rfl ⟨rfl, below10 hl (Nat.le_refl _) _ _ _ _ _ _ _ _ _ _⟩

set_option maxRecDepth 100000 in
set_option maxHeartbeats 2000000 in
theorem dec_5 {s : ByteArray} (h20 : 20 ≤ (s.size : Int)) (h4 : (byS s 0 / 16 != 4) = false) (hH : 20 ≤ dH s) (hL : dH s ≤ dL s) (hS : dL s ≤ (s.size : Int)) (hw : sumS (headS' s) = 0) (h1 : (byS s 1 != 0) = false) (h6 : (byS s 6 / 128 != 0) = false) (h : mayD s = true) (w : World) (hs : s.size ≤ 1125899906842624) :
    Calls Tryz.prog 50 #[.string s] w fun e w' => e = .returned (.tuple #[.agg #[.int .i64 (dF s), .int .i64 (dT s), .int .i64 (dTl s), .int .i64 (dPr s), .int .i64 (dId s), .int .i64 (dFr s), .bool (dMo s), .bool (dDn s), .string (dOp s), .string (dDa s)], .int .i64 0]) ∧ Below w.heap.size w w' := by
  have hl := bel1 w (.cells #[.int .i64 0, .int .i64 0, .int .i64 0, .int .i64 0, .int .i64 0, .int .i64 0, .bool false, .bool false, .string ⟨#[]⟩, .string ⟨#[]⟩] 23)
  have hR := At.box w #[.int .i64 0, .int .i64 0, .int .i64 0, .int .i64 0, .int .i64 0, .int .i64 0, .bool false, .bool false, .string ⟨#[]⟩, .string ⟨#[]⟩] 23
  have x1 : s.extract 0 (dH s).toNat = headS' s := rfl
  have hHs : dH s ≤ (s.size : Int) := by omega
  have hH0 : 0 ≤ dH s := by omega
  have e1 := byS_is s 1 (by omega)
  have e6 := byS_is s 6 (by omega)
  have z1 := dOp_size hH hL hS
  have z2 := dDa_size hH hL hS
  have hbd := dH_bd s
  have hbl := dL_bd s
  have ho : (dOp s).size ≤ 1125899906842624 := by omega
  have hd : (dDa s).size ≤ 1125899906842624 := by omega
  have hq1 : 1 < (s.size : Int) := by omega
  have hq6 : 6 < (s.size : Int) := by omega
  clear z1 z2 hbd hbl
  have hh := h
  iterate 1
    go_enter Tryz.func50, Tryz.ntmps50
    go_wp2_with fail
    refine (len_y h20 h4 true (.inr (.inr (.inr ⟨rfl, hH, hL, hS⟩))) _ hs).mono ?_
    rintro e w1 ⟨rfl, hb⟩
    have hl := bt hl hb
    replace hR := hR.later hb
    clear hb
    go_wp2_with fail
    refine (wh_t hw _ (hd_size s)).mono ?_
    rintro e w2 ⟨rfl, hb⟩
    replace hl := bt hl hb
    replace hR := hR.later hb
    clear hb
    go_wp2_with fail
    refine (read_y h20 hH hL hS _ hs).mono ?_
    rintro e w3 ⟨rfl, hb⟩
    replace hl := bt hl hb
    replace hR := hR.later hb
    clear hb
    have hP := At.box w3 #[.int .i64 (dF s), .int .i64 (dT s), .int .i64 (dTl s), .int .i64 (dPr s), .int .i64 (dId s), .int .i64 (dFr s), .bool (dMo s), .bool (dDn s), .string (dOp s), .string (dDa s)] 23
    replace hR := hR.later (bel1 w3 (.cells #[.int .i64 (dF s), .int .i64 (dT s), .int .i64 (dTl s), .int .i64 (dPr s), .int .i64 (dId s), .int .i64 (dFr s), .bool (dMo s), .bool (dDn s), .string (dOp s), .string (dDa s)] 23))
    replace hl := bt hl (bel1 w3 (.cells #[.int .i64 (dF s), .int .i64 (dT s), .int .i64 (dTl s), .int .i64 (dPr s), .int .i64 (dId s), .int .i64 (dFr s), .bool (dMo s), .bool (dDn s), .string (dOp s), .string (dDa s)] 23))
    obtain ⟨⟨r0, r1, r2, r3, r4, r5, r6, r7, r8, r9⟩, ⟨f0, f1, f2, f3, f4, f5, f6, f7, f8, f9⟩, hlt⟩ := hR.ten
    go_wp2_with fail
    refine (mp_t h _ ho hd).mono ?_
    rintro e w4 ⟨rfl, hb⟩
    clear r0 r1 r2 r3 r4 r5 r6 r7 r8 r9 f0 f1 f2 f3 f4 f5 f6 f7 f8 f9 hlt
    replace hl := bt hl hb
    obtain ⟨⟨r0, r1, r2, r3, r4, r5, r6, r7, r8, r9⟩, ⟨f0, f1, f2, f3, f4, f5, f6, f7, f8, f9⟩, hlt⟩ := (hR.later hb).ten
    obtain ⟨⟨p0, p1, p2, p3, p4, p5, p6, p7, p8, p9⟩, -, -⟩ := (hP.later hb).ten
    go_wp2
    exact bodyPost_ret (v := .tuple #[.agg #[.int .i64 (dF s), .int .i64 (dT s), .int .i64 (dTl s), .int .i64 (dPr s), .int .i64 (dId s), .int .i64 (dFr s), .bool (dMo s), .bool (dDn s), .string (dOp s), .string (dDa s)], .int .i64 0]) (by simp [results, Tryz.results50, go_sem, r0, r1, r2, r3, r4, r5, r6, r7, r8, r9]) rfl ⟨rfl, below10 hl (Nat.le_refl _) _ _ _ _ _ _ _ _ _ _⟩
end Go.Proofs.YthjbmloemmggaaaGreatDoor.Ip

namespace Go.Proofs.YthjbmloemmggaaaGreatDoor.Ip
open Go.RowKit
set_option maxRecDepth 100000

def preP (A L id fl tl pr : Int) : ByteArray := txt A 1 ++ txt 0 1 ++ txt L 2 ++ txt id 2 ++ txt fl 2 ++ txt tl 1 ++ txt pr 1
def postP (f t : Int) (op : ByteArray) : ByteArray := txt f 4 ++ txt t 4 ++ op
theorem preP_size (A L id fl tl pr : Int) : (preP A L id fl tl pr).size = 10 := by unfold preP; simp only [ByteArray.size_append, txt_size]
def sumP (f t : Int) (A L id fl tl pr : Int) (op : ByteArray) : Int := missV (totS [preP A L id fl tl pr, postP f t op])
theorem seal_parts (f t tl pr id fr : Int) (mo dn : Bool) (op da : ByteArray) : sealS (headP f t tl pr id fr mo dn op da) 10 = preP (64 + (20 + (op.size : Int)) / 4) (20 + (op.size : Int) + (da.size : Int)) id (flagsV fr mo dn) tl pr ++ txt (sumP f t (64 + (20 + (op.size : Int)) / 4) (20 + (op.size : Int) + (da.size : Int)) id (flagsV fr mo dn) tl pr op) 2 ++ postP f t op := by
  have e : headP f t tl pr id fr mo dn op da = preP (64 + (20 + (op.size : Int)) / 4) (20 + (op.size : Int) + (da.size : Int)) id (flagsV fr mo dn) tl pr ++ txt 0 2 ++ postP f t op := by
    unfold headP preP postP
    simp only [ByteArray.append_assoc]
  have h1 : headS (headP f t tl pr id fr mo dn op da) 10 = preP (64 + (20 + (op.size : Int)) / 4) (20 + (op.size : Int) + (da.size : Int)) id (flagsV fr mo dn) tl pr := by
    rw [e]; unfold headS
    have := mid_head (preP (64 + (20 + (op.size : Int)) / 4) (20 + (op.size : Int) + (da.size : Int)) id (flagsV fr mo dn) tl pr) (txt 0 2) (postP f t op)
    rw [preP_size] at this; exact this
  have h2 : tailS (headP f t tl pr id fr mo dn op da) 10 = postP f t op := by
    rw [e]; unfold tailS
    exact mid_tail _ _ _ _ (by rw [preP_size, txt_size]; rfl)
  unfold sealS sumP
  rw [h1, h2]
theorem sumP_bd (f t : Int) (A L id fl tl pr : Int) (op : ByteArray) : 0 ≤ sumP f t A L id fl tl pr op ∧ sumP f t A L id fl tl pr op ≤ 65535 := missV_bd _
theorem enc_list (f t tl pr id fr : Int) (mo dn : Bool) (op da : ByteArray) (more : ByteArray) : (encP f t tl pr id fr mo dn op da ++ more).data.toList = txtL (64 + (20 + (op.size : Int)) / 4) 1 ++ (txtL 0 1 ++ (txtL (20 + (op.size : Int) + (da.size : Int)) 2 ++ (txtL id 2 ++ (txtL (flagsV fr mo dn) 2 ++ (txtL tl 1 ++ (txtL pr 1 ++ (txtL (sumP f t (64 + (20 + (op.size : Int)) / 4) (20 + (op.size : Int) + (da.size : Int)) id (flagsV fr mo dn) tl pr op) 2 ++ (txtL f 4 ++ (txtL t 4 ++ (op.data.toList ++ (da.data.toList ++ more.data.toList))))))))))) := by
  unfold encP
  rw [seal_parts]
  unfold preP postP
  simp only [app_toList, txt_toList, List.append_assoc]

theorem byS_one (s : ByteArray) (i j : Nat) (hj : j = i + 1) (h : i < s.size) : byS s i = numS (s.extract i j) := by
  subst hj
  have hl := len_toList s
  unfold numS
  rw [ext_toList, ← byS_is s i h, show i + 1 - i = 1 by omega]
  rw [List.drop_eq_getElem_cons (by omega : i < s.data.toList.length)]
  simp [numL]
  rfl
theorem byS_at (s : ByteArray) (pre post : List UInt8) (n : Int) (i : Nat) (hs : s.data.toList = pre ++ (txtL n 1 ++ post)) (ha : pre.length = i) (h0 : 0 ≤ n) (h1 : n ≤ 255) : byS s i = n := by
  have hl := len_toList s
  have hi : i < s.size := by rw [← hl, hs]; simp [txtL_len]; omega
  rw [← num_at s pre post n 1 i (i + 1) hs ha rfl h0 (by simp; omega)]
  exact byS_one s i (i + 1) rfl hi

theorem back_fields {f t tl pr id fr : Int} {mo dn : Bool} {op da : ByteArray} (h : mayP f t tl pr id fr mo op.size da.size = true) (more s : ByteArray) (hsq : s = encP f t tl pr id fr mo dn op da ++ more) :
    20 ≤ (s.size : Int) ∧ byS s 0 = 64 + (20 + (op.size : Int)) / 4 ∧ byS s 1 = 0 ∧ dH s = 20 + (op.size : Int) ∧ dL s = 20 + (op.size : Int) + (da.size : Int) ∧ dL s ≤ (s.size : Int) ∧ dF s = f ∧ dT s = t ∧ dTl s = tl ∧ dPr s = pr ∧ dId s = id ∧ dFl s = flagsV fr mo dn := by
  obtain ⟨⟨f0, f1⟩, ⟨t0, t1⟩, ⟨l0, l1⟩, ⟨p0, p1⟩, ⟨i0, i1⟩, ⟨r0, r1⟩, o4, o40, hm, hz, hz2⟩ := mayP_q h
  have hf := flagsV_bd fr mo dn r0 r1
  have hL := enc_list f t tl pr id fr mo dn op da more
  rw [← hsq] at hL
  have hsz : s.size = 20 + op.size + da.size + more.size := by rw [hsq, ByteArray.size_append, encP_size]
  have a0 : byS s 0 = 64 + (20 + (op.size : Int)) / 4 := byS_at s [] _ _ 0 hL rfl (by omega) (by omega)
  have cc := sumP_bd f t (64 + (20 + (op.size : Int)) / 4) (20 + (op.size : Int) + (da.size : Int)) id (flagsV fr mo dn) tl pr op
  obtain ⟨A, hA⟩ : ∃ A : Int, A = 64 + (20 + (op.size : Int)) / 4 := ⟨_, rfl⟩
  rw [← hA] at hL a0 cc ⊢
  generalize sumP f t A (20 + (op.size : Int) + (da.size : Int)) id (flagsV fr mo dn) tl pr op = C at hL cc
  have hdl : dL s = 20 + (op.size : Int) + (da.size : Int) := num_at s (txtL A 1 ++ txtL 0 1) _ _ 2 2 4 (by rw [hL]; simp only [List.append_assoc]; rfl) (by simp only [List.length_append, txtL_len]) rfl (by omega) (by simp; omega)
  refine ⟨by omega, a0, ?_, ?_, hdl, by omega, ?_, ?_, ?_, ?_, ?_, ?_⟩
  · exact byS_at s (txtL A 1) _ _ 1 hL (by rw [txtL_len]) (by decide) (by decide)
  · unfold dH; rw [a0]; omega
  · exact num_at s (txtL A 1 ++ (txtL 0 1 ++ (txtL (20 + (op.size : Int) + (da.size : Int)) 2 ++ (txtL id 2 ++ (txtL (flagsV fr mo dn) 2 ++ (txtL tl 1 ++ (txtL pr 1 ++ txtL C 2))))))) _ _ 4 12 16 (by rw [hL]; simp only [List.append_assoc]; rfl) (by simp only [List.length_append, txtL_len]) rfl f0 (by simp; omega)
  · exact num_at s (txtL A 1 ++ (txtL 0 1 ++ (txtL (20 + (op.size : Int) + (da.size : Int)) 2 ++ (txtL id 2 ++ (txtL (flagsV fr mo dn) 2 ++ (txtL tl 1 ++ (txtL pr 1 ++ (txtL C 2 ++ txtL f 4)))))))) _ _ 4 16 20 (by rw [hL]; simp only [List.append_assoc]; rfl) (by simp only [List.length_append, txtL_len]) rfl t0 (by simp; omega)
  · exact num_at s (txtL A 1 ++ (txtL 0 1 ++ (txtL (20 + (op.size : Int) + (da.size : Int)) 2 ++ (txtL id 2 ++ txtL (flagsV fr mo dn) 2)))) _ _ 1 8 9 (by rw [hL]; simp only [List.append_assoc]; rfl) (by simp only [List.length_append, txtL_len]) rfl l0 (by simp; omega)
  · exact num_at s (txtL A 1 ++ (txtL 0 1 ++ (txtL (20 + (op.size : Int) + (da.size : Int)) 2 ++ (txtL id 2 ++ (txtL (flagsV fr mo dn) 2 ++ txtL tl 1))))) _ _ 1 9 10 (by rw [hL]; simp only [List.append_assoc]; rfl) (by simp only [List.length_append, txtL_len]) rfl p0 (by simp; omega)
  · exact num_at s (txtL A 1 ++ (txtL 0 1 ++ txtL (20 + (op.size : Int) + (da.size : Int)) 2)) _ _ 2 4 6 (by rw [hL]; simp only [List.append_assoc]; rfl) (by simp only [List.length_append, txtL_len]) rfl i0 (by simp; omega)
  · exact num_at s (txtL A 1 ++ (txtL 0 1 ++ (txtL (20 + (op.size : Int) + (da.size : Int)) 2 ++ txtL id 2))) _ _ 2 6 8 (by rw [hL]; simp only [List.append_assoc]; rfl) (by simp only [List.length_append, txtL_len]) rfl hf.1 (by simp; omega)
end Go.Proofs.YthjbmloemmggaaaGreatDoor.Ip

namespace Go.Proofs.YthjbmloemmggaaaGreatDoor.Ip
open Go.RowKit
set_option maxRecDepth 100000

theorem two_num (s : ByteArray) (i j : Nat) (hj : j = i + 2) (h : i + 1 < s.size) : numS (s.extract i j) = byS s i * 256 + byS s (i + 1) := by
  subst hj
  have hl := len_toList s
  unfold numS
  rw [ext_toList, ← byS_is s i (by omega), ← byS_is s (i + 1) h, show i + 2 - i = 2 by omega]
  rw [List.drop_eq_getElem_cons (by omega : i < s.data.toList.length), List.drop_eq_getElem_cons (by omega : i + 1 < s.data.toList.length)]
  simp [numL]
  rfl
theorem high_bit (s : ByteArray) (h : 20 ≤ (s.size : Int)) : byS s 6 / 128 = 0 ↔ dFl s < 32768 := by
  have e := two_num s 6 8 rfl (by omega)
  have b6 := byS_bd s 6
  have b7 := byS_bd s (6 + 1)
  unfold dFl
  rw [e]
  omega
theorem back_flags (s : ByteArray) (fr : Int) (mo dn : Bool) (h0 : 0 ≤ fr) (h1 : fr ≤ 8191) (h : dFl s = flagsV fr mo dn) : dFr s = fr ∧ dMo s = mo ∧ dDn s = dn := by
  unfold dFr dMo dDn
  rw [h]
  unfold flagsV
  refine ⟨?_, ?_, ?_⟩ <;> cases mo <;> cases dn <;> simp <;> omega
theorem sum_zero {s : ByteArray} (h : foldV (ws true s.data.toList) = 65535) : sumS s = 0 := by unfold sumS missV; omega
def goodD (s : ByteArray) : Prop := 20 ≤ (s.size : Int) ∧ (byS s 0 / 16 != 4) = false ∧ 20 ≤ dH s ∧ dH s ≤ dL s ∧ dL s ≤ (s.size : Int) ∧ sumS (headS' s) = 0 ∧ (byS s 1 != 0) = false ∧ (byS s 6 / 128 != 0) = false ∧ mayD s = true
theorem dec_y {s : ByteArray} (h : goodD s) (w : World) (hs : s.size ≤ 1125899906842624) :
    Calls Tryz.prog 50 #[.string s] w fun e w' => e = .returned (.tuple #[.agg #[.int .i64 (dF s), .int .i64 (dT s), .int .i64 (dTl s), .int .i64 (dPr s), .int .i64 (dId s), .int .i64 (dFr s), .bool (dMo s), .bool (dDn s), .string (dOp s), .string (dDa s)], .int .i64 0]) ∧ Below w.heap.size w w' := by
  obtain ⟨a, b, c, d, e, f, g, i, j⟩ := h
  exact dec_5 a b c d e f g i j w hs
theorem ext_pre (A B : ByteArray) (n : Nat) (h : n = A.size) : (A ++ B).extract 0 n = A := by
  apply ba_toList
  rw [ext_toList, app_toList, List.drop_zero, h, Nat.sub_zero, ← len_toList A, List.take_left]
theorem ext_mid (A B C : ByteArray) (n m : Nat) (h : n = A.size) (hm : m = A.size + B.size) : (A ++ B ++ C).extract n m = B := by
  apply ba_toList
  rw [ext_toList, app_toList, app_toList, List.append_assoc, h, hm, ← len_toList A, List.drop_left, ← len_toList B, show A.data.toList.length + B.data.toList.length - A.data.toList.length = B.data.toList.length by omega, List.take_left]
theorem seal_split (f t tl pr id fr : Int) (mo dn : Bool) (op da : ByteArray) : sealS (headP f t tl pr id fr mo dn op da) 10 = (preP (64 + (20 + (op.size : Int)) / 4) (20 + (op.size : Int) + (da.size : Int)) id (flagsV fr mo dn) tl pr ++ txt (sumP f t (64 + (20 + (op.size : Int)) / 4) (20 + (op.size : Int) + (da.size : Int)) id (flagsV fr mo dn) tl pr op) 2 ++ txt f 4 ++ txt t 4) ++ op := by
  rw [seal_parts]; unfold postP; simp only [ByteArray.append_assoc]
theorem back_good {f t tl pr id fr : Int} {mo dn : Bool} {op da : ByteArray} (h : mayP f t tl pr id fr mo op.size da.size = true) (more s : ByteArray) (hsq : s = encP f t tl pr id fr mo dn op da ++ more) :
    goodD s ∧ dF s = f ∧ dT s = t ∧ dTl s = tl ∧ dPr s = pr ∧ dId s = id ∧ dFr s = fr ∧ dMo s = mo ∧ dDn s = dn ∧ dOp s = op ∧ dDa s = da := by
  obtain ⟨b20, b0, b1, bH, bL, bS, bf, bt, btl, bpr, bid, bfl⟩ := back_fields h more s hsq
  have hq := mayP_q h
  obtain ⟨-, -, -, -, -, ⟨r0, r1⟩, o4, o40, hm, hz, hz2⟩ := hq
  obtain ⟨g1, g2, g3⟩ := back_flags s fr mo dn r0 r1 bfl
  have hf := flagsV_bd fr mo dn r0 r1
  have hsz : (sealS (headP f t tl pr id fr mo dn op da) 10).size = 20 + op.size := by rw [sealS_size _ _ (by decide) (by rw [headP_size]; omega), headP_size]
  have hS1 : s = sealS (headP f t tl pr id fr mo dn op da) 10 ++ da ++ more := by rw [hsq]; rfl
  have hop : dOp s = op := by
    unfold dOp
    rw [bH, hS1, seal_split, ByteArray.append_assoc]
    have hX := hsz
    rw [seal_split, ByteArray.size_append] at hX
    exact ext_mid _ _ _ _ _ (by omega) (by omega)
  have hda : dDa s = da := by
    unfold dDa
    rw [bH, bL, hS1]
    exact ext_mid _ _ _ _ _ (by omega) (by omega)
  have hw : sumS (headS' s) = 0 := by
    have : headS' s = sealS (headP f t tl pr id fr mo dn op da) 10 := by
      unfold headS'
      rw [bH, hS1, ByteArray.append_assoc]
      exact ext_pre _ _ _ (by omega)
    rw [this]
    exact sum_zero (sum_sealS _ _ (by decide) (by rw [headP_size]; omega) (by decide))
  refine ⟨⟨b20, ?_, by omega, by omega, bS, hw, ?_, ?_, ?_⟩, bf, bt, btl, bpr, bid, g1, g2, g3, hop, hda⟩
  · rw [b0, bne_eq_false_iff_eq]; omega
  · rw [b1]; rfl
  · rw [bne_eq_false_iff_eq, high_bit s b20, bfl]; omega
  · unfold mayD; rw [bf, bt, btl, bpr, bid, g1, g2, hop, hda]; exact h
theorem dec_back {f t tl pr id fr : Int} {mo dn : Bool} {op da : ByteArray} (h : mayP f t tl pr id fr mo op.size da.size = true) (more : ByteArray) (w : World) (hs : (encP f t tl pr id fr mo dn op da ++ more).size ≤ 1125899906842624) :
    Calls Tryz.prog 50 #[.string (encP f t tl pr id fr mo dn op da ++ more)] w fun e w' => e = .returned (.tuple #[.agg #[.int .i64 f, .int .i64 t, .int .i64 tl, .int .i64 pr, .int .i64 id, .int .i64 fr, .bool mo, .bool dn, .string op, .string da], .int .i64 0]) ∧ Below w.heap.size w w' := by
  obtain ⟨g, bf, bt, btl, bpr, bid, g1, g2, g3, hop, hda⟩ := back_good h more _ (rfl : encP f t tl pr id fr mo dn op da ++ more = encP f t tl pr id fr mo dn op da ++ more)
  have := dec_y g w hs
  rw [bf, bt, btl, bpr, bid, g1, g2, g3, hop, hda] at this
  exact this

theorem app_inj_toList (l : List UInt8) (a b c : Nat) (hab : a ≤ b) (hbc : b ≤ c) : (l.drop a).take (b - a) ++ (l.drop b).take (c - b) = (l.drop a).take (c - a) := by
  have := cut_join l a (b - a) (c - b)
  rw [show a + (b - a) = b by omega, show b - a + (c - b) = c - a by omega] at this
  exact this
theorem ext_join (s : ByteArray) (a b c : Nat) (hab : a ≤ b) (hbc : b ≤ c) : s.extract a b ++ s.extract b c = s.extract a c := by
  apply ba_toList
  rw [app_toList, ext_toList, ext_toList, ext_toList]
  exact app_inj_toList _ a b c hab hbc
end Go.Proofs.YthjbmloemmggaaaGreatDoor.Ip
