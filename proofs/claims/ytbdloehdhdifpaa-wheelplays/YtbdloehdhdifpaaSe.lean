/- Breaking patterns, by the order of a wheel. -/
import Derived.Test.YtbdloehdhdifpaaWf
namespace Go.Proofs.Ytbdloehdhdifpaa
open Go.Shelf Go.RowKit Go.Maps Go.Lib Go.Sort Go.Proofs
set_option maxRecDepth 100000
set_option linter.unusedVariables false
set_option linter.unusedSimpArgs false

theorem pow_le (h : Nat) (h0 : 1 ≤ h) : 1 <<< bitsLen h ≤ 2 * h ∧ 1 ≤ 1 <<< bitsLen h := by
  unfold bitsLen
  rw [if_neg (by omega), Nat.one_shiftLeft, Nat.pow_succ]
  have := Nat.log2_self_le (n := h) (by omega)
  have := Nat.two_pow_pos (Nat.log2 h)
  omega
set_option maxHeartbeats 4000000 in
theorem break_any {w0 : World} {B M blk off : Nat} {now : Int} {L : List Tm} {d0 : Array Nm} (C : Sx w0 B M blk off now L d0) (cap : Nat) (d : Array Nm) (w : World) (S : SW eN w0 blk off d w) (n : Nat) (hs : Hid (d.size = n ∧ d0.size = n)) (a b : Nat) (hab : a + 8 ≤ b) (hb : b ≤ n) (hz : n < 1000000) :
    Calls Try.prog 35 #[.slice (some ⟨blk, off, none⟩) n cap, .int .i64 (a : Int), .int .i64 (b : Int), .func (.func 28) #[.pointer (some ⟨B, 0, none⟩)] #[]] w fun e w' => e = .returned (.tuple #[]) ∧ ∃ d', PermIn a b d d' ∧ SW eN w0 blk off d' w' := by
  have mixed : Try.prog.follows .mixedOrders = true := by kernel_rfl
  have HC : Hid (Sx w0 B M blk off now L d0) := C
  have hblk := C.row.hblk
  have hle := S.le
  clear C
  obtain ⟨h, hbh⟩ : ∃ h, h = b - a := ⟨_, rfl⟩
  have hbz : (b : Int) - (a : Int) = (h : Int) := by omega
  obtain ⟨q, hq⟩ : ∃ q, q = h / 4 := ⟨_, rfl⟩
  have hq1 : (h : Int).tdiv 4 = (q : Int) := by rw [Int.tdiv_eq_ediv_of_nonneg (by omega)]; omega
  have hq2 : (h : Int) / 4 = (q : Int) := by omega
  have hh1 : 8 ≤ h := by omega
  have hhz : (8 : Int) ≤ (h : Int) := by omega
  have hhn : a + h ≤ n := by omega
  have HHB : Hid (a + h = b) := (show a + h = b by omega)
  have g0 : 4 * q ≤ h := by omega
  have g1 : h < 4 * q + 4 := by omega
  clear hbh hq
  have hpow := AnyF.nextPowerOfTwo (P := Try.prog) (ρ := sortRen) { sortLay with } h (by omega)
  obtain ⟨hp1, hp2⟩ := pow_le h (by omega)
  have hpow' : ∀ W, Calls Try.prog 45 #[.int .i64 (h : Int)] W fun e w' => e = .returned (.int .u64 ((1 <<< bitsLen h : Nat) : Int)) ∧ w' = W := hpow
  clear hpow
  generalize 1 <<< bitsLen h = mm at *
  have hwu : IntKind.u64.wrap (h : Int) = (h : Int) := by simp [IntKind.wrap, IntKind.bits, IntKind.signed]; omega
  have hwm : IntKind.u64.wrap ((mm : Int) - 1) = (mm : Int) - 1 := by simp [IntKind.wrap, IntKind.bits, IntKind.signed]; omega
  have S0 : Hid (SW eN w0 blk off d (w.alloc (.cells #[.int .u64 (h : Int)] 75))) := S.alloc _
  have cb0 := At.box w #[.int .u64 (h : Int)] 75
  clear S
  go_enter Try.func35, Try.ntmps35
  go_upto_region 3 with fail
  generalize w.alloc (.cells #[.int .u64 (h : Int)] 75) = w1 at *
  obtain ⟨rb, hrb⟩ : ∃ c, c = w.heap.size := ⟨_, rfl⟩
  rw [← hrb] at cb0 ⊢
  have hrw : w0.heap.size ≤ rb := by omega
  have hne : rb ≠ blk := by omega
  clear hrb
  go_wp2_with fail
  refine (hpow' w1).mono ?_
  rintro e w2 ⟨rfl, rfl⟩
  obtain ⟨ix, hix⟩ : ∃ x, x = a + q * 2 - 1 := ⟨_, rfl⟩
  have hix1 : (a : Int) + (q : Int) * 2 - 1 = (ix : Int) := by omega
  have hix2 : (a : Int) + (q : Int) * 2 + 1 = (ix : Int) + 2 := by omega
  have hix3 : a ≤ ix ∧ ix + 3 ≤ a + h := by omega
  clear hix
  go_wp2
  go_loopw [11] (fun v wr => ∃ (t X : Nat) (dk : Array Nm), v = .int .i64 ((ix + t : Nat) : Int) ∧ t ≤ 3 ∧ dk.size = n ∧ X < 18446744073709551616 ∧ Hid (SW eN w0 blk off dk wr) ∧ At wr rb #[.int .u64 (X : Int)] ∧ Hid (PermIn a b d dk)) (fun v _ => (ix + 3) - (intOf v).toNat)
  case atStart => exact ⟨0, h, d, by first | rfl | simp | (congr 1; omega), by omega, hs.out.1, by omega, S0, cb0, permIn_refl _ _ _⟩
  case round =>
    clear S0 cb0
    obtain ⟨t, X, dk, rfl, ht, hsk, hX, SQ, hAt, HP⟩ := hrel
    have eI : ((ix + t : Nat) : Int) = (ix : Int) + (t : Int) := by omega
    have cR : wr.cell? ⟨rb, 0, none⟩ = some (.int .u64 (X : Int)) := (hAt.2 0 _ rfl).1
    have fR : wr.frozen? ⟨rb, 0, none⟩ = false := (hAt.2 0 _ rfl).2
    by_cases ht3 : t < 3
    · have htz : (ix : Int) + (t : Int) ≤ (ix : Int) + 2 := by omega
      have hNext : Calls Try.prog 46 #[.pointer (some ⟨rb, 0, none⟩)] wr fun e w' => e = .returned (.int .u64 (xorNextN X : Nat)) ∧ w' = (wr.setCell ⟨rb, 0, none⟩ (.int .u64 (xorNextN X : Nat))).drewN 3 := AnyF.xorshift_Next (P := Try.prog) (ρ := sortRen) { sortLay with } rb 0 X hX wr cR fR
      have lR := xorNextN_lt X hX
      generalize xorNextN X = R at *
      obtain ⟨O, hO⟩ : ∃ O : Nat, O = R &&& (mm - 1) := ⟨_, rfl⟩
      have lO : O ≤ mm - 1 := by rw [hO]; exact Nat.and_le_right
      have eAnd : bits .and .u64 (R : Int) ((mm : Int) - 1) = (O : Int) := by rw [show ((mm : Int) - 1) = ((mm - 1 : Nat) : Int) by omega, bits_and_u64_nat _ _ lR (by omega), hO]
      clear hO
      have S2 : Hid (SW eN w0 blk off dk ((wr.setCell ⟨rb, 0, none⟩ (.int .u64 (R : Int))).drewN 3)) := (SQ.out.setCell_new rb 0 (.int .u64 (R : Int)) hrw).drewN 3
      have hA2 : At ((wr.setCell ⟨rb, 0, none⟩ (.int .u64 (R : Int))).drewN 3) rb #[.int .u64 (R : Int)] := (hAt.set 0 (.int .u64 (R : Int))).drewN 3
      generalize (wr.setCell ⟨rb, 0, none⟩ (.int .u64 (R : Int))).drewN 3 = w4 at *
      clear cR fR SQ hAt
      by_cases hLO : h ≤ O
      · have hLOz : (h : Int) ≤ (O : Int) := by omega
        go_wp2_with (go_at_call 46; refine hNext.mono ?_; rintro e w' ⟨rfl, hw'⟩; obtain rfl : w4 = w' := hw'.symm)
        obtain ⟨x, y, u, c1, c2, f1, f2, c3, S3'⟩ := HC.out.swap S2.out (by have := hs.out.2; omega) (ix + t) (a + (O - h)) (by omega) (by omega)
        obtain ⟨k1, hk1⟩ : ∃ q, q = ix + t := ⟨_, rfl⟩
        obtain ⟨k2, hk2⟩ : ∃ q, q = a + (O - h) := ⟨_, rfl⟩
        have ST : Hid (SW eN w0 blk off (swp (dk) (ix + t) (a + (O - h))) ((w4.setCell ⟨blk, off + k1, none⟩ (.int .i64 y)).setCell ⟨blk, off + k2, none⟩ (.int .i64 x)).drew) := by rw [hk1, hk2]; exact S3'
        have c4 : (w4.setCell ⟨blk, off + k1, none⟩ (.int .i64 y)).cell? ⟨blk, off + k2, none⟩ = some (.int .i64 u) := by rw [hk1, hk2]; exact c3
        rw [← hk1] at c1 f1
        rw [← hk2] at c2 f2
        clear S3' S2 c3
        have ea1 : ((ix : Int) + (t : Int)).toNat = k1 := by omega
        have pa1 : (0 : Int) ≤ (ix : Int) + (t : Int) := by omega
        have ba1 : (ix : Int) + (t : Int) < (n : Int) := by omega
        have ra1 : IntKind.i64.wrap ((ix : Int) + (t : Int)) = (ix : Int) + (t : Int) := by rw [IntKind.wrap_i64]; omega
        have ea2 : ((a : Int) + ((O : Int) - (h : Int))).toNat = k2 := by omega
        have pa2 : (0 : Int) ≤ (a : Int) + ((O : Int) - (h : Int)) := by omega
        have ba2 : (a : Int) + ((O : Int) - (h : Int)) < (n : Int) := by omega
        have ra2 : IntKind.i64.wrap ((a : Int) + ((O : Int) - (h : Int))) = (a : Int) + ((O : Int) - (h : Int)) := by rw [IntKind.wrap_i64]; omega
        have HAT : Hid (At ((w4.setCell ⟨blk, off + k1, none⟩ (.int .i64 y)).setCell ⟨blk, off + k2, none⟩ (.int .i64 x)).drew rb #[.int .u64 (R : Int)]) := ((hA2.turn (turn_set w4 blk (off + k1) (.int .i64 y)) hne).turn (turn_set _ blk (off + k2) (.int .i64 x)) hne).drewN 1
        clear hk1 hk2
        go_wp2_with fail
        go_big_region_o
        clear c1 c2 c4 f1 f2 ea1 ea2 pa1 pa2 ba1 ba2 ra1 ra2
        generalize ((w4.setCell ⟨blk, off + k1, none⟩ (.int .i64 y)).setCell ⟨blk, off + k2, none⟩ (.int .i64 x)).drew = w5 at ST HAT ⊢
        have hA3 : At w5 rb #[.int .u64 (R : Int)] := HAT.out
        have HP2 : Hid (PermIn a b d (swp dk (ix + t) (a + (O - h)))) := permIn_trans _ _ _ _ _ HP.out (swp_permIn dk a b (ix + t) (a + (O - h)) (by omega) (by have := HHB.out; omega) (by omega) (by have := HHB.out; omega) (by omega))
        go_wp2
        go_roundw
        case rel => exact ⟨t + 1, R, swp dk (ix + t) (a + (O - h)), by first | rfl | simp | (congr 1; omega), by omega, by rw [swp_size]; exact hsk, lR, ST, hA3, HP2⟩
        case measure => (simp [intOf]; try omega)
      · have hLOz : ¬ (h : Int) ≤ (O : Int) := by omega
        go_wp2_with (go_at_call 46; refine hNext.mono ?_; rintro e w' ⟨rfl, hw'⟩; obtain rfl : w4 = w' := hw'.symm)
        obtain ⟨x, y, u, c1, c2, f1, f2, c3, S3'⟩ := HC.out.swap S2.out (by have := hs.out.2; omega) (ix + t) (a + O) (by omega) (by omega)
        obtain ⟨k1, hk1⟩ : ∃ q, q = ix + t := ⟨_, rfl⟩
        obtain ⟨k2, hk2⟩ : ∃ q, q = a + O := ⟨_, rfl⟩
        have ST : Hid (SW eN w0 blk off (swp (dk) (ix + t) (a + O)) ((w4.setCell ⟨blk, off + k1, none⟩ (.int .i64 y)).setCell ⟨blk, off + k2, none⟩ (.int .i64 x)).drew) := by rw [hk1, hk2]; exact S3'
        have c4 : (w4.setCell ⟨blk, off + k1, none⟩ (.int .i64 y)).cell? ⟨blk, off + k2, none⟩ = some (.int .i64 u) := by rw [hk1, hk2]; exact c3
        rw [← hk1] at c1 f1
        rw [← hk2] at c2 f2
        clear S3' S2 c3
        have ea1 : ((ix : Int) + (t : Int)).toNat = k1 := by omega
        have pa1 : (0 : Int) ≤ (ix : Int) + (t : Int) := by omega
        have ba1 : (ix : Int) + (t : Int) < (n : Int) := by omega
        have ra1 : IntKind.i64.wrap ((ix : Int) + (t : Int)) = (ix : Int) + (t : Int) := by rw [IntKind.wrap_i64]; omega
        have ea2 : ((a : Int) + (O : Int)).toNat = k2 := by omega
        have pa2 : (0 : Int) ≤ (a : Int) + (O : Int) := by omega
        have ba2 : (a : Int) + (O : Int) < (n : Int) := by omega
        have ra2 : IntKind.i64.wrap ((a : Int) + (O : Int)) = (a : Int) + (O : Int) := by rw [IntKind.wrap_i64]; omega
        have HAT : Hid (At ((w4.setCell ⟨blk, off + k1, none⟩ (.int .i64 y)).setCell ⟨blk, off + k2, none⟩ (.int .i64 x)).drew rb #[.int .u64 (R : Int)]) := ((hA2.turn (turn_set w4 blk (off + k1) (.int .i64 y)) hne).turn (turn_set _ blk (off + k2) (.int .i64 x)) hne).drewN 1
        clear hk1 hk2
        go_wp2_with fail
        go_big_region_o
        clear c1 c2 c4 f1 f2 ea1 ea2 pa1 pa2 ba1 ba2 ra1 ra2
        generalize ((w4.setCell ⟨blk, off + k1, none⟩ (.int .i64 y)).setCell ⟨blk, off + k2, none⟩ (.int .i64 x)).drew = w5 at ST HAT ⊢
        have hA3 : At w5 rb #[.int .u64 (R : Int)] := HAT.out
        have HP2 : Hid (PermIn a b d (swp dk (ix + t) (a + O))) := permIn_trans _ _ _ _ _ HP.out (swp_permIn dk a b (ix + t) (a + O) (by omega) (by have := HHB.out; omega) (by omega) (by have := HHB.out; omega) (by omega))
        go_wp2
        go_roundw
        case rel => exact ⟨t + 1, R, swp dk (ix + t) (a + O), by first | rfl | simp | (congr 1; omega), by omega, by rw [swp_size]; exact hsk, lR, ST, hA3, HP2⟩
        case measure => (simp [intOf]; try omega)
    · have htz : ¬ (ix : Int) + (t : Int) ≤ (ix : Int) + 2 := by omega
      go_wp2
      go_end0
      exact ⟨rfl, dk, HP.out, SQ.out⟩
end Go.Proofs.Ytbdloehdhdifpaa
