/- Choosing a pivot, by the order of a wheel. -/
import Derived.Test.YtbdloehdhdifpaaSc
namespace Go.Proofs.Ytbdloehdhdifpaa
open Go.Shelf Go.RowKit Go.Maps Go.Lib Go.Sort Go.Proofs
set_option maxRecDepth 100000
set_option linter.unusedVariables false
set_option linter.unusedSimpArgs false

theorem median_at {w0 : World} {B M blk off : Nat} {now : Int} {L : List Tm} {d0 : Array Nm} (C : Sx w0 B M blk off now L d0) (cap : Nat) (d : Array Nm) (c s : Nat) (w : World) (S : Cnt1 eN w0 blk off d c s w) (n : Nat) (hs : Hid (d.size = n ∧ d0.size = n)) (i j k : Nat) (x y z : Int) (hx : x = (i : Int)) (hy : y = (j : Int)) (hw : z = (k : Int)) (hi : i < n) (hj : j < n) (hk : k < n) (hz : n < 1000000) (hc0 : s < 900) :
    Calls Try.prog 48 #[.slice (some ⟨blk, off, none⟩) n cap, .int .i64 x, .int .i64 y, .int .i64 z, .pointer (some ⟨c, 0, none⟩), .func (.func 28) #[.pointer (some ⟨B, 0, none⟩)] #[]] w fun e w' => ∃ m s' : Nat, e = .returned (.int .i64 (m : Int)) ∧ (m = i ∨ m = j ∨ m = k) ∧ s' ≤ s + 3 ∧ Cnt1 eN w0 blk off d c s' w' := by
  subst hx hy hw
  exact median_any C cap d c s w S n hs i j k hi hj hk hz hc0
theorem medadj_at {w0 : World} {B M blk off : Nat} {now : Int} {L : List Tm} {d0 : Array Nm} (C : Sx w0 B M blk off now L d0) (cap : Nat) (d : Array Nm) (c s : Nat) (w : World) (S : Cnt1 eN w0 blk off d c s w) (n : Nat) (hs : Hid (d.size = n ∧ d0.size = n)) (i : Nat) (x : Int) (hx : x = (i : Int) + 1) (hi : i + 2 < n) (hz : n < 1000000) (hc0 : s < 900) :
    Calls Try.prog 47 #[.slice (some ⟨blk, off, none⟩) n cap, .int .i64 x, .pointer (some ⟨c, 0, none⟩), .func (.func 28) #[.pointer (some ⟨B, 0, none⟩)] #[]] w fun e w' => ∃ m s' : Nat, e = .returned (.int .i64 (m : Int)) ∧ i ≤ m ∧ m ≤ i + 2 ∧ s' ≤ s + 3 ∧ Cnt1 eN w0 blk off d c s' w' := by
  have : x = ((i + 1 : Nat) : Int) := by omega
  subst this
  exact medadj_any C cap d c s w S n hs i hi hz hc0
set_option maxHeartbeats 4000000 in
theorem pivot_any {w0 : World} {B M blk off : Nat} {now : Int} {L : List Tm} {d0 : Array Nm} (C : Sx w0 B M blk off now L d0) (cap : Nat) (d : Array Nm) (w : World) (S : SW eN w0 blk off d w) (n : Nat) (hs : Hid (d.size = n ∧ d0.size = n)) (a b : Nat) (hab : a + 8 ≤ b) (hb : b ≤ n) (hz : n < 1000000) :
    Calls Try.prog 36 #[.slice (some ⟨blk, off, none⟩) n cap, .int .i64 (a : Int), .int .i64 (b : Int), .func (.func 28) #[.pointer (some ⟨B, 0, none⟩)] #[]] w fun e w' => ∃ (m : Nat) (h : Int), e = .returned (.tuple #[.int .i64 (m : Int), .int .i64 h]) ∧ a ≤ m ∧ m < b ∧ (h = 0 ∨ h = 1 ∨ h = 2) ∧ SW eN w0 blk off d w' := by
  obtain ⟨h, hbh⟩ : ∃ h, h = b - a := ⟨_, rfl⟩
  have hbz : (b : Int) - (a : Int) = (h : Int) := by omega
  obtain ⟨q, hq⟩ : ∃ q, q = h / 4 := ⟨_, rfl⟩
  have hq1 : (h : Int).tdiv 4 = (q : Int) := by rw [Int.tdiv_eq_ediv_of_nonneg (by omega)]; omega
  have hq2 : (h : Int) / 4 = (q : Int) := by omega
  have hh1 : 8 ≤ h := by omega
  have hhz : (8 : Int) ≤ (h : Int) := by omega
  have hhn : a + h ≤ n := by omega
  have hhb : a + h = b := by omega
  have HHB : Hid (a + h = b) := hhb
  have g0 : 4 * q ≤ h := by omega
  have g1 : h < 4 * q + 4 := by omega
  clear hbh hq hhb
  have S0 : Cnt1 eN w0 blk off d w.heap.size 0 (w.alloc (.cells #[.int .i64 0] 3)) := Cnt1.start S 3
  go_enter Try.func36, Try.ntmps36
  go_upto_region 3 with fail
  generalize w.alloc (.cells #[.int .i64 0] 3) = w1 at *
  obtain ⟨c, hc⟩ : ∃ c, c = w.heap.size := ⟨_, rfl⟩
  rw [← hc] at S0 ⊢
  clear hc S
  by_cases h50 : 50 ≤ h
  · have h50z : (50 : Int) ≤ (h : Int) := by omega
    go_wp2_with fail
    refine (medadj_at C cap d c 0 w1 S0 n hs (a + q - 1) _ (by omega) (by omega) hz (by omega)).mono ?_
    rintro e w2 ⟨m1, s1, rfl, p1, p2, g1', S1⟩
    go_wp2_with fail
    refine (medadj_at C cap d c s1 w2 S1 n hs (a + 2 * q - 1) _ (by omega) (by omega) hz (by omega)).mono ?_
    rintro e w3 ⟨m2, s2, rfl, p3, p4, g2', S2⟩
    go_wp2_with fail
    refine (medadj_at C cap d c s2 w3 S2 n hs (a + 3 * q - 1) _ (by omega) (by omega) hz (by omega)).mono ?_
    rintro e w4 ⟨m3, s3, rfl, p5, p6, g3', S3⟩
    go_wp2_with fail
    refine (median_at C cap d c s3 w4 S3 n hs m1 m2 m3 _ _ _ rfl rfl rfl (by omega) (by omega) (by omega) hz (by omega)).mono ?_
    rintro e w5 ⟨m4, s4, rfl, p7, g4', S4⟩
    have hr1 : a ≤ m4 ∧ m4 < b := by have := HHB.out; omega
    have c5 : w5.cell? ⟨c, 0, none⟩ = some (.int .i64 (s4 : Int)) := S4.2.1
    have S5 := S4.1
    by_cases hs0 : s4 = 0
    · subst hs0
      go_wp2
      go_ret2
      exact ⟨m4, 1, rfl, hr1.1, hr1.2, Or.inr (Or.inl rfl), S5⟩
    · by_cases hs12 : s4 = 12
      · subst hs12
        go_wp2
        go_ret2
        exact ⟨m4, 2, rfl, hr1.1, hr1.2, Or.inr (Or.inr rfl), S5⟩
      · have e1 : ((s4 : Int) == 0) = false := beq_eq_false_iff_ne.2 (by omega)
        have e2 : ((s4 : Int) == 12) = false := beq_eq_false_iff_ne.2 (by omega)
        obtain ⟨sv, hsv⟩ : ∃ x : Int, x = (s4 : Int) := ⟨_, rfl⟩
        rw [← hsv] at c5 e1 e2
        clear hsv
        go_wp2
        go_ret2
        exact ⟨m4, 0, rfl, hr1.1, hr1.2, Or.inl rfl, S5⟩
  · have h50z : ¬ (50 : Int) ≤ (h : Int) := by omega
    go_wp2_with fail
    refine (median_at C cap d c 0 w1 S0 n hs (a + q) (a + 2 * q) (a + 3 * q) _ _ _ (by omega) (by omega) (by omega) (by omega) (by omega) (by omega) hz (by omega)).mono ?_
    rintro e w5 ⟨m4, s4, rfl, p7, g4', S4⟩
    have hr1 : a ≤ m4 ∧ m4 < b := by have := HHB.out; omega
    have c5 : w5.cell? ⟨c, 0, none⟩ = some (.int .i64 (s4 : Int)) := S4.2.1
    have S5 := S4.1
    by_cases hs0 : s4 = 0
    · subst hs0
      go_wp2
      go_ret2
      exact ⟨m4, 1, rfl, hr1.1, hr1.2, Or.inr (Or.inl rfl), S5⟩
    · by_cases hs12 : s4 = 12
      · subst hs12
        go_wp2
        go_ret2
        exact ⟨m4, 2, rfl, hr1.1, hr1.2, Or.inr (Or.inr rfl), S5⟩
      · have e1 : ((s4 : Int) == 0) = false := beq_eq_false_iff_ne.2 (by omega)
        have e2 : ((s4 : Int) == 12) = false := beq_eq_false_iff_ne.2 (by omega)
        obtain ⟨sv, hsv⟩ : ∃ x : Int, x = (s4 : Int) := ⟨_, rfl⟩
        rw [← hsv] at c5 e1 e2
        clear hsv
        go_wp2
        go_ret2
        exact ⟨m4, 0, rfl, hr1.1, hr1.2, Or.inl rfl, S5⟩
end Go.Proofs.Ytbdloehdhdifpaa
