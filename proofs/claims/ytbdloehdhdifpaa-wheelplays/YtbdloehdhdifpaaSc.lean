/- Turning a part round; choosing a pivot, by the order of a wheel. -/
import Derived.Test.YtbdloehdhdifpaaWf
namespace Go.Proofs.Ytbdloehdhdifpaa
open Go.Shelf Go.RowKit Go.Maps Go.Lib Go.Sort Go.Proofs
set_option maxRecDepth 100000
set_option linter.unusedVariables false
set_option linter.unusedSimpArgs false

theorem rv_no {i j : Nat} {d : Array Nm} (h : ¬ i < j) : reverseLoop i j d = d := by unfold reverseLoop; rw [if_neg h]
theorem rv_yes {i j : Nat} {d : Array Nm} (h : i < j) : reverseLoop i j d = reverseLoop (i + 1) (j - 1) (swp d i j) := by conv => lhs; unfold reverseLoop
                                                                                                                          rw [if_pos h]
set_option maxHeartbeats 4000000 in
theorem rev_any {w0 : World} {B M blk off : Nat} {now : Int} {L : List Tm} {d0 : Array Nm} (C : Sx w0 B M blk off now L d0) (cap : Nat) (d : Array Nm) (w : World) (S : SW eN w0 blk off d w) (n : Nat) (hs : Hid (d.size = n ∧ d0.size = n)) (a b : Nat) (hab : a < b) (hb : b ≤ n) (hz : n < 1000000) :
    Calls Try.prog 37 #[.slice (some ⟨blk, off, none⟩) n cap, .int .i64 (a : Int), .int .i64 (b : Int), .func (.func 28) #[.pointer (some ⟨B, 0, none⟩)] #[]] w fun e w' => e = .returned (.tuple #[]) ∧ SW eN w0 blk off (reverseRange d a b) w' := by
  have mixed : Try.prog.follows .mixedOrders = true := by kernel_rfl
  have HC : Hid (Sx w0 B M blk off now L d0) := C
  have HS : Hid (SW eN w0 blk off d w) := S
  clear C S
  obtain ⟨b1, rfl⟩ : ∃ q, b = q + 1 := ⟨b - 1, by omega⟩
  go_enter Try.func37, Try.ntmps37
  go_wp2
  go_loopw [8, 9] (fun vi vj wr => ∃ (i j : Nat) (dk : Array Nm), vi = .int .i64 (i : Int) ∧ vj = .int .i64 (j : Int) ∧ i ≤ n ∧ j ≤ b1 ∧ dk.size = n ∧ Hid (SW eN w0 blk off dk wr) ∧ Hid (reverseLoop i j dk = reverseRange d a (b1 + 1))) (fun _ vj _ => (intOf vj).toNat)
  case atStart => exact ⟨a, b1, d, rfl, by first | rfl | simp | (congr 1; omega), by omega, Nat.le_refl _, hs.out.1, HS, rfl⟩
  case round =>
    clear HS
    obtain ⟨i, j, dk, rfl, rfl, hin, hj, hsk, SQ, HR⟩ := hrel
    by_cases hij : i < j
    · have hijz : (i : Int) < (j : Int) := by omega
      obtain ⟨jp, rfl⟩ : ∃ q, j = q + 1 := ⟨j - 1, by omega⟩
      have eJ : ((jp + 1 : Nat) : Int) = (jp : Int) + 1 := by omega
      go_wp2_with fail
      obtain ⟨x, y, u, c1, c2, f1, f2, c3, S3'⟩ := HC.out.swap SQ.out (by have := hs.out.2; omega) (i) (jp + 1) (by omega) (by omega)
      obtain ⟨k1, hk1⟩ : ∃ q, q = i := ⟨_, rfl⟩
      obtain ⟨k2, hk2⟩ : ∃ q, q = jp + 1 := ⟨_, rfl⟩
      have ST : Hid (SW eN w0 blk off (swp (dk) (i) (jp + 1)) ((wr.setCell ⟨blk, off + k1, none⟩ (.int .i64 y)).setCell ⟨blk, off + k2, none⟩ (.int .i64 x)).drew) := by rw [hk1, hk2]; exact S3'
      have c4 : (wr.setCell ⟨blk, off + k1, none⟩ (.int .i64 y)).cell? ⟨blk, off + k2, none⟩ = some (.int .i64 u) := by rw [hk1, hk2]; exact c3
      rw [← hk1] at c1 f1
      rw [← hk2] at c2 f2
      clear S3' SQ c3
      have ea1 : ((i : Int)).toNat = k1 := by omega
      have pa1 : (0 : Int) ≤ (i : Int) := by omega
      have ba1 : (i : Int) < (n : Int) := by omega
      have ra1 : IntKind.i64.wrap ((i : Int)) = (i : Int) := by rw [IntKind.wrap_i64]; omega
      have ea2 : ((jp : Int) + 1).toNat = k2 := by omega
      have pa2 : (0 : Int) ≤ (jp : Int) + 1 := by omega
      have ba2 : (jp : Int) + 1 < (n : Int) := by omega
      have ra2 : IntKind.i64.wrap ((jp : Int) + 1) = (jp : Int) + 1 := by rw [IntKind.wrap_i64]; omega
      clear hk1 hk2
      go_wp2_with fail
      go_big_region_o
      clear c1 c2 c4 f1 f2 ea1 ea2 pa1 pa2 ba1 ba2 ra1 ra2
      generalize ((wr.setCell ⟨blk, off + k1, none⟩ (.int .i64 y)).setCell ⟨blk, off + k2, none⟩ (.int .i64 x)).drew = w3 at ST ⊢
      go_wp2
      go_roundw
      case rel => exact ⟨i + 1, jp, swp dk i (jp + 1), by first | rfl | simp, by first | rfl | simp, by omega, by omega, by rw [swp_size]; exact hsk, ST, (show Hid _ from by rw [← HR.out, rv_yes hij]; exact rfl)⟩
      case measure => (simp [intOf]; try omega)
    · have hijz : ¬ (i : Int) < (j : Int) := by omega
      go_wp2
      go_end0
      exact ⟨rfl, by rw [← HR.out, rv_no hij]; exact SQ.out⟩
set_option maxHeartbeats 4000000 in
theorem order2_any {w0 : World} {B M blk off : Nat} {now : Int} {L : List Tm} {d0 : Array Nm} (C : Sx w0 B M blk off now L d0) (cap : Nat) (d : Array Nm) (c s : Nat) (w : World) (S : Cnt1 eN w0 blk off d c s w) (n : Nat) (hs : Hid (d.size = n ∧ d0.size = n)) (i j : Nat) (hi : i < n) (hj : j < n) (hz : n < 1000000) (hc0 : s < 1000) :
    Calls Try.prog 49 #[.slice (some ⟨blk, off, none⟩) n cap, .int .i64 (i : Int), .int .i64 (j : Int), .pointer (some ⟨c, 0, none⟩), .func (.func 28) #[.pointer (some ⟨B, 0, none⟩)] #[]] w fun e w' => ∃ i' j' s' : Nat, e = .returned (.tuple #[.int .i64 (i' : Int), .int .i64 (j' : Int)]) ∧ (i' = i ∧ j' = j ∨ i' = j ∧ j' = i) ∧ s' ≤ s + 1 ∧ Cnt1 eN w0 blk off d c s' w' := by
  have mixed : Try.prog.follows .mixedOrders = true := by kernel_rfl
  have HC : Hid (Sx w0 B M blk off now L d0) := C
  have HN : Hid (Cnt1 eN w0 blk off d c s w) := S
  have SQ : Hid (SW eN w0 blk off d w) := S.1
  have hsd := hs.out.1
  have HSD : Hid (d.size = n) := hsd
  clear C S
  obtain ⟨x, y, r, cx, cy, hc, hd⟩ := HC.out.test SQ.out (by have := hs.out.2; omega) (j) (i) (by omega) (by omega)
  obtain ⟨k1, hk1⟩ : ∃ q, q = j := ⟨_, rfl⟩
  obtain ⟨k2, hk2⟩ : ∃ q, q = i := ⟨_, rfl⟩
  rw [← hk1] at cx
  rw [← hk2] at cy
  have ea1 : ((j : Int)).toNat = k1 := by omega
  have pa1 : (0 : Int) ≤ (j : Int) := by omega
  have ba1 : (j : Int) < (n : Int) := by omega
  have ra1 : IntKind.i64.wrap ((j : Int)) = (j : Int) := by rw [IntKind.wrap_i64]; omega
  have ea2 : ((i : Int)).toNat = k2 := by omega
  have pa2 : (0 : Int) ≤ (i : Int) := by omega
  have ba2 : (i : Int) < (n : Int) := by omega
  have ra2 : IntKind.i64.wrap ((i : Int)) = (i : Int) := by rw [IntKind.wrap_i64]; omega
  clear hsd
  cases hlv : ltN L d[j]! d[i]! with
  | true =>
    go_enter Try.func49, Try.ntmps49
    rw [hlv] at hd
    have hr0 : r < 0 := of_decide_eq_true hd
    clear hk1 hk2
    go_wp2_with fail
    go_quiet_grown ((go_at_call 28; refine Calls.grown_of (hc _ _)))
    have H2 : Hid (Cnt1 eN w0 blk off d c s (grow (w.drewN nq) osq)) := HN.out.grown nq osq
    clear cx cy hc SQ HN
    generalize grow (w.drewN nq) osq = w2 at H2 ⊢
    have c2 : w2.cell? ⟨c, 0, none⟩ = some (.int .i64 (s : Int)) := H2.out.2.1
    have f2 : w2.frozen? ⟨c, 0, none⟩ = false := H2.out.2.2.1
    have H3 : Hid (Cnt1 eN w0 blk off d c (s + 1) (w2.setCell ⟨c, 0, none⟩ (.int .i64 ((s : Int) + 1)))) := H2.out.bump (s + 1)
    have hs0 : (0 : Int) ≤ (s : Int) := by omega
    have hs1 : (s : Int) < 1000 := by omega
    go_wp2
    go_ret2
    exact ⟨j, i, s + 1, rfl, Or.inr ⟨rfl, rfl⟩, Nat.le_refl _, H3.out⟩
  | false =>
    go_enter Try.func49, Try.ntmps49
    rw [hlv] at hd
    have hr0 : ¬ r < 0 := of_decide_eq_false hd
    clear hk1 hk2
    go_wp2_with fail
    go_quiet_grown ((go_at_call 28; refine Calls.grown_of (hc _ _)))
    have H2 : Hid (Cnt1 eN w0 blk off d c s (grow (w.drewN nq) osq)) := HN.out.grown nq osq
    clear cx cy hc SQ HN
    generalize grow (w.drewN nq) osq = w2 at H2 ⊢
    go_wp2
    go_ret2
    exact ⟨i, j, s, rfl, Or.inl ⟨rfl, rfl⟩, Nat.le_succ _, H2.out⟩
set_option maxHeartbeats 4000000 in
theorem median_any {w0 : World} {B M blk off : Nat} {now : Int} {L : List Tm} {d0 : Array Nm} (C : Sx w0 B M blk off now L d0) (cap : Nat) (d : Array Nm) (c s : Nat) (w : World) (S : Cnt1 eN w0 blk off d c s w) (n : Nat) (hs : Hid (d.size = n ∧ d0.size = n)) (i j k : Nat) (hi : i < n) (hj : j < n) (hk : k < n) (hz : n < 1000000) (hc0 : s < 900) :
    Calls Try.prog 48 #[.slice (some ⟨blk, off, none⟩) n cap, .int .i64 (i : Int), .int .i64 (j : Int), .int .i64 (k : Int), .pointer (some ⟨c, 0, none⟩), .func (.func 28) #[.pointer (some ⟨B, 0, none⟩)] #[]] w fun e w' => ∃ m s' : Nat, e = .returned (.int .i64 (m : Int)) ∧ (m = i ∨ m = j ∨ m = k) ∧ s' ≤ s + 3 ∧ Cnt1 eN w0 blk off d c s' w' := by
  go_enter Try.func48, Try.ntmps48
  go_wp2_with fail
  refine (order2_any C cap d c s w S n hs i j hi hj hz (by omega)).mono ?_
  rintro e w1 ⟨i1, j1, s1, rfl, h1, g1, S1⟩
  go_wp2_with fail
  refine (order2_any C cap d c s1 w1 S1 n hs j1 k (by omega) hk hz (by omega)).mono ?_
  rintro e w2 ⟨j2, k2, s2, rfl, h2, g2, S2⟩
  go_wp2_with fail
  refine (order2_any C cap d c s2 w2 S2 n hs i1 j2 (by omega) (by omega) hz (by omega)).mono ?_
  rintro e w3 ⟨i3, j3, s3, rfl, h3, g3, S3⟩
  go_wp2
  go_ret
  exact ⟨j3, s3, rfl, by omega, by omega, S3⟩
set_option maxHeartbeats 4000000 in
theorem medadj_any {w0 : World} {B M blk off : Nat} {now : Int} {L : List Tm} {d0 : Array Nm} (C : Sx w0 B M blk off now L d0) (cap : Nat) (d : Array Nm) (c s : Nat) (w : World) (S : Cnt1 eN w0 blk off d c s w) (n : Nat) (hs : Hid (d.size = n ∧ d0.size = n)) (i : Nat) (hi : i + 2 < n) (hz : n < 1000000) (hc0 : s < 900) :
    Calls Try.prog 47 #[.slice (some ⟨blk, off, none⟩) n cap, .int .i64 ((i + 1 : Nat) : Int), .pointer (some ⟨c, 0, none⟩), .func (.func 28) #[.pointer (some ⟨B, 0, none⟩)] #[]] w fun e w' => ∃ m s' : Nat, e = .returned (.int .i64 (m : Int)) ∧ i ≤ m ∧ m ≤ i + 2 ∧ s' ≤ s + 3 ∧ Cnt1 eN w0 blk off d c s' w' := by
  have e0 : ((i + 1 : Nat) : Int) = (i : Int) + 1 := by omega
  have hm := fun (x y z : Int) (hx : x = ((i : Nat) : Int)) (hy : y = ((i + 1 : Nat) : Int)) (hz' : z = ((i + 2 : Nat) : Int)) => (show Calls Try.prog 48 #[.slice (some ⟨blk, off, none⟩) n cap, .int .i64 x, .int .i64 y, .int .i64 z, .pointer (some ⟨c, 0, none⟩), .func (.func 28) #[.pointer (some ⟨B, 0, none⟩)] #[]] w fun e w' => ∃ m s' : Nat, e = .returned (.int .i64 (m : Int)) ∧ (m = i ∨ m = i + 1 ∨ m = i + 2) ∧ s' ≤ s + 3 ∧ Cnt1 eN w0 blk off d c s' w' from by subst hx hy hz'; exact median_any C cap d c s w S n hs i (i + 1) (i + 2) (by omega) (by omega) (by omega) hz hc0)
  go_enter Try.func47, Try.ntmps47
  go_wp2_with fail
  refine (hm _ _ _ (by omega) (by omega) (by omega)).mono ?_
  rintro e w1 ⟨m, s1, rfl, h1, g1, S1⟩
  go_wp2
  go_ret
  exact ⟨m, s1, rfl, by omega, by omega, g1, S1⟩
end Go.Proofs.Ytbdloehdhdifpaa
