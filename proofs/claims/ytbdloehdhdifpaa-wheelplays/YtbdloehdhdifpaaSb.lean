/- The heap sort by the order of a wheel. -/
import Derived.Test.YtbdloehdhdifpaaSa
namespace Go.Proofs.Ytbdloehdhdifpaa
open Go.Shelf Go.RowKit Go.Maps Go.Lib Go.Sort Go.Proofs
set_option maxRecDepth 100000
set_option linter.unusedVariables false
set_option linter.unusedSimpArgs false

theorem sift_size (lt : Nm → Nm → Bool) (hi first : Nat) : ∀ (m root : Nat) (d : Array Nm), hi - root ≤ m → (siftDown lt hi first root d).size = d.size
  | 0, root, d, h => by rw [sd_stop (by omega)]
  | m + 1, root, d, h => by
    by_cases hg : 2 * root + 1 ≥ hi
    · rw [sd_stop hg]
    · obtain ⟨ch, hch⟩ : ∃ ch, ch = if (2 * root + 1 + 1 < hi && lt d[first + (2 * root + 1)]! d[first + (2 * root + 1) + 1]!) = true then 2 * root + 2 else 2 * root + 1 := ⟨_, rfl⟩
      have h2 : hi - ch ≤ m := by
        rw [hch]
        split <;> omega
      rw [sd_go hg hch]
      by_cases hl : lt d[first + root]! d[first + ch]! = true
      · rw [if_pos hl, sift_size lt hi first m _ _ h2, swp_size]
      · rw [if_neg hl]
set_option maxHeartbeats 4000000 in
theorem heap_any {w0 : World} {B M blk off : Nat} {now : Int} {L : List Tm} {d0 : Array Nm} (C : Sx w0 B M blk off now L d0) (cap : Nat) (d : Array Nm) (w : World) (S : SW eN w0 blk off d w) (n : Nat) (hs : Hid (d.size = n ∧ d0.size = n)) (a b : Nat) (hab : a < b) (hb : b ≤ n) (hz : n < 1000000) :
    Calls Try.prog 34 #[.slice (some ⟨blk, off, none⟩) n cap, .int .i64 (a : Int), .int .i64 (b : Int), .func (.func 28) #[.pointer (some ⟨B, 0, none⟩)] #[]] w fun e w' => e = .returned (.tuple #[]) ∧ SW eN w0 blk off (heapSort (ltN L) d a b) w' := by
  have mixed : Try.prog.follows .mixedOrders = true := by kernel_rfl
  have HC : Hid (Sx w0 B M blk off now L d0) := C
  have HS : Hid (SW eN w0 blk off d w) := S
  clear C S
  obtain ⟨h, hbh⟩ : ∃ h, h = b - a := ⟨_, rfl⟩
  have hbz : (b : Int) - (a : Int) = (h : Int) := by omega
  obtain ⟨q, hq⟩ : ∃ q, q = (h - 1) / 2 := ⟨_, rfl⟩
  have hq1 : ((h : Int) - 1).tdiv 2 = (q : Int) := by rw [Int.tdiv_eq_ediv_of_nonneg (by omega)]; omega
  have hq2 : ((h : Int) - 1) / 2 = (q : Int) := by omega
  have HH : Hid (h = b - a ∧ q = (h - 1) / 2) := ⟨hbh, hq⟩
  have hh1 : 1 ≤ h := by omega
  have hhn : a + h ≤ n := by omega
  have hqh : q < h := by omega
  have HO : Hid (heapPop (ltN L) a h (heapBuild (ltN L) h a (q + 1) d) = heapSort (ltN L) d a b) := by show _ = _; unfold heapSort; rw [← hbh, ← hq]
  clear hbh hq
  go_enter Try.func34, Try.ntmps34
  go_wp2
  go_loopw [11] (fun v wr => ∃ (k : Nat) (dk : Array Nm), v = .int .i64 ((k : Int) - 1) ∧ k ≤ q + 1 ∧ dk.size = n ∧ Hid (SW eN w0 blk off dk wr) ∧ Hid (heapBuild (ltN L) h a k dk = heapBuild (ltN L) h a (q + 1) d)) (fun v _ => (intOf v + 1).toNat)
  case atStart => exact ⟨q + 1, d, by first | rfl | simp | (congr 1; omega), Nat.le_refl _, hs.out.1, HS, rfl⟩
  case round =>
    clear HS
    obtain ⟨k, dk, rfl, hk, hsk, SQ, HB⟩ := hrel
    cases k with
    | zero =>
      have e0 : (((0 : Nat) : Int) - 1) = -1 := by omega
      rw [e0]
      have HO2 : Hid (heapPop (ltN L) a h dk = heapSort (ltN L) d a b) := by
        show _ = _
        rw [← HO.out, ← HB.out]
        rfl
      clear HB HO
      go_wp2
      go_loopw [12] (fun v wr => ∃ (k : Nat) (dj : Array Nm), v = .int .i64 ((k : Int) - 1) ∧ k ≤ h ∧ dj.size = n ∧ Hid (SW eN w0 blk off dj wr) ∧ Hid (heapPop (ltN L) a k dj = heapSort (ltN L) d a b)) (fun v _ => (intOf v + 1).toNat)
      case atStart => exact ⟨h, dk, by first | rfl | simp | (congr 1; omega), Nat.le_refl _, hsk, SQ, HO2⟩
      case round =>
        clear SQ HO2
        obtain ⟨k, dj, rfl, hk, hsj, SJ, HP⟩ := hrel
        cases k with
        | zero =>
          have e0 : (((0 : Nat) : Int) - 1) = -1 := by omega
          rw [e0]
          go_wp2
          go_end0
          exact ⟨rfl, by rw [← HP.out]; exact SJ.out⟩
        | succ j =>
          have e0 : (((j + 1 : Nat) : Int) - 1) = (j : Int) := by omega
          rw [e0]
          have hj0 : (0 : Int) ≤ (j : Int) := by omega
          clear e0
          go_wp2_with fail
          obtain ⟨x, y, u, c1, c2, f1, f2, c3, S3'⟩ := HC.out.swap SJ.out (by have := hs.out.2; omega) (a) (a + j) (by omega) (by omega)
          obtain ⟨k1, hk1⟩ : ∃ q, q = a := ⟨_, rfl⟩
          obtain ⟨k2, hk2⟩ : ∃ q, q = a + j := ⟨_, rfl⟩
          have ST : Hid (SW eN w0 blk off (swp (dj) (a) (a + j)) ((wr.setCell ⟨blk, off + k1, none⟩ (.int .i64 y)).setCell ⟨blk, off + k2, none⟩ (.int .i64 x)).drew) := by rw [hk1, hk2]; exact S3'
          have c4 : (wr.setCell ⟨blk, off + k1, none⟩ (.int .i64 y)).cell? ⟨blk, off + k2, none⟩ = some (.int .i64 u) := by rw [hk1, hk2]; exact c3
          rw [← hk1] at c1 f1
          rw [← hk2] at c2 f2
          clear S3' SJ c3
          have ea1 : ((a : Int)).toNat = k1 := by omega
          have pa1 : (0 : Int) ≤ (a : Int) := by omega
          have ba1 : (a : Int) < (n : Int) := by omega
          have ra1 : IntKind.i64.wrap ((a : Int)) = (a : Int) := by rw [IntKind.wrap_i64]; omega
          have ea2 : ((a : Int) + (j : Int)).toNat = k2 := by omega
          have pa2 : (0 : Int) ≤ (a : Int) + (j : Int) := by omega
          have ba2 : (a : Int) + (j : Int) < (n : Int) := by omega
          have ra2 : IntKind.i64.wrap ((a : Int) + (j : Int)) = (a : Int) + (j : Int) := by rw [IntKind.wrap_i64]; omega
          clear hk1 hk2
          go_wp2_with fail
          go_big_region_o
          clear c1 c2 c4 f1 f2 ea1 ea2 pa1 pa2 ba1 ba2 ra1 ra2
          generalize ((wr.setCell ⟨blk, off + k1, none⟩ (.int .i64 y)).setCell ⟨blk, off + k2, none⟩ (.int .i64 x)).drew = w3 at ST ⊢
          have hsw : (swp dj a (a + j)).size = n := by rw [swp_size]; exact hsj
          go_wp2_with fail
          refine (sift_any HC.out cap (swp dj a (a + j)) w3 ST.out n (show Hid _ from ⟨hsw, hs.out.2⟩) 0 j a (by omega) (by omega) hz).mono ?_
          rintro e w4 ⟨rfl, S4⟩
          have hs4 : (siftDown (ltN L) j a 0 (swp dj a (a + j))).size = n := by rw [sift_size _ _ _ _ _ _ (Nat.le_refl _)]; exact hsw
          go_wp2
          go_roundw
          case rel => exact ⟨j, _, by first | rfl | simp, by omega, hs4, S4, (show Hid _ from by rw [← HP.out]; exact rfl)⟩
          case measure => (simp [intOf]; try omega)
    | succ j =>
      have e0 : (((j + 1 : Nat) : Int) - 1) = (j : Int) := by omega
      rw [e0]
      have hj0 : (0 : Int) ≤ (j : Int) := by omega
      clear e0
      go_wp2_with fail
      refine (sift_any HC.out cap dk wr SQ.out n (show Hid _ from ⟨hsk, hs.out.2⟩) j h a (by omega) (by omega) hz).mono ?_
      rintro e w4 ⟨rfl, S4⟩
      have hs4 : (siftDown (ltN L) h a j dk).size = n := by rw [sift_size _ _ _ _ _ _ (Nat.le_refl _)]; exact hsk
      go_wp2
      go_roundw
      case rel => exact ⟨j, _, by first | rfl | simp, by omega, hs4, S4, (show Hid _ from by rw [← HB.out]; exact rfl)⟩
      case measure => (simp [intOf]; try omega)
end Go.Proofs.Ytbdloehdhdifpaa
