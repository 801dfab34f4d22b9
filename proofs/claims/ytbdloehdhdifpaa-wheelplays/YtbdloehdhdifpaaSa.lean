/- The heap sort by the order of a wheel. -/
import Derived.Test.YtbdloehdhdifpaaWf
namespace Go.Proofs.Ytbdloehdhdifpaa
open Go.Shelf Go.RowKit Go.Maps Go.Lib Go.Sort Go.Proofs
set_option maxRecDepth 100000
set_option linter.unusedVariables false
set_option linter.unusedSimpArgs false

theorem sd_stop {lt : Nm → Nm → Bool} {hi first root : Nat} {d : Array Nm} (h : 2 * root + 1 ≥ hi) : siftDown lt hi first root d = d := by
  unfold siftDown
  rw [dif_pos h]
theorem sd_go {lt : Nm → Nm → Bool} {hi first root ch : Nat} {d : Array Nm} (h : ¬ 2 * root + 1 ≥ hi) (hc : ch = if (2 * root + 1 + 1 < hi && lt d[first + (2 * root + 1)]! d[first + (2 * root + 1) + 1]!) = true then 2 * root + 2 else 2 * root + 1) :
    siftDown lt hi first root d = if lt d[first + root]! d[first + ch]! = true then siftDown lt hi first ch (swp d (first + root) (first + ch)) else d := by
  conv => lhs; unfold siftDown
  rw [dif_neg h]
  by_cases h1 : (decide (2 * root + 1 + 1 < hi) && lt d[first + (2 * root + 1)]! d[first + (2 * root + 1) + 1]!) = true
  · rw [if_pos h1] at hc ⊢
    subst hc
    rw [Bool.and_eq_true, decide_eq_true_eq] at h1
    rw [dif_pos (show 2 * root + 2 < hi by omega)]
    cases lt d[first + root]! d[first + (2 * root + 2)]! <;> simp
  · rw [if_neg h1] at hc ⊢
    subst hc
    cases lt d[first + root]! d[first + (2 * root + 1)]! <;> simp
set_option maxHeartbeats 4000000 in
theorem sift_any {w0 : World} {B M blk off : Nat} {now : Int} {L : List Tm} {d0 : Array Nm} (C : Sx w0 B M blk off now L d0) (cap : Nat) (d : Array Nm) (w : World) (S : SW eN w0 blk off d w) (n : Nat) (hs : Hid (d.size = n ∧ d0.size = n)) (lo hi first : Nat) (hl : lo ≤ n) (hh : first + hi ≤ n) (hz : n < 1000000) :
    Calls Try.prog 44 #[.slice (some ⟨blk, off, none⟩) n cap, .int .i64 (lo : Int), .int .i64 (hi : Int), .int .i64 (first : Int), .func (.func 28) #[.pointer (some ⟨B, 0, none⟩)] #[]] w fun e w' => e = .returned (.tuple #[]) ∧ SW eN w0 blk off (siftDown (ltN L) hi first lo d) w' := by
  have mixed : Try.prog.follows .mixedOrders = true := by kernel_rfl
  have HC : Hid (Sx w0 B M blk off now L d0) := C
  have HS : Hid (SW eN w0 blk off d w) := S
  clear C S
  go_enter Try.func44, Try.ntmps44
  go_wp2
  go_loopw [10] (fun v wr => ∃ (root : Nat) (dk : Array Nm), v = .int .i64 (root : Int) ∧ root ≤ n ∧ dk.size = n ∧ Hid (SW eN w0 blk off dk wr) ∧ Hid (siftDown (ltN L) hi first root dk = siftDown (ltN L) hi first lo d)) (fun v _ => hi - (intOf v).toNat)
  case atStart => exact ⟨lo, d, rfl, hl, hs.out.1, HS, rfl⟩
  case round =>
    clear HS
    obtain ⟨root, dk, rfl, hrn, hsk, SQ0, HR⟩ := hrel
    by_cases hge : 2 * root + 1 ≥ hi
    · have hgz : (hi : Int) ≤ 2 * (root : Int) + 1 := by omega
      go_wp2
      go_end0
      exact ⟨rfl, by rw [← HR.out, sd_stop hge]; exact SQ0.out⟩
    · have hgz : ¬ (hi : Int) ≤ 2 * (root : Int) + 1 := by omega
      have hw1 : IntKind.i64.wrap (2 * (root : Int) + 1 + 1) = 2 * (root : Int) + 1 + 1 := by rw [IntKind.wrap_i64]; omega
      by_cases hg2 : 2 * root + 1 + 1 < hi
      · have hg2z : 2 * (root : Int) + 1 + 1 < (hi : Int) := by omega
        have hg2d : decide (2 * (root : Int) + 1 + 1 < (hi : Int)) = true := decide_eq_true hg2z
        obtain ⟨x, y, r, cx, cy, hc, hd⟩ := HC.out.test SQ0.out (by have := hs.out.2; omega) (first + (2 * root + 1)) (first + (2 * root + 1) + 1) (by omega) (by omega)
        obtain ⟨k1, hk1⟩ : ∃ q, q = first + (2 * root + 1) := ⟨_, rfl⟩
        obtain ⟨k2, hk2⟩ : ∃ q, q = first + (2 * root + 1) + 1 := ⟨_, rfl⟩
        rw [← hk1] at cx
        rw [← hk2] at cy
        have ea1 : ((first : Int) + (2 * (root : Int) + 1)).toNat = k1 := by omega
        have pa1 : (0 : Int) ≤ (first : Int) + (2 * (root : Int) + 1) := by omega
        have ba1 : (first : Int) + (2 * (root : Int) + 1) < (n : Int) := by omega
        have ra1 : IntKind.i64.wrap ((first : Int) + (2 * (root : Int) + 1)) = (first : Int) + (2 * (root : Int) + 1) := by rw [IntKind.wrap_i64]; omega
        have ea2 : ((first : Int) + (2 * (root : Int) + 1) + 1).toNat = k2 := by omega
        have pa2 : (0 : Int) ≤ (first : Int) + (2 * (root : Int) + 1) + 1 := by omega
        have ba2 : (first : Int) + (2 * (root : Int) + 1) + 1 < (n : Int) := by omega
        have ra2 : IntKind.i64.wrap ((first : Int) + (2 * (root : Int) + 1) + 1) = (first : Int) + (2 * (root : Int) + 1) + 1 := by rw [IntKind.wrap_i64]; omega
        cases hlv : ltN L dk[first + (2 * root + 1)]! dk[first + (2 * root + 1) + 1]! with
        | true =>
          rw [hlv] at hd
          have hr0 : r < 0 := of_decide_eq_true hd
          clear hk1 hk2
          go_wp2_with fail
          go_quiet_grown ((go_at_call 28; refine Calls.grown_of (hc _ _)))
          have SQ : Hid (SW eN w0 blk off (dk) (grow (wr.drewN nq) osq)) := SQ0.out.grown nq osq
          clear cx cy hc SQ0
          generalize grow (wr.drewN nq) osq = wq at SQ ⊢
          clear nq osq hr0 hd ea1 ea2 pa1 pa2 ba1 ba2 ra1 ra2
          have hch : 2 * root + 2 = if (decide (2 * root + 1 + 1 < hi) && ltN L dk[first + (2 * root + 1)]! dk[first + (2 * root + 1) + 1]!) = true then 2 * root + 2 else 2 * root + 1 := by rw [if_pos]; rw [hlv, decide_eq_true hg2]; rfl
          clear hlv
          obtain ⟨x, y, r, cx, cy, hc, hd⟩ := HC.out.test SQ.out (by have := hs.out.2; omega) (first + root) (first + (2 * root + 2)) (by omega) (by omega)
          obtain ⟨k1, hk1⟩ : ∃ q, q = first + root := ⟨_, rfl⟩
          obtain ⟨k2, hk2⟩ : ∃ q, q = first + (2 * root + 2) := ⟨_, rfl⟩
          rw [← hk1] at cx
          rw [← hk2] at cy
          have ea1 : ((first : Int) + (root : Int)).toNat = k1 := by omega
          have pa1 : (0 : Int) ≤ (first : Int) + (root : Int) := by omega
          have ba1 : (first : Int) + (root : Int) < (n : Int) := by omega
          have ra1 : IntKind.i64.wrap ((first : Int) + (root : Int)) = (first : Int) + (root : Int) := by rw [IntKind.wrap_i64]; omega
          have ea2 : ((first : Int) + (2 * (root : Int) + 1 + 1)).toNat = k2 := by omega
          have pa2 : (0 : Int) ≤ (first : Int) + (2 * (root : Int) + 1 + 1) := by omega
          have ba2 : (first : Int) + (2 * (root : Int) + 1 + 1) < (n : Int) := by omega
          have ra2 : IntKind.i64.wrap ((first : Int) + (2 * (root : Int) + 1 + 1)) = (first : Int) + (2 * (root : Int) + 1 + 1) := by rw [IntKind.wrap_i64]; omega
          cases hlv : ltN L dk[first + root]! dk[first + (2 * root + 2)]! with
          | true =>
            rw [hlv] at hd
            have hr0 : r < 0 := of_decide_eq_true hd
            clear hk1 hk2
            go_wp2_with fail
            go_quiet_grown ((go_at_call 28; refine Calls.grown_of (hc _ _)))
            have SR : Hid (SW eN w0 blk off (dk) (grow (wq.drewN nq) osq)) := SQ.out.grown nq osq
            clear cx cy hc SQ
            generalize grow (wq.drewN nq) osq = w2 at SR ⊢
            clear nq osq hr0 hd ea1 ea2 pa1 pa2 ba1 ba2 ra1 ra2
            obtain ⟨x, y, u, c1, c2, f1, f2, c3, S3'⟩ := HC.out.swap SR.out (by have := hs.out.2; omega) (first + root) (first + (2 * root + 2)) (by omega) (by omega)
            obtain ⟨k1, hk1⟩ : ∃ q, q = first + root := ⟨_, rfl⟩
            obtain ⟨k2, hk2⟩ : ∃ q, q = first + (2 * root + 2) := ⟨_, rfl⟩
            have ST : Hid (SW eN w0 blk off (swp (dk) (first + root) (first + (2 * root + 2))) ((w2.setCell ⟨blk, off + k1, none⟩ (.int .i64 y)).setCell ⟨blk, off + k2, none⟩ (.int .i64 x)).drew) := by rw [hk1, hk2]; exact S3'
            rw [← hk1] at c1 f1 c3
            rw [← hk2] at c2 f2 c3
            clear S3' SR
            have ea1 : ((first : Int) + (root : Int)).toNat = k1 := by omega
            have pa1 : (0 : Int) ≤ (first : Int) + (root : Int) := by omega
            have ba1 : (first : Int) + (root : Int) < (n : Int) := by omega
            have ra1 : IntKind.i64.wrap ((first : Int) + (root : Int)) = (first : Int) + (root : Int) := by rw [IntKind.wrap_i64]; omega
            have ea2 : ((first : Int) + (2 * (root : Int) + 1 + 1)).toNat = k2 := by omega
            have pa2 : (0 : Int) ≤ (first : Int) + (2 * (root : Int) + 1 + 1) := by omega
            have ba2 : (first : Int) + (2 * (root : Int) + 1 + 1) < (n : Int) := by omega
            have ra2 : IntKind.i64.wrap ((first : Int) + (2 * (root : Int) + 1 + 1)) = (first : Int) + (2 * (root : Int) + 1 + 1) := by rw [IntKind.wrap_i64]; omega
            clear hk1 hk2
            go_wp2_with fail
            go_big_region_o
            clear c1 c2 c3 f1 f2 ea1 ea2 pa1 pa2 ba1 ba2 ra1 ra2
            generalize ((w2.setCell ⟨blk, off + k1, none⟩ (.int .i64 y)).setCell ⟨blk, off + k2, none⟩ (.int .i64 x)).drew = w3 at ST ⊢
            go_wp2
            go_roundw
            case rel => exact ⟨2 * root + 2, swp dk (first + root) (first + (2 * root + 2)), by first | rfl | simp | (congr 1; omega), by omega, by rw [swp_size]; exact hsk, ST, (show Hid _ from by rw [← HR.out, sd_go hge hch, if_pos hlv]; exact rfl)⟩
            case measure => (simp [intOf]; try omega)
          | false =>
            rw [hlv] at hd
            have hr0 : ¬ r < 0 := of_decide_eq_false hd
            clear hk1 hk2
            go_wp2_with fail
            go_quiet_grown ((go_at_call 28; refine Calls.grown_of (hc _ _)))
            have SR : Hid (SW eN w0 blk off (dk) (grow (wq.drewN nq) osq)) := SQ.out.grown nq osq
            clear cx cy hc SQ
            generalize grow (wq.drewN nq) osq = w2 at SR ⊢
            clear nq osq hr0 hd ea1 ea2 pa1 pa2 ba1 ba2 ra1 ra2
            go_wp2
            (try simp only [Exit.inBlock, Exit.then]); refine bodyPost_ret (results_none rfl _ _ _) rfl ?_
            exact ⟨rfl, by rw [← HR.out, sd_go hge hch, if_neg (by rw [hlv]; simp)]; exact SR.out⟩
        | false =>
          rw [hlv] at hd
          have hr0 : ¬ r < 0 := of_decide_eq_false hd
          clear hk1 hk2
          go_wp2_with fail
          go_quiet_grown ((go_at_call 28; refine Calls.grown_of (hc _ _)))
          have SQ : Hid (SW eN w0 blk off (dk) (grow (wr.drewN nq) osq)) := SQ0.out.grown nq osq
          clear cx cy hc SQ0
          generalize grow (wr.drewN nq) osq = wq at SQ ⊢
          clear nq osq hr0 hd ea1 ea2 pa1 pa2 ba1 ba2 ra1 ra2
          have hch : 2 * root + 1 = if (decide (2 * root + 1 + 1 < hi) && ltN L dk[first + (2 * root + 1)]! dk[first + (2 * root + 1) + 1]!) = true then 2 * root + 2 else 2 * root + 1 := by rw [if_neg]; rw [hlv, Bool.and_false]; simp
          clear hlv
          obtain ⟨x, y, r, cx, cy, hc, hd⟩ := HC.out.test SQ.out (by have := hs.out.2; omega) (first + root) (first + (2 * root + 1)) (by omega) (by omega)
          obtain ⟨k1, hk1⟩ : ∃ q, q = first + root := ⟨_, rfl⟩
          obtain ⟨k2, hk2⟩ : ∃ q, q = first + (2 * root + 1) := ⟨_, rfl⟩
          rw [← hk1] at cx
          rw [← hk2] at cy
          have ea1 : ((first : Int) + (root : Int)).toNat = k1 := by omega
          have pa1 : (0 : Int) ≤ (first : Int) + (root : Int) := by omega
          have ba1 : (first : Int) + (root : Int) < (n : Int) := by omega
          have ra1 : IntKind.i64.wrap ((first : Int) + (root : Int)) = (first : Int) + (root : Int) := by rw [IntKind.wrap_i64]; omega
          have ea2 : ((first : Int) + (2 * (root : Int) + 1)).toNat = k2 := by omega
          have pa2 : (0 : Int) ≤ (first : Int) + (2 * (root : Int) + 1) := by omega
          have ba2 : (first : Int) + (2 * (root : Int) + 1) < (n : Int) := by omega
          have ra2 : IntKind.i64.wrap ((first : Int) + (2 * (root : Int) + 1)) = (first : Int) + (2 * (root : Int) + 1) := by rw [IntKind.wrap_i64]; omega
          cases hlv : ltN L dk[first + root]! dk[first + (2 * root + 1)]! with
          | true =>
            rw [hlv] at hd
            have hr0 : r < 0 := of_decide_eq_true hd
            clear hk1 hk2
            go_wp2_with fail
            go_quiet_grown ((go_at_call 28; refine Calls.grown_of (hc _ _)))
            have SR : Hid (SW eN w0 blk off (dk) (grow (wq.drewN nq) osq)) := SQ.out.grown nq osq
            clear cx cy hc SQ
            generalize grow (wq.drewN nq) osq = w2 at SR ⊢
            clear nq osq hr0 hd ea1 ea2 pa1 pa2 ba1 ba2 ra1 ra2
            obtain ⟨x, y, u, c1, c2, f1, f2, c3, S3'⟩ := HC.out.swap SR.out (by have := hs.out.2; omega) (first + root) (first + (2 * root + 1)) (by omega) (by omega)
            obtain ⟨k1, hk1⟩ : ∃ q, q = first + root := ⟨_, rfl⟩
            obtain ⟨k2, hk2⟩ : ∃ q, q = first + (2 * root + 1) := ⟨_, rfl⟩
            have ST : Hid (SW eN w0 blk off (swp (dk) (first + root) (first + (2 * root + 1))) ((w2.setCell ⟨blk, off + k1, none⟩ (.int .i64 y)).setCell ⟨blk, off + k2, none⟩ (.int .i64 x)).drew) := by rw [hk1, hk2]; exact S3'
            rw [← hk1] at c1 f1 c3
            rw [← hk2] at c2 f2 c3
            clear S3' SR
            have ea1 : ((first : Int) + (root : Int)).toNat = k1 := by omega
            have pa1 : (0 : Int) ≤ (first : Int) + (root : Int) := by omega
            have ba1 : (first : Int) + (root : Int) < (n : Int) := by omega
            have ra1 : IntKind.i64.wrap ((first : Int) + (root : Int)) = (first : Int) + (root : Int) := by rw [IntKind.wrap_i64]; omega
            have ea2 : ((first : Int) + (2 * (root : Int) + 1)).toNat = k2 := by omega
            have pa2 : (0 : Int) ≤ (first : Int) + (2 * (root : Int) + 1) := by omega
            have ba2 : (first : Int) + (2 * (root : Int) + 1) < (n : Int) := by omega
            have ra2 : IntKind.i64.wrap ((first : Int) + (2 * (root : Int) + 1)) = (first : Int) + (2 * (root : Int) + 1) := by rw [IntKind.wrap_i64]; omega
            clear hk1 hk2
            go_wp2_with fail
            go_big_region_o
            clear c1 c2 c3 f1 f2 ea1 ea2 pa1 pa2 ba1 ba2 ra1 ra2
            generalize ((w2.setCell ⟨blk, off + k1, none⟩ (.int .i64 y)).setCell ⟨blk, off + k2, none⟩ (.int .i64 x)).drew = w3 at ST ⊢
            go_wp2
            go_roundw
            case rel => exact ⟨2 * root + 1, swp dk (first + root) (first + (2 * root + 1)), by first | rfl | simp | (congr 1; omega), by omega, by rw [swp_size]; exact hsk, ST, (show Hid _ from by rw [← HR.out, sd_go hge hch, if_pos hlv]; exact rfl)⟩
            case measure => (simp [intOf]; try omega)
          | false =>
            rw [hlv] at hd
            have hr0 : ¬ r < 0 := of_decide_eq_false hd
            clear hk1 hk2
            go_wp2_with fail
            go_quiet_grown ((go_at_call 28; refine Calls.grown_of (hc _ _)))
            have SR : Hid (SW eN w0 blk off (dk) (grow (wq.drewN nq) osq)) := SQ.out.grown nq osq
            clear cx cy hc SQ
            generalize grow (wq.drewN nq) osq = w2 at SR ⊢
            clear nq osq hr0 hd ea1 ea2 pa1 pa2 ba1 ba2 ra1 ra2
            go_wp2
            (try simp only [Exit.inBlock, Exit.then]); refine bodyPost_ret (results_none rfl _ _ _) rfl ?_
            exact ⟨rfl, by rw [← HR.out, sd_go hge hch, if_neg (by rw [hlv]; simp)]; exact SR.out⟩
      · have hg2z : ¬ 2 * (root : Int) + 1 + 1 < (hi : Int) := by omega
        have hg2d : decide (2 * (root : Int) + 1 + 1 < (hi : Int)) = false := decide_eq_false hg2z
        have hch : 2 * root + 1 = if (decide (2 * root + 1 + 1 < hi) && ltN L dk[first + (2 * root + 1)]! dk[first + (2 * root + 1) + 1]!) = true then 2 * root + 2 else 2 * root + 1 := by rw [if_neg]; rw [decide_eq_false hg2, Bool.false_and]; simp
        go_wp2_with fail
        go_big_region_o
        have SQ : Hid (SW eN w0 blk off dk wr.drew) := SQ0.out.drew
        clear SQ0
        generalize wr.drew = wq at SQ ⊢
        obtain ⟨x, y, r, cx, cy, hc, hd⟩ := HC.out.test SQ.out (by have := hs.out.2; omega) (first + root) (first + (2 * root + 1)) (by omega) (by omega)
        obtain ⟨k1, hk1⟩ : ∃ q, q = first + root := ⟨_, rfl⟩
        obtain ⟨k2, hk2⟩ : ∃ q, q = first + (2 * root + 1) := ⟨_, rfl⟩
        rw [← hk1] at cx
        rw [← hk2] at cy
        have ea1 : ((first : Int) + (root : Int)).toNat = k1 := by omega
        have pa1 : (0 : Int) ≤ (first : Int) + (root : Int) := by omega
        have ba1 : (first : Int) + (root : Int) < (n : Int) := by omega
        have ra1 : IntKind.i64.wrap ((first : Int) + (root : Int)) = (first : Int) + (root : Int) := by rw [IntKind.wrap_i64]; omega
        have ea2 : ((first : Int) + (2 * (root : Int) + 1)).toNat = k2 := by omega
        have pa2 : (0 : Int) ≤ (first : Int) + (2 * (root : Int) + 1) := by omega
        have ba2 : (first : Int) + (2 * (root : Int) + 1) < (n : Int) := by omega
        have ra2 : IntKind.i64.wrap ((first : Int) + (2 * (root : Int) + 1)) = (first : Int) + (2 * (root : Int) + 1) := by rw [IntKind.wrap_i64]; omega
        cases hlv : ltN L dk[first + root]! dk[first + (2 * root + 1)]! with
        | true =>
          rw [hlv] at hd
          have hr0 : r < 0 := of_decide_eq_true hd
          clear hk1 hk2
          go_wp2_with fail
          go_quiet_grown ((go_at_call 28; refine Calls.grown_of (hc _ _)))
          have SR : Hid (SW eN w0 blk off (dk) (grow (wq.drewN nq) osq)) := SQ.out.grown nq osq
          clear cx cy hc SQ
          generalize grow (wq.drewN nq) osq = w2 at SR ⊢
          clear nq osq hr0 hd ea1 ea2 pa1 pa2 ba1 ba2 ra1 ra2
          obtain ⟨x, y, u, c1, c2, f1, f2, c3, S3'⟩ := HC.out.swap SR.out (by have := hs.out.2; omega) (first + root) (first + (2 * root + 1)) (by omega) (by omega)
          obtain ⟨k1, hk1⟩ : ∃ q, q = first + root := ⟨_, rfl⟩
          obtain ⟨k2, hk2⟩ : ∃ q, q = first + (2 * root + 1) := ⟨_, rfl⟩
          have ST : Hid (SW eN w0 blk off (swp (dk) (first + root) (first + (2 * root + 1))) ((w2.setCell ⟨blk, off + k1, none⟩ (.int .i64 y)).setCell ⟨blk, off + k2, none⟩ (.int .i64 x)).drew) := by rw [hk1, hk2]; exact S3'
          rw [← hk1] at c1 f1 c3
          rw [← hk2] at c2 f2 c3
          clear S3' SR
          have ea1 : ((first : Int) + (root : Int)).toNat = k1 := by omega
          have pa1 : (0 : Int) ≤ (first : Int) + (root : Int) := by omega
          have ba1 : (first : Int) + (root : Int) < (n : Int) := by omega
          have ra1 : IntKind.i64.wrap ((first : Int) + (root : Int)) = (first : Int) + (root : Int) := by rw [IntKind.wrap_i64]; omega
          have ea2 : ((first : Int) + (2 * (root : Int) + 1)).toNat = k2 := by omega
          have pa2 : (0 : Int) ≤ (first : Int) + (2 * (root : Int) + 1) := by omega
          have ba2 : (first : Int) + (2 * (root : Int) + 1) < (n : Int) := by omega
          have ra2 : IntKind.i64.wrap ((first : Int) + (2 * (root : Int) + 1)) = (first : Int) + (2 * (root : Int) + 1) := by rw [IntKind.wrap_i64]; omega
          clear hk1 hk2
          go_wp2_with fail
          go_big_region_o
          clear c1 c2 c3 f1 f2 ea1 ea2 pa1 pa2 ba1 ba2 ra1 ra2
          generalize ((w2.setCell ⟨blk, off + k1, none⟩ (.int .i64 y)).setCell ⟨blk, off + k2, none⟩ (.int .i64 x)).drew = w3 at ST ⊢
          go_wp2
          go_roundw
          case rel => exact ⟨2 * root + 1, swp dk (first + root) (first + (2 * root + 1)), by first | rfl | simp | (congr 1; omega), by omega, by rw [swp_size]; exact hsk, ST, (show Hid _ from by rw [← HR.out, sd_go hge hch, if_pos hlv]; exact rfl)⟩
          case measure => (simp [intOf]; try omega)
        | false =>
          rw [hlv] at hd
          have hr0 : ¬ r < 0 := of_decide_eq_false hd
          clear hk1 hk2
          go_wp2_with fail
          go_quiet_grown ((go_at_call 28; refine Calls.grown_of (hc _ _)))
          have SR : Hid (SW eN w0 blk off (dk) (grow (wq.drewN nq) osq)) := SQ.out.grown nq osq
          clear cx cy hc SQ
          generalize grow (wq.drewN nq) osq = w2 at SR ⊢
          clear nq osq hr0 hd ea1 ea2 pa1 pa2 ba1 ba2 ra1 ra2
          go_wp2
          (try simp only [Exit.inBlock, Exit.then]); refine bodyPost_ret (results_none rfl _ _ _) rfl ?_
          exact ⟨rfl, by rw [← HR.out, sd_go hge hch, if_neg (by rw [hlv]; simp)]; exact SR.out⟩
end Go.Proofs.Ytbdloehdhdifpaa
