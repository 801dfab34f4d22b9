/- Parting by a pivot, by the order of a wheel. -/
import Derived.Test.YtbdloehdhdifpaaSh
namespace Go.Proofs.Ytbdloehdhdifpaa
open Go.Shelf Go.RowKit Go.Maps Go.Lib Go.Sort Go.Proofs
set_option maxRecDepth 100000
set_option linter.unusedVariables false
set_option linter.unusedSimpArgs false

section
variable {lt : Nm → Nm → Bool} {a b pv i j i2 j2 : Nat} {d : Array Nm}
theorem pl_end (hi : scanUp (fun x => lt x d[a]!) d j i = i2) (hj : scanDown (fun x => !lt x d[a]!) d i2 j = j2) (h : i2 > j2) : partLoop lt a i j d = (j2, d) := by
  unfold partLoop
  simp only [hi, hj]
  rw [if_pos h]
theorem pl_go (hi : scanUp (fun x => lt x d[a]!) d j i = i2) (hj : scanDown (fun x => !lt x d[a]!) d i2 j = j2) (h : ¬ i2 > j2) (h1 : i ≤ i2) (h2 : j2 ≤ j) (h3 : 1 ≤ j2) : partLoop lt a i j d = partLoop lt a (i2 + 1) (j2 - 1) (swp d i2 j2) := by
  conv => lhs; unfold partLoop
  simp only [hi, hj]
  rw [if_neg h, dif_pos (by omega)]
theorem pt_end {d1 : Array Nm} (h0 : d1 = swp d a pv) (hi : scanUp (fun x => lt x d1[a]!) d1 (b - 1) (a + 1) = i2) (hj : scanDown (fun x => !lt x d1[a]!) d1 i2 (b - 1) = j2) (h : i2 > j2) : partition lt d a b pv = (j2, true, swp d1 j2 a) := by
  subst h0
  unfold partition
  simp only [hi, hj]
  rw [if_pos h]
theorem pt_go {d1 : Array Nm} (h0 : d1 = swp d a pv) (hi : scanUp (fun x => lt x d1[a]!) d1 (b - 1) (a + 1) = i2) (hj : scanDown (fun x => !lt x d1[a]!) d1 i2 (b - 1) = j2) (h : ¬ i2 > j2) : partition lt d a b pv = ((partLoop lt a (i2 + 1) (j2 - 1) (swp d1 i2 j2)).1, false, swp (partLoop lt a (i2 + 1) (j2 - 1) (swp d1 i2 j2)).2 (partLoop lt a (i2 + 1) (j2 - 1) (swp d1 i2 j2)).1 a) := by
  subst h0
  unfold partition
  simp only [hi, hj]
  rw [if_neg h]
end
set_option maxHeartbeats 16000000 in
theorem partit_any {w0 : World} {B M blk off : Nat} {now : Int} {L : List Tm} {d0 : Array Nm} (C : Sx w0 B M blk off now L d0) (cap : Nat) (d : Array Nm) (w : World) (S : SW eN w0 blk off d w) (n : Nat) (hs : Hid (d.size = n ∧ d0.size = n)) (a b pv : Nat) (hp1 : a ≤ pv) (hp2 : pv < b) (hb : b ≤ n) (hz : n < 1000000) :
    Calls Try.prog 40 #[.slice (some ⟨blk, off, none⟩) n cap, .int .i64 (a : Int), .int .i64 (b : Int), .int .i64 (pv : Int), .func (.func 28) #[.pointer (some ⟨B, 0, none⟩)] #[]] w fun e w' => e = .returned (.tuple #[.int .i64 ((partition (ltN L) d a b pv).1 : Int), .bool (partition (ltN L) d a b pv).2.1]) ∧ SW eN w0 blk off (partition (ltN L) d a b pv).2.2 w' := by
  have mixed : Try.prog.follows .mixedOrders = true := by kernel_rfl
  have HC : Hid (Sx w0 B M blk off now L d0) := C
  have HS : Hid (SW eN w0 blk off d w) := S
  clear C S
  have hsd := hs.out.1
  obtain ⟨j0, hb1⟩ : ∃ q, q = b - 1 := ⟨_, rfl⟩
  have hb2 : (b : Int) - 1 = (j0 : Int) := by omega
  obtain ⟨i0, hi9⟩ : ∃ q, q = a + 1 := ⟨_, rfl⟩
  have hi8 : (a : Int) + 1 = (i0 : Int) := by omega
  have hi0 : a < i0 := by omega
  have hi1 : i0 ≤ b := by omega
  have hj0 : a ≤ j0 := by omega
  have hj1 : j0 < b := by omega
  have HIJ : Hid (j0 = b - 1 ∧ i0 = a + 1) := ⟨hb1, hi9⟩
  clear hb1 hi9
  go_enter Try.func40, Try.ntmps40
  go_wp2_with fail
  obtain ⟨x, y, u, c1, c2, f1, f2, c3, S3'⟩ := HC.out.swap HS.out (by have := hs.out.2; omega) (a) (pv) (by omega) (by omega)
  obtain ⟨k1, hk1⟩ : ∃ q, q = a := ⟨_, rfl⟩
  obtain ⟨k2, hk2⟩ : ∃ q, q = pv := ⟨_, rfl⟩
  have ST : Hid (SW eN w0 blk off (swp (d) (a) (pv)) ((w.setCell ⟨blk, off + k1, none⟩ (.int .i64 y)).setCell ⟨blk, off + k2, none⟩ (.int .i64 x)).drew) := by rw [hk1, hk2]; exact S3'
  have c4 : (w.setCell ⟨blk, off + k1, none⟩ (.int .i64 y)).cell? ⟨blk, off + k2, none⟩ = some (.int .i64 u) := by rw [hk1, hk2]; exact c3
  rw [← hk1] at c1 f1
  rw [← hk2] at c2 f2
  clear S3' HS c3
  have ea1 : ((a : Int)).toNat = k1 := by omega
  have pa1 : (0 : Int) ≤ (a : Int) := by omega
  have ba1 : (a : Int) < (n : Int) := by omega
  have ra1 : IntKind.i64.wrap ((a : Int)) = (a : Int) := by rw [IntKind.wrap_i64]; omega
  have ea2 : ((pv : Int)).toNat = k2 := by omega
  have pa2 : (0 : Int) ≤ (pv : Int) := by omega
  have ba2 : (pv : Int) < (n : Int) := by omega
  have ra2 : IntKind.i64.wrap ((pv : Int)) = (pv : Int) := by rw [IntKind.wrap_i64]; omega
  clear hk1 hk2
  go_wp2_with fail
  go_big_region_o
  clear c1 c2 c4 f1 f2 ea1 ea2 pa1 pa2 ba1 ba2 ra1 ra2
  generalize ((w.setCell ⟨blk, off + k1, none⟩ (.int .i64 y)).setCell ⟨blk, off + k2, none⟩ (.int .i64 x)).drew = w1 at ST ⊢
  have hsk : (swp d a pv).size = n := by rw [swp_size]; exact hsd
  clear hsd
  obtain ⟨dk, hdk⟩ : ∃ x, x = swp d a pv := ⟨_, rfl⟩
  rw [← hdk] at hsk ST
  have HD0 : Hid (dk = swp d a pv) := hdk
  clear hdk
  go_upto_region 3 with fail
  go_loopw [12] (fun vi wr => ∃ i : Nat, vi = .int .i64 (i : Int) ∧ i0 ≤ i ∧ (i ≤ j0 + 1 ∨ i = i0) ∧ Hid (SW eN w0 blk off dk wr) ∧ Hid (scanUp (fun x => ltN L x dk[a]!) dk j0 i = scanUp (fun x => ltN L x dk[a]!) dk j0 i0)) (fun vi _ => j0 + 1 - (intOf vi).toNat)
  case atStart => exact ⟨i0, by first | rfl | simp | (congr 1; omega), Nat.le_refl _, Or.inr rfl, ST, rfl⟩
  case round =>
    clear ST
    obtain ⟨i, rfl, hi2, hi3, SI, HSU⟩ := hrel
    by_cases hij : i ≤ j0
    · have hijz : (i : Int) ≤ (j0 : Int) := by omega
      obtain ⟨x, y, r, cx, cy, hc, hd⟩ := HC.out.test SI.out (by have := hs.out.2; omega) (i) (a) (by omega) (by omega)
      obtain ⟨k1, hk1⟩ : ∃ q, q = i := ⟨_, rfl⟩
      obtain ⟨k2, hk2⟩ : ∃ q, q = a := ⟨_, rfl⟩
      rw [← hk1] at cx
      rw [← hk2] at cy
      have ea1 : ((i : Int)).toNat = k1 := by omega
      have pa1 : (0 : Int) ≤ (i : Int) := by omega
      have ba1 : (i : Int) < (n : Int) := by omega
      have ra1 : IntKind.i64.wrap ((i : Int)) = (i : Int) := by rw [IntKind.wrap_i64]; omega
      have ea2 : ((a : Int)).toNat = k2 := by omega
      have pa2 : (0 : Int) ≤ (a : Int) := by omega
      have ba2 : (a : Int) < (n : Int) := by omega
      have ra2 : IntKind.i64.wrap ((a : Int)) = (a : Int) := by rw [IntKind.wrap_i64]; omega
      cases hlv : ltN L dk[i]! dk[a]! with
      | true =>
        rw [hlv] at hd
        have hr0 : r < 0 := of_decide_eq_true hd
        clear hk1 hk2
        go_wp2_with fail
        go_quiet_grown ((go_at_call 28; refine Calls.grown_of (hc _ _)))
        have SJ : Hid (SW eN w0 blk off (dk) (grow (wr.drewN nq) osq)) := SI.out.grown nq osq
        clear cx cy hc SI
        generalize grow (wr.drewN nq) osq = w2 at SJ ⊢
        clear nq osq hr0 hd ea1 ea2 pa1 pa2 ba1 ba2 ra1 ra2
        go_wp2
        go_roundw
        case rel => exact ⟨i + 1, by simp, by omega, by omega, SJ, (show Hid _ from by show _ = _; rw [← HSU.out, su_go (p := (fun x => ltN L x dk[a]!)) hij hlv])⟩
        case measure => (simp [intOf]; try omega)
      | false =>
        rw [hlv] at hd
        have hr0 : ¬ r < 0 := of_decide_eq_false hd
        clear hk1 hk2
        go_wp2_with fail
        go_quiet_grown ((go_at_call 28; refine Calls.grown_of (hc _ _)))
        have SJ : Hid (SW eN w0 blk off (dk) (grow (wr.drewN nq) osq)) := SI.out.grown nq osq
        clear cx cy hc SI
        generalize grow (wr.drewN nq) osq = w2 at SJ ⊢
        clear nq osq hr0 hd ea1 ea2 pa1 pa2 ba1 ba2 ra1 ra2
        have HI : Hid (scanUp (fun x => ltN L x dk[a]!) dk j0 i0 = i) := by show _ = _; rw [← HSU.out, su_stop (p := (fun x => ltN L x dk[a]!)) (Or.inr hlv)]
        clear HSU hlv
        go_upto_region 5 with fail
        go_loopw [13] (fun vj wr => ∃ j : Nat, vj = .int .i64 (j : Int) ∧ j ≤ j0 ∧ a ≤ j ∧ Hid (SW eN w0 blk off dk wr) ∧ Hid (scanDown (fun x => !ltN L x dk[a]!) dk i j = scanDown (fun x => !ltN L x dk[a]!) dk i j0)) (fun vj _ => (intOf vj).toNat)
        case atStart => exact ⟨j0, rfl, Nat.le_refl _, hj0, SJ, rfl⟩
        case round =>
          clear SJ
          obtain ⟨j, rfl, hj2, hj3, SK, HSD⟩ := hrel
          by_cases hij2 : i ≤ j
          · have hijz2 : (i : Int) ≤ (j : Int) := by omega
            obtain ⟨jp, rfl⟩ : ∃ q, j = q + 1 := ⟨j - 1, by omega⟩
            have eJ : ((jp + 1 : Nat) : Int) = (jp : Int) + 1 := by omega
            have hijz3 : (i : Int) ≤ (jp : Int) + 1 := by omega
            obtain ⟨x, y, r, cx, cy, hc, hd⟩ := HC.out.test SK.out (by have := hs.out.2; omega) (jp + 1) (a) (by omega) (by omega)
            obtain ⟨k1, hk1⟩ : ∃ q, q = jp + 1 := ⟨_, rfl⟩
            obtain ⟨k2, hk2⟩ : ∃ q, q = a := ⟨_, rfl⟩
            rw [← hk1] at cx
            rw [← hk2] at cy
            have ea1 : ((jp : Int) + 1).toNat = k1 := by omega
            have pa1 : (0 : Int) ≤ (jp : Int) + 1 := by omega
            have ba1 : (jp : Int) + 1 < (n : Int) := by omega
            have ra1 : IntKind.i64.wrap ((jp : Int) + 1) = (jp : Int) + 1 := by rw [IntKind.wrap_i64]; omega
            have ea2 : ((a : Int)).toNat = k2 := by omega
            have pa2 : (0 : Int) ≤ (a : Int) := by omega
            have ba2 : (a : Int) < (n : Int) := by omega
            have ra2 : IntKind.i64.wrap ((a : Int)) = (a : Int) := by rw [IntKind.wrap_i64]; omega
            cases hlv : ltN L dk[jp + 1]! dk[a]! with
            | false =>
              rw [hlv] at hd
              have hr0 : ¬ r < 0 := of_decide_eq_false hd
              clear hk1 hk2
              go_wp2_with fail
              go_quiet_grown ((go_at_call 28; refine Calls.grown_of (hc _ _)))
              have SL2 : Hid (SW eN w0 blk off (dk) (grow (wr.drewN nq) osq)) := SK.out.grown nq osq
              clear cx cy hc SK
              generalize grow (wr.drewN nq) osq = w4 at SL2 ⊢
              clear nq osq hr0 hd ea1 ea2 pa1 pa2 ba1 ba2 ra1 ra2
              go_wp2
              go_roundw
              case rel => exact ⟨jp, by first | rfl | simp, by omega, by omega, SL2, (show Hid _ from by show _ = _; rw [← HSD.out, dn2_go (p := (fun x => !ltN L x dk[a]!)) hij2 (by show (!ltN L dk[jp + 1]! dk[a]!) = true; rw [hlv]; rfl)])⟩
              case measure => (simp [intOf]; try omega)
            | true =>
              rw [hlv] at hd
              have hr0 : r < 0 := of_decide_eq_true hd
              clear hk1 hk2
              go_wp2_with fail
              go_quiet_grown ((go_at_call 28; refine Calls.grown_of (hc _ _)))
              have SL2 : Hid (SW eN w0 blk off (dk) (grow (wr.drewN nq) osq)) := SK.out.grown nq osq
              clear cx cy hc SK
              generalize grow (wr.drewN nq) osq = w4 at SL2 ⊢
              clear nq osq hr0 hd ea1 ea2 pa1 pa2 ba1 ba2 ra1 ra2
              have HJ : Hid (scanDown (fun x => !ltN L x dk[a]!) dk i j0 = jp + 1) := by show _ = _; rw [← HSD.out, dn2_stop (p := (fun x => !ltN L x dk[a]!)) (Or.inr (by show (!ltN L dk[jp + 1]! dk[a]!) = false; rw [hlv]; rfl))]
              clear HSD hlv
              have hgt : ¬ ((jp : Int) + 1 < (i : Int)) := by omega
              have HG : Hid (partition (ltN L) d a b pv = ((partLoop (ltN L) a (i + 1) jp (swp dk i (jp + 1))).1, false, swp (partLoop (ltN L) a (i + 1) jp (swp dk i (jp + 1))).2 (partLoop (ltN L) a (i + 1) jp (swp dk i (jp + 1))).1 a)) := by show _ = _; rw [pt_go (i2 := i) (j2 := jp + 1) HD0.out (by rw [← HIJ.out.1, ← HIJ.out.2]; exact HI.out) (by rw [← HIJ.out.1]; exact HJ.out) (by omega)]; rfl
              clear HI HJ HD0
              go_wp2_with fail
              obtain ⟨x, y, u, c1, c2, f1, f2, c3, S3'⟩ := HC.out.swap SL2.out (by have := hs.out.2; omega) (i) (jp + 1) (by omega) (by omega)
              obtain ⟨k1, hk1⟩ : ∃ q, q = i := ⟨_, rfl⟩
              obtain ⟨k2, hk2⟩ : ∃ q, q = jp + 1 := ⟨_, rfl⟩
              have SN : Hid (SW eN w0 blk off (swp (dk) (i) (jp + 1)) ((w4.setCell ⟨blk, off + k1, none⟩ (.int .i64 y)).setCell ⟨blk, off + k2, none⟩ (.int .i64 x)).drew) := by rw [hk1, hk2]; exact S3'
              have c4 : (w4.setCell ⟨blk, off + k1, none⟩ (.int .i64 y)).cell? ⟨blk, off + k2, none⟩ = some (.int .i64 u) := by rw [hk1, hk2]; exact c3
              rw [← hk1] at c1 f1
              rw [← hk2] at c2 f2
              clear S3' SL2 c3
              have ea1 : ((i : Int)).toNat = k1 := by omega
              have pa1 : (0 : Int) ≤ (i : Int) := by omega
              have ba1 : (i : Int) < (n : Int) := by omega
              have ra1 : IntKind.i64.wrap ((i : Int)) = (i : Int) := by rw [IntKind.wrap_i64]; omega
              have ea2 : ((jp : Int) + 1).toNat = k2 := by omega
              have pa2 : (0 : Int) ≤ (jp : Int) + 1 := by omega
              have ba2 : (jp : Int) + 1 < (n : Int) := by omega
              have ra2 : IntKind.i64.wrap ((jp : Int) + 1) = (jp : Int) + 1 := by rw [IntKind.wrap_i64]; omega
              clear hk1 hk2
              go_wp2_with fail
              go_big_region_o
              clear c1 c2 c4 f1 f2 ea1 ea2 pa1 pa2 ba1 ba2 ra1 ra2
              generalize ((w4.setCell ⟨blk, off + k1, none⟩ (.int .i64 y)).setCell ⟨blk, off + k2, none⟩ (.int .i64 x)).drew = w5 at SN ⊢
              have hsn : (swp dk i (jp + 1)).size = n := by rw [swp_size]; exact hsk
              obtain ⟨RR, hRR⟩ : ∃ x, x = partLoop (ltN L) a (i + 1) jp (swp dk i (jp + 1)) := ⟨_, rfl⟩
              rw [← hRR] at HG
              have HRR : Hid (partLoop (ltN L) a (i + 1) jp (swp dk i (jp + 1)) = RR) := hRR.symm
              clear hRR
              go_wp2
              go_loopw [12, 13] (fun vi vj wr => ∃ (i j : Nat) (dk : Array Nm), vi = .int .i64 (i : Int) ∧ vj = .int .i64 (j : Int) ∧ a < i ∧ i ≤ b ∧ a ≤ j ∧ j < b ∧ dk.size = n ∧ Hid (SW eN w0 blk off dk wr) ∧ Hid (partLoop (ltN L) a i j dk = RR)) (fun _ vj _ => (intOf vj).toNat)
              case atStart => exact ⟨i + 1, jp, _, by first | rfl | simp, by first | rfl | simp, by omega, by omega, by omega, by omega, hsn, SN, HRR⟩
              case round =>
                clear SN HRR hsn
                obtain ⟨i0, j0, dk, rfl, rfl, hi0, hi1, hj0, hj1, hsk, SQ, HD⟩ := hrel
                go_upto_region 13 with fail
                go_loopw [12] (fun vi wr => ∃ i : Nat, vi = .int .i64 (i : Int) ∧ i0 ≤ i ∧ (i ≤ j0 + 1 ∨ i = i0) ∧ Hid (SW eN w0 blk off dk wr) ∧ Hid (scanUp (fun x => ltN L x dk[a]!) dk j0 i = scanUp (fun x => ltN L x dk[a]!) dk j0 i0)) (fun vi _ => j0 + 1 - (intOf vi).toNat)
                case atStart => exact ⟨i0, rfl, Nat.le_refl _, Or.inr rfl, SQ, rfl⟩
                case round =>
                  clear SQ
                  obtain ⟨i, rfl, hi2, hi3, SI, HSU⟩ := hrel
                  by_cases hij : i ≤ j0
                  · have hijz : (i : Int) ≤ (j0 : Int) := by omega
                    obtain ⟨x, y, r, cx, cy, hc, hd⟩ := HC.out.test SI.out (by have := hs.out.2; omega) (i) (a) (by omega) (by omega)
                    obtain ⟨k1, hk1⟩ : ∃ q, q = i := ⟨_, rfl⟩
                    obtain ⟨k2, hk2⟩ : ∃ q, q = a := ⟨_, rfl⟩
                    rw [← hk1] at cx
                    rw [← hk2] at cy
                    have ea1 : ((i : Int)).toNat = k1 := by omega
                    have pa1 : (0 : Int) ≤ (i : Int) := by omega
                    have ba1 : (i : Int) < (n : Int) := by omega
                    have ra1 : IntKind.i64.wrap ((i : Int)) = (i : Int) := by rw [IntKind.wrap_i64]; omega
                    have ea2 : ((a : Int)).toNat = k2 := by omega
                    have pa2 : (0 : Int) ≤ (a : Int) := by omega
                    have ba2 : (a : Int) < (n : Int) := by omega
                    have ra2 : IntKind.i64.wrap ((a : Int)) = (a : Int) := by rw [IntKind.wrap_i64]; omega
                    cases hlv : ltN L dk[i]! dk[a]! with
                    | true =>
                      rw [hlv] at hd
                      have hr0 : r < 0 := of_decide_eq_true hd
                      clear hk1 hk2
                      go_wp2_with fail
                      go_quiet_grown ((go_at_call 28; refine Calls.grown_of (hc _ _)))
                      have SJ : Hid (SW eN w0 blk off (dk) (grow (wr.drewN nq) osq)) := SI.out.grown nq osq
                      clear cx cy hc SI
                      generalize grow (wr.drewN nq) osq = w2 at SJ ⊢
                      clear nq osq hr0 hd ea1 ea2 pa1 pa2 ba1 ba2 ra1 ra2
                      go_wp2
                      go_roundw
                      case rel => exact ⟨i + 1, by simp, by omega, by omega, SJ, (show Hid _ from by show _ = _; rw [← HSU.out, su_go (p := (fun x => ltN L x dk[a]!)) hij hlv])⟩
                      case measure => (simp [intOf]; try omega)
                    | false =>
                      rw [hlv] at hd
                      have hr0 : ¬ r < 0 := of_decide_eq_false hd
                      clear hk1 hk2
                      go_wp2_with fail
                      go_quiet_grown ((go_at_call 28; refine Calls.grown_of (hc _ _)))
                      have SJ : Hid (SW eN w0 blk off (dk) (grow (wr.drewN nq) osq)) := SI.out.grown nq osq
                      clear cx cy hc SI
                      generalize grow (wr.drewN nq) osq = w2 at SJ ⊢
                      clear nq osq hr0 hd ea1 ea2 pa1 pa2 ba1 ba2 ra1 ra2
                      have HI : Hid (scanUp (fun x => ltN L x dk[a]!) dk j0 i0 = i) := by show _ = _; rw [← HSU.out, su_stop (p := (fun x => ltN L x dk[a]!)) (Or.inr hlv)]
                      clear HSU hlv
                      go_upto_region 15 with fail
                      go_loopw [13] (fun vj wr => ∃ j : Nat, vj = .int .i64 (j : Int) ∧ j ≤ j0 ∧ a ≤ j ∧ Hid (SW eN w0 blk off dk wr) ∧ Hid (scanDown (fun x => !ltN L x dk[a]!) dk i j = scanDown (fun x => !ltN L x dk[a]!) dk i j0)) (fun vj _ => (intOf vj).toNat)
                      case atStart => exact ⟨j0, rfl, Nat.le_refl _, hj0, SJ, rfl⟩
                      case round =>
                        clear SJ
                        obtain ⟨j, rfl, hj2, hj3, SK, HSD⟩ := hrel
                        by_cases hij2 : i ≤ j
                        · have hijz2 : (i : Int) ≤ (j : Int) := by omega
                          obtain ⟨jp, rfl⟩ : ∃ q, j = q + 1 := ⟨j - 1, by omega⟩
                          have eJ : ((jp + 1 : Nat) : Int) = (jp : Int) + 1 := by omega
                          have hijz3 : (i : Int) ≤ (jp : Int) + 1 := by omega
                          obtain ⟨x, y, r, cx, cy, hc, hd⟩ := HC.out.test SK.out (by have := hs.out.2; omega) (jp + 1) (a) (by omega) (by omega)
                          obtain ⟨k1, hk1⟩ : ∃ q, q = jp + 1 := ⟨_, rfl⟩
                          obtain ⟨k2, hk2⟩ : ∃ q, q = a := ⟨_, rfl⟩
                          rw [← hk1] at cx
                          rw [← hk2] at cy
                          have ea1 : ((jp : Int) + 1).toNat = k1 := by omega
                          have pa1 : (0 : Int) ≤ (jp : Int) + 1 := by omega
                          have ba1 : (jp : Int) + 1 < (n : Int) := by omega
                          have ra1 : IntKind.i64.wrap ((jp : Int) + 1) = (jp : Int) + 1 := by rw [IntKind.wrap_i64]; omega
                          have ea2 : ((a : Int)).toNat = k2 := by omega
                          have pa2 : (0 : Int) ≤ (a : Int) := by omega
                          have ba2 : (a : Int) < (n : Int) := by omega
                          have ra2 : IntKind.i64.wrap ((a : Int)) = (a : Int) := by rw [IntKind.wrap_i64]; omega
                          cases hlv : ltN L dk[jp + 1]! dk[a]! with
                          | false =>
                            rw [hlv] at hd
                            have hr0 : ¬ r < 0 := of_decide_eq_false hd
                            clear hk1 hk2
                            go_wp2_with fail
                            go_quiet_grown ((go_at_call 28; refine Calls.grown_of (hc _ _)))
                            have SL2 : Hid (SW eN w0 blk off (dk) (grow (wr.drewN nq) osq)) := SK.out.grown nq osq
                            clear cx cy hc SK
                            generalize grow (wr.drewN nq) osq = w4 at SL2 ⊢
                            clear nq osq hr0 hd ea1 ea2 pa1 pa2 ba1 ba2 ra1 ra2
                            go_wp2
                            go_roundw
                            case rel => exact ⟨jp, by first | rfl | simp, by omega, by omega, SL2, (show Hid _ from by show _ = _; rw [← HSD.out, dn2_go (p := (fun x => !ltN L x dk[a]!)) hij2 (by show (!ltN L dk[jp + 1]! dk[a]!) = true; rw [hlv]; rfl)])⟩
                            case measure => (simp [intOf]; try omega)
                          | true =>
                            rw [hlv] at hd
                            have hr0 : r < 0 := of_decide_eq_true hd
                            clear hk1 hk2
                            go_wp2_with fail
                            go_quiet_grown ((go_at_call 28; refine Calls.grown_of (hc _ _)))
                            have SL2 : Hid (SW eN w0 blk off (dk) (grow (wr.drewN nq) osq)) := SK.out.grown nq osq
                            clear cx cy hc SK
                            generalize grow (wr.drewN nq) osq = w4 at SL2 ⊢
                            clear nq osq hr0 hd ea1 ea2 pa1 pa2 ba1 ba2 ra1 ra2
                            have HJ : Hid (scanDown (fun x => !ltN L x dk[a]!) dk i j0 = jp + 1) := by show _ = _; rw [← HSD.out, dn2_stop (p := (fun x => !ltN L x dk[a]!)) (Or.inr (by show (!ltN L dk[jp + 1]! dk[a]!) = false; rw [hlv]; rfl))]
                            clear HSD hlv
                            have hgt : ¬ ((jp : Int) + 1 < (i : Int)) := by omega
                            have HD3 : Hid (partLoop (ltN L) a (i + 1) jp (swp dk i (jp + 1)) = RR) := by show _ = _; rw [← HD.out, pl_go HI.out HJ.out (by omega) hi2 hj2 (by omega)]; rfl
                            clear HD HI HJ
                            go_wp2_with fail
                            obtain ⟨x, y, u, c1, c2, f1, f2, c3, S3'⟩ := HC.out.swap SL2.out (by have := hs.out.2; omega) (i) (jp + 1) (by omega) (by omega)
                            obtain ⟨k1, hk1⟩ : ∃ q, q = i := ⟨_, rfl⟩
                            obtain ⟨k2, hk2⟩ : ∃ q, q = jp + 1 := ⟨_, rfl⟩
                            have SN : Hid (SW eN w0 blk off (swp (dk) (i) (jp + 1)) ((w4.setCell ⟨blk, off + k1, none⟩ (.int .i64 y)).setCell ⟨blk, off + k2, none⟩ (.int .i64 x)).drew) := by rw [hk1, hk2]; exact S3'
                            have c4 : (w4.setCell ⟨blk, off + k1, none⟩ (.int .i64 y)).cell? ⟨blk, off + k2, none⟩ = some (.int .i64 u) := by rw [hk1, hk2]; exact c3
                            rw [← hk1] at c1 f1
                            rw [← hk2] at c2 f2
                            clear S3' SL2 c3
                            have ea1 : ((i : Int)).toNat = k1 := by omega
                            have pa1 : (0 : Int) ≤ (i : Int) := by omega
                            have ba1 : (i : Int) < (n : Int) := by omega
                            have ra1 : IntKind.i64.wrap ((i : Int)) = (i : Int) := by rw [IntKind.wrap_i64]; omega
                            have ea2 : ((jp : Int) + 1).toNat = k2 := by omega
                            have pa2 : (0 : Int) ≤ (jp : Int) + 1 := by omega
                            have ba2 : (jp : Int) + 1 < (n : Int) := by omega
                            have ra2 : IntKind.i64.wrap ((jp : Int) + 1) = (jp : Int) + 1 := by rw [IntKind.wrap_i64]; omega
                            clear hk1 hk2
                            go_wp2_with fail
                            go_big_region_o
                            clear c1 c2 c4 f1 f2 ea1 ea2 pa1 pa2 ba1 ba2 ra1 ra2
                            generalize ((w4.setCell ⟨blk, off + k1, none⟩ (.int .i64 y)).setCell ⟨blk, off + k2, none⟩ (.int .i64 x)).drew = w5 at SN ⊢
                            go_wp2
                            go_roundw
                            case rel => exact ⟨i + 1, jp, _, by first | rfl | simp, by first | rfl | simp, by omega, by omega, by omega, by omega, by rw [swp_size]; exact hsk, SN, HD3⟩
                            case measure => (simp [intOf]; try omega)
                        · have hijz2 : ¬ (i : Int) ≤ (j : Int) := by omega
                          have hdz2 : decide ((i : Int) ≤ (j : Int)) = false := decide_eq_false hijz2
                          have hjs : scanDown (fun x => !ltN L x dk[a]!) dk i j = j := by
                            cases j with
                            | zero => rfl
                            | succ q => exact dn2_stop (Or.inl hij2)
                          have HJ : Hid (scanDown (fun x => !ltN L x dk[a]!) dk i j0 = j) := by show _ = _; rw [← HSD.out, hjs]
                          have hgt : (j : Int) < (i : Int) := by omega
                          clear HSD hjs
                          go_wp2_with fail
                          go_big_region_o
                          have SM : Hid (SW eN w0 blk off dk wr.drew) := SK.out.drew
                          clear SK
                          generalize wr.drew = w6 at SM ⊢
                          have HR2 : Hid (partLoop (ltN L) a i0 j0 dk = (j, dk)) := pl_end HI.out HJ.out (by omega)
                          have HRES : Hid (partition (ltN L) d a b pv = (j, false, swp dk j a)) := by show _ = _; rw [HG.out, ← HD.out, HR2.out]
                          clear HD HI HJ HR2 HG
                          go_wp2_with fail
                          obtain ⟨x, y, u, c1, c2, f1, f2, c3, S3'⟩ := HC.out.swap SM.out (by have := hs.out.2; omega) (j) (a) (by omega) (by omega)
                          obtain ⟨k1, hk1⟩ : ∃ q, q = j := ⟨_, rfl⟩
                          obtain ⟨k2, hk2⟩ : ∃ q, q = a := ⟨_, rfl⟩
                          have SN : Hid (SW eN w0 blk off (swp (dk) (j) (a)) ((w6.setCell ⟨blk, off + k1, none⟩ (.int .i64 y)).setCell ⟨blk, off + k2, none⟩ (.int .i64 x)).drew) := by rw [hk1, hk2]; exact S3'
                          have c4 : (w6.setCell ⟨blk, off + k1, none⟩ (.int .i64 y)).cell? ⟨blk, off + k2, none⟩ = some (.int .i64 u) := by rw [hk1, hk2]; exact c3
                          rw [← hk1] at c1 f1
                          rw [← hk2] at c2 f2
                          clear S3' SM c3
                          have ea1 : ((j : Int)).toNat = k1 := by omega
                          have pa1 : (0 : Int) ≤ (j : Int) := by omega
                          have ba1 : (j : Int) < (n : Int) := by omega
                          have ra1 : IntKind.i64.wrap ((j : Int)) = (j : Int) := by rw [IntKind.wrap_i64]; omega
                          have ea2 : ((a : Int)).toNat = k2 := by omega
                          have pa2 : (0 : Int) ≤ (a : Int) := by omega
                          have ba2 : (a : Int) < (n : Int) := by omega
                          have ra2 : IntKind.i64.wrap ((a : Int)) = (a : Int) := by rw [IntKind.wrap_i64]; omega
                          clear hk1 hk2
                          go_wp2_with fail
                          go_big_region_o
                          clear c1 c2 c4 f1 f2 ea1 ea2 pa1 pa2 ba1 ba2 ra1 ra2
                          generalize ((w6.setCell ⟨blk, off + k1, none⟩ (.int .i64 y)).setCell ⟨blk, off + k2, none⟩ (.int .i64 x)).drew = w7 at SN ⊢
                          go_wp2
                          go_ret2
                          exact ⟨by first | (rw [HRES.out]; done) | (rw [HRES.out]; rfl), by rw [HRES.out]; exact SN.out⟩
                  · have hijz : ¬ (i : Int) ≤ (j0 : Int) := by omega
                    have hdz : decide ((i : Int) ≤ (j0 : Int)) = false := decide_eq_false hijz
                    have HI : Hid (scanUp (fun x => ltN L x dk[a]!) dk j0 i0 = i) := by show _ = _; rw [← HSU.out, su_stop (p := (fun x => ltN L x dk[a]!)) (Or.inl hij)]
                    clear HSU
                    go_wp2_with fail
                    go_big_region_o
                    have SJ : Hid (SW eN w0 blk off dk wr.drew) := SI.out.drew
                    clear SI
                    generalize wr.drew = w2 at SJ ⊢
                    go_upto_region 15 with fail
                    go_loopw [13] (fun vj wr => ∃ j : Nat, vj = .int .i64 (j : Int) ∧ j ≤ j0 ∧ a ≤ j ∧ Hid (SW eN w0 blk off dk wr) ∧ Hid (scanDown (fun x => !ltN L x dk[a]!) dk i j = scanDown (fun x => !ltN L x dk[a]!) dk i j0)) (fun vj _ => (intOf vj).toNat)
                    case atStart => exact ⟨j0, rfl, Nat.le_refl _, hj0, SJ, rfl⟩
                    case round =>
                      clear SJ
                      obtain ⟨j, rfl, hj2, hj3, SK, HSD⟩ := hrel
                      by_cases hij2 : i ≤ j
                      · exfalso; omega
                      · have hijz2 : ¬ (i : Int) ≤ (j : Int) := by omega
                        have hdz2 : decide ((i : Int) ≤ (j : Int)) = false := decide_eq_false hijz2
                        have hjs : scanDown (fun x => !ltN L x dk[a]!) dk i j = j := by
                          cases j with
                          | zero => rfl
                          | succ q => exact dn2_stop (Or.inl hij2)
                        have HJ : Hid (scanDown (fun x => !ltN L x dk[a]!) dk i j0 = j) := by show _ = _; rw [← HSD.out, hjs]
                        have hgt : (j : Int) < (i : Int) := by omega
                        clear HSD hjs
                        go_wp2_with fail
                        go_big_region_o
                        have SM : Hid (SW eN w0 blk off dk wr.drew) := SK.out.drew
                        clear SK
                        generalize wr.drew = w6 at SM ⊢
                        have HR2 : Hid (partLoop (ltN L) a i0 j0 dk = (j, dk)) := pl_end HI.out HJ.out (by omega)
                        have HRES : Hid (partition (ltN L) d a b pv = (j, false, swp dk j a)) := by show _ = _; rw [HG.out, ← HD.out, HR2.out]
                        clear HD HI HJ HR2 HG
                        go_wp2_with fail
                        obtain ⟨x, y, u, c1, c2, f1, f2, c3, S3'⟩ := HC.out.swap SM.out (by have := hs.out.2; omega) (j) (a) (by omega) (by omega)
                        obtain ⟨k1, hk1⟩ : ∃ q, q = j := ⟨_, rfl⟩
                        obtain ⟨k2, hk2⟩ : ∃ q, q = a := ⟨_, rfl⟩
                        have SN : Hid (SW eN w0 blk off (swp (dk) (j) (a)) ((w6.setCell ⟨blk, off + k1, none⟩ (.int .i64 y)).setCell ⟨blk, off + k2, none⟩ (.int .i64 x)).drew) := by rw [hk1, hk2]; exact S3'
                        have c4 : (w6.setCell ⟨blk, off + k1, none⟩ (.int .i64 y)).cell? ⟨blk, off + k2, none⟩ = some (.int .i64 u) := by rw [hk1, hk2]; exact c3
                        rw [← hk1] at c1 f1
                        rw [← hk2] at c2 f2
                        clear S3' SM c3
                        have ea1 : ((j : Int)).toNat = k1 := by omega
                        have pa1 : (0 : Int) ≤ (j : Int) := by omega
                        have ba1 : (j : Int) < (n : Int) := by omega
                        have ra1 : IntKind.i64.wrap ((j : Int)) = (j : Int) := by rw [IntKind.wrap_i64]; omega
                        have ea2 : ((a : Int)).toNat = k2 := by omega
                        have pa2 : (0 : Int) ≤ (a : Int) := by omega
                        have ba2 : (a : Int) < (n : Int) := by omega
                        have ra2 : IntKind.i64.wrap ((a : Int)) = (a : Int) := by rw [IntKind.wrap_i64]; omega
                        clear hk1 hk2
                        go_wp2_with fail
                        go_big_region_o
                        clear c1 c2 c4 f1 f2 ea1 ea2 pa1 pa2 ba1 ba2 ra1 ra2
                        generalize ((w6.setCell ⟨blk, off + k1, none⟩ (.int .i64 y)).setCell ⟨blk, off + k2, none⟩ (.int .i64 x)).drew = w7 at SN ⊢
                        go_wp2
                        go_ret2
                        exact ⟨by first | (rw [HRES.out]; done) | (rw [HRES.out]; rfl), by rw [HRES.out]; exact SN.out⟩
          · have hijz2 : ¬ (i : Int) ≤ (j : Int) := by omega
            have hdz2 : decide ((i : Int) ≤ (j : Int)) = false := decide_eq_false hijz2
            have hjs : scanDown (fun x => !ltN L x dk[a]!) dk i j = j := by
              cases j with
              | zero => rfl
              | succ q => exact dn2_stop (Or.inl hij2)
            have HJ : Hid (scanDown (fun x => !ltN L x dk[a]!) dk i j0 = j) := by show _ = _; rw [← HSD.out, hjs]
            have hgt : (j : Int) < (i : Int) := by omega
            clear HSD hjs
            go_wp2_with fail
            go_big_region_o
            have SM : Hid (SW eN w0 blk off dk wr.drew) := SK.out.drew
            clear SK
            generalize wr.drew = w6 at SM ⊢
            have HRES : Hid (partition (ltN L) d a b pv = (j, true, swp dk j a)) := by show _ = _; rw [pt_end (i2 := i) (j2 := j) HD0.out (by rw [← HIJ.out.1, ← HIJ.out.2]; exact HI.out) (by rw [← HIJ.out.1]; exact HJ.out) (by omega)]
            clear HI HJ HD0
            go_wp2_with fail
            obtain ⟨x, y, u, c1, c2, f1, f2, c3, S3'⟩ := HC.out.swap SM.out (by have := hs.out.2; omega) (j) (a) (by omega) (by omega)
            obtain ⟨k1, hk1⟩ : ∃ q, q = j := ⟨_, rfl⟩
            obtain ⟨k2, hk2⟩ : ∃ q, q = a := ⟨_, rfl⟩
            have SN : Hid (SW eN w0 blk off (swp (dk) (j) (a)) ((w6.setCell ⟨blk, off + k1, none⟩ (.int .i64 y)).setCell ⟨blk, off + k2, none⟩ (.int .i64 x)).drew) := by rw [hk1, hk2]; exact S3'
            have c4 : (w6.setCell ⟨blk, off + k1, none⟩ (.int .i64 y)).cell? ⟨blk, off + k2, none⟩ = some (.int .i64 u) := by rw [hk1, hk2]; exact c3
            rw [← hk1] at c1 f1
            rw [← hk2] at c2 f2
            clear S3' SM c3
            have ea1 : ((j : Int)).toNat = k1 := by omega
            have pa1 : (0 : Int) ≤ (j : Int) := by omega
            have ba1 : (j : Int) < (n : Int) := by omega
            have ra1 : IntKind.i64.wrap ((j : Int)) = (j : Int) := by rw [IntKind.wrap_i64]; omega
            have ea2 : ((a : Int)).toNat = k2 := by omega
            have pa2 : (0 : Int) ≤ (a : Int) := by omega
            have ba2 : (a : Int) < (n : Int) := by omega
            have ra2 : IntKind.i64.wrap ((a : Int)) = (a : Int) := by rw [IntKind.wrap_i64]; omega
            clear hk1 hk2
            go_wp2_with fail
            go_big_region_o
            clear c1 c2 c4 f1 f2 ea1 ea2 pa1 pa2 ba1 ba2 ra1 ra2
            generalize ((w6.setCell ⟨blk, off + k1, none⟩ (.int .i64 y)).setCell ⟨blk, off + k2, none⟩ (.int .i64 x)).drew = w7 at SN ⊢
            go_wp2
            go_ret2
            exact ⟨by first | (rw [HRES.out]; done) | (rw [HRES.out]; rfl), by rw [HRES.out]; exact SN.out⟩
    · have hijz : ¬ (i : Int) ≤ (j0 : Int) := by omega
      have hdz : decide ((i : Int) ≤ (j0 : Int)) = false := decide_eq_false hijz
      have HI : Hid (scanUp (fun x => ltN L x dk[a]!) dk j0 i0 = i) := by show _ = _; rw [← HSU.out, su_stop (p := (fun x => ltN L x dk[a]!)) (Or.inl hij)]
      clear HSU
      go_wp2_with fail
      go_big_region_o
      have SJ : Hid (SW eN w0 blk off dk wr.drew) := SI.out.drew
      clear SI
      generalize wr.drew = w2 at SJ ⊢
      go_upto_region 5 with fail
      go_loopw [13] (fun vj wr => ∃ j : Nat, vj = .int .i64 (j : Int) ∧ j ≤ j0 ∧ a ≤ j ∧ Hid (SW eN w0 blk off dk wr) ∧ Hid (scanDown (fun x => !ltN L x dk[a]!) dk i j = scanDown (fun x => !ltN L x dk[a]!) dk i j0)) (fun vj _ => (intOf vj).toNat)
      case atStart => exact ⟨j0, rfl, Nat.le_refl _, hj0, SJ, rfl⟩
      case round =>
        clear SJ
        obtain ⟨j, rfl, hj2, hj3, SK, HSD⟩ := hrel
        by_cases hij2 : i ≤ j
        · exfalso; omega
        · have hijz2 : ¬ (i : Int) ≤ (j : Int) := by omega
          have hdz2 : decide ((i : Int) ≤ (j : Int)) = false := decide_eq_false hijz2
          have hjs : scanDown (fun x => !ltN L x dk[a]!) dk i j = j := by
            cases j with
            | zero => rfl
            | succ q => exact dn2_stop (Or.inl hij2)
          have HJ : Hid (scanDown (fun x => !ltN L x dk[a]!) dk i j0 = j) := by show _ = _; rw [← HSD.out, hjs]
          have hgt : (j : Int) < (i : Int) := by omega
          clear HSD hjs
          go_wp2_with fail
          go_big_region_o
          have SM : Hid (SW eN w0 blk off dk wr.drew) := SK.out.drew
          clear SK
          generalize wr.drew = w6 at SM ⊢
          have HRES : Hid (partition (ltN L) d a b pv = (j, true, swp dk j a)) := by show _ = _; rw [pt_end (i2 := i) (j2 := j) HD0.out (by rw [← HIJ.out.1, ← HIJ.out.2]; exact HI.out) (by rw [← HIJ.out.1]; exact HJ.out) (by omega)]
          clear HI HJ HD0
          go_wp2_with fail
          obtain ⟨x, y, u, c1, c2, f1, f2, c3, S3'⟩ := HC.out.swap SM.out (by have := hs.out.2; omega) (j) (a) (by omega) (by omega)
          obtain ⟨k1, hk1⟩ : ∃ q, q = j := ⟨_, rfl⟩
          obtain ⟨k2, hk2⟩ : ∃ q, q = a := ⟨_, rfl⟩
          have SN : Hid (SW eN w0 blk off (swp (dk) (j) (a)) ((w6.setCell ⟨blk, off + k1, none⟩ (.int .i64 y)).setCell ⟨blk, off + k2, none⟩ (.int .i64 x)).drew) := by rw [hk1, hk2]; exact S3'
          have c4 : (w6.setCell ⟨blk, off + k1, none⟩ (.int .i64 y)).cell? ⟨blk, off + k2, none⟩ = some (.int .i64 u) := by rw [hk1, hk2]; exact c3
          rw [← hk1] at c1 f1
          rw [← hk2] at c2 f2
          clear S3' SM c3
          have ea1 : ((j : Int)).toNat = k1 := by omega
          have pa1 : (0 : Int) ≤ (j : Int) := by omega
          have ba1 : (j : Int) < (n : Int) := by omega
          have ra1 : IntKind.i64.wrap ((j : Int)) = (j : Int) := by rw [IntKind.wrap_i64]; omega
          have ea2 : ((a : Int)).toNat = k2 := by omega
          have pa2 : (0 : Int) ≤ (a : Int) := by omega
          have ba2 : (a : Int) < (n : Int) := by omega
          have ra2 : IntKind.i64.wrap ((a : Int)) = (a : Int) := by rw [IntKind.wrap_i64]; omega
          clear hk1 hk2
          go_wp2_with fail
          go_big_region_o
          clear c1 c2 c4 f1 f2 ea1 ea2 pa1 pa2 ba1 ba2 ra1 ra2
          generalize ((w6.setCell ⟨blk, off + k1, none⟩ (.int .i64 y)).setCell ⟨blk, off + k2, none⟩ (.int .i64 x)).drew = w7 at SN ⊢
          go_wp2
          go_ret2
          exact ⟨by first | (rw [HRES.out]; done) | (rw [HRES.out]; rfl), by rw [HRES.out]; exact SN.out⟩
end Go.Proofs.Ytbdloehdhdifpaa
