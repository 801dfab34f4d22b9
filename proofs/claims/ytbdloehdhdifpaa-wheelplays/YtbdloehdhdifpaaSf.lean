/- The insertion sort that gives up, by the order of a wheel. -/
import Derived.Test.YtbdloehdhdifpaaWf
namespace Go.Proofs.Ytbdloehdhdifpaa
open Go.Shelf Go.RowKit Go.Maps Go.Lib Go.Sort Go.Proofs
set_option maxRecDepth 100000
set_option linter.unusedVariables false
set_option linter.unusedSimpArgs false

section
variable {lt : Nm → Nm → Bool} {a b i j : Nat} {d : Array Nm}
theorem ss_go (h : i < b) (hl : lt d[i]! d[i - 1]! = false) : scanSorted lt d b i = scanSorted lt d b (i + 1) := by
  conv => lhs; unfold scanSorted
  rw [if_pos]
  simp [h, hl]
theorem ss_stop (h : ¬ i < b ∨ lt d[i]! d[i - 1]! = true) : scanSorted lt d b i = i := by
  unfold scanSorted
  rw [if_neg]
  rcases h with h | h
  · simp [h]
  · simp [h]
theorem dn_stop (h : lt d[j + 1]! d[j]! = false) : shiftDown lt (j + 1) d = d := by
  unfold shiftDown
  rw [if_pos]
  simp [h]
theorem dn_go (h : lt d[j + 1]! d[j]! = true) : shiftDown lt (j + 1) d = shiftDown lt j (swp d (j + 1) j) := by
  conv => lhs; unfold shiftDown
  rw [if_neg]
  simp [h]
theorem up_no (h : ¬ j < b) : shiftUp lt b j d = d := by
  unfold shiftUp
  rw [if_neg h]
theorem up_stop (h : j < b) (hl : lt d[j]! d[j - 1]! = false) : shiftUp lt b j d = d := by
  unfold shiftUp
  rw [if_pos h, if_pos]
  simp [hl]
theorem up_go (h : j < b) (hl : lt d[j]! d[j - 1]! = true) : shiftUp lt b j d = shiftUp lt b (j + 1) (swp d j (j - 1)) := by
  conv => lhs; unfold shiftUp
  rw [if_pos h, if_neg]
  simp [hl]
theorem pi_zero : partialIns lt a b 0 i d = (d, false) := rfl
theorem pi_true {s : Nat} (h : scanSorted lt d b i = b) : partialIns lt a b (s + 1) i d = (d, true) := by
  unfold partialIns
  simp [h]
theorem pi_false {s : Nat} (h : scanSorted lt d b i ≠ b) (hl : b - a < 50) : partialIns lt a b (s + 1) i d = (d, false) := by
  unfold partialIns
  simp [h, hl]
theorem pi_go {s I : Nat} {d2 d3 : Array Nm} (hI : scanSorted lt d b i = I) (h : I ≠ b) (hl : ¬ b - a < 50) (h2 : d2 = if I - a ≥ 2 then shiftDown lt (I - 1) (swp d I (I - 1)) else swp d I (I - 1)) (h3 : d3 = if b - I ≥ 2 then shiftUp lt b (I + 1) d2 else d2) : partialIns lt a b (s + 1) i d = partialIns lt a b s I d3 := by
  conv => lhs; unfold partialIns
  simp only [hI]
  rw [if_neg h, if_neg hl, ← h2, ← h3]
end
set_option maxHeartbeats 8000000 in
theorem part_ins {w0 : World} {B M blk off : Nat} {now : Int} {L : List Tm} {d0 : Array Nm} (C : Sx w0 B M blk off now L d0) (cap : Nat) (d : Array Nm) (w : World) (S : SW eN w0 blk off d w) (n : Nat) (hs : Hid (d.size = n ∧ d0.size = n)) (a b : Nat) (hab : a + 8 ≤ b) (hb : b ≤ n) (hz : n < 1000000) :
    Calls Try.prog 38 #[.slice (some ⟨blk, off, none⟩) n cap, .int .i64 (a : Int), .int .i64 (b : Int), .func (.func 28) #[.pointer (some ⟨B, 0, none⟩)] #[]] w fun e w' => e = .returned (.bool (partialInsertionSort (ltN L) d a b).2) ∧ SW eN w0 blk off (partialInsertionSort (ltN L) d a b).1 w' := by
  have mixed : Try.prog.follows .mixedOrders = true := by kernel_rfl
  have HC : Hid (Sx w0 B M blk off now L d0) := C
  have HS : Hid (SW eN w0 blk off d w) := S
  clear C S
  go_enter Try.func38, Try.ntmps38
  go_wp2
  go_loopw [9, 10] (fun vi vt wr => ∃ (i t : Nat) (dk : Array Nm), vi = .int .i64 (i : Int) ∧ vt = .int .i64 (t : Int) ∧ a < i ∧ i ≤ b ∧ t ≤ 5 ∧ dk.size = n ∧ Hid (SW eN w0 blk off dk wr) ∧ Hid (partialIns (ltN L) a b (5 - t) i dk = partialInsertionSort (ltN L) d a b)) (fun _ vt _ => 5 - (intOf vt).toNat)
  case atStart => exact ⟨a + 1, 0, d, by simp, rfl, by omega, by omega, by omega, hs.out.1, HS, rfl⟩
  case round =>
    clear HS
    obtain ⟨i0, t, dk, rfl, rfl, hi0, hi1, ht, hsk, SQ, HP⟩ := hrel
    by_cases ht5 : t < 5
    rotate_left
    · have htz : ¬ (t : Int) < 5 := by omega
      have ht9 : t = 5 := by omega
      have HRES : Hid (partialInsertionSort (ltN L) d a b = (dk, false)) := by show _ = _; rw [← HP.out, ht9]; rfl
      clear ht9
      go_wp2
      go_ret
      exact ⟨by first | (rw [HRES.out]; done) | (rw [HRES.out]; rfl), by rw [HRES.out]; exact SQ.out⟩
    have htz : (t : Int) < 5 := by omega
    obtain ⟨s, hs5⟩ : ∃ s, 5 - t = s + 1 := ⟨4 - t, by omega⟩
    have HS5 : Hid (5 - t = s + 1) := hs5
    clear hs5
    go_upto_region 5 with fail
    go_loopw [9] (fun vi wr => ∃ i : Nat, vi = .int .i64 (i : Int) ∧ a < i ∧ i ≤ b ∧ Hid (SW eN w0 blk off dk wr) ∧ Hid (scanSorted (ltN L) dk b i = scanSorted (ltN L) dk b i0)) (fun vi _ => b - (intOf vi).toNat)
    case atStart => exact ⟨i0, rfl, hi0, hi1, SQ, rfl⟩
    case round =>
      clear SQ
      obtain ⟨i, rfl, hi2, hi3, SI, HSC⟩ := hrel
      by_cases hib : i < b
      · have hibz : (i : Int) < (b : Int) := by omega
        obtain ⟨ip, rfl⟩ : ∃ q, i = q + 1 := ⟨i - 1, by omega⟩
        have eI : ((ip + 1 : Nat) : Int) = (ip : Int) + 1 := by omega
        have hibz' : (ip : Int) + 1 < (b : Int) := by omega
        obtain ⟨x, y, r, cx, cy, hc, hd⟩ := HC.out.test SI.out (by have := hs.out.2; omega) (ip + 1) (ip) (by omega) (by omega)
        obtain ⟨k1, hk1⟩ : ∃ q, q = ip + 1 := ⟨_, rfl⟩
        obtain ⟨k2, hk2⟩ : ∃ q, q = ip := ⟨_, rfl⟩
        rw [← hk1] at cx
        rw [← hk2] at cy
        have ea1 : ((ip : Int) + 1).toNat = k1 := by omega
        have pa1 : (0 : Int) ≤ (ip : Int) + 1 := by omega
        have ba1 : (ip : Int) + 1 < (n : Int) := by omega
        have ra1 : IntKind.i64.wrap ((ip : Int) + 1) = (ip : Int) + 1 := by rw [IntKind.wrap_i64]; omega
        have ea2 : ((ip : Int)).toNat = k2 := by omega
        have pa2 : (0 : Int) ≤ (ip : Int) := by omega
        have ba2 : (ip : Int) < (n : Int) := by omega
        have ra2 : IntKind.i64.wrap ((ip : Int)) = (ip : Int) := by rw [IntKind.wrap_i64]; omega
        cases hlv : ltN L dk[ip + 1]! dk[ip]! with
        | false =>
          rw [hlv] at hd
          have hr0 : ¬ r < 0 := of_decide_eq_false hd
          clear hk1 hk2
          go_wp2_with fail
          go_quiet_grown ((go_at_call 28; refine Calls.grown_of (hc _ _)))
          have SJ : Hid (SW eN w0 blk off (dk) (grow (wr.drewN nq) osq)) := SI.out.grown nq osq
          clear cx cy hc SI
          generalize grow (wr.drewN nq) osq = w2 at SJ ⊢
          clear nq osq hr0 hd ea1 ea2 pa1 pa2 ba1 ba2 ra1 ra2
          go_wp2
          go_roundw
          case rel => exact ⟨ip + 1 + 1, by simp, by omega, by omega, SJ, (show Hid _ from by show _ = _; rw [← HSC.out, ss_go hib hlv])⟩
          case measure => (simp [intOf]; try omega)
        | true =>
          rw [hlv] at hd
          have hr0 : r < 0 := of_decide_eq_true hd
          clear hk1 hk2
          go_wp2_with fail
          go_quiet_grown ((go_at_call 28; refine Calls.grown_of (hc _ _)))
          have SJ : Hid (SW eN w0 blk off (dk) (grow (wr.drewN nq) osq)) := SI.out.grown nq osq
          clear cx cy hc SI
          generalize grow (wr.drewN nq) osq = w2 at SJ ⊢
          clear nq osq hr0 hd ea1 ea2 pa1 pa2 ba1 ba2 ra1 ra2
          have hI : scanSorted (ltN L) dk b i0 = ip + 1 := by rw [← HSC.out, ss_stop (Or.inr hlv)]
          clear HSC
          have hne : ((ip : Int) + 1 == (b : Int)) = false := beq_eq_false_iff_ne.2 (by omega)
          by_cases h50 : b - a < 50
          · have h50z : (b : Int) - (a : Int) < 50 := by omega
            have hres : partialInsertionSort (ltN L) d a b = (dk, false) := by rw [← HP.out, HS5.out]; exact pi_false (by rw [hI]; omega) h50
            have HRES : Hid _ := hres
            clear hres
            go_wp2
            go_ret
            exact ⟨by first | (rw [HRES.out]; done) | (rw [HRES.out]; rfl), by rw [HRES.out]; exact SJ.out⟩
          · have h50z : ¬ (b : Int) - (a : Int) < 50 := by omega
            have HI : Hid (scanSorted (ltN L) dk b i0 = ip + 1) := hI
            clear hI
            go_wp2_with fail
            obtain ⟨x, y, u, c1, c2, f1, f2, c3, S3'⟩ := HC.out.swap SJ.out (by have := hs.out.2; omega) (ip + 1) (ip) (by omega) (by omega)
            obtain ⟨k1, hk1⟩ : ∃ q, q = ip + 1 := ⟨_, rfl⟩
            obtain ⟨k2, hk2⟩ : ∃ q, q = ip := ⟨_, rfl⟩
            have ST : Hid (SW eN w0 blk off (swp (dk) (ip + 1) (ip)) ((w2.setCell ⟨blk, off + k1, none⟩ (.int .i64 y)).setCell ⟨blk, off + k2, none⟩ (.int .i64 x)).drew) := by rw [hk1, hk2]; exact S3'
            have c4 : (w2.setCell ⟨blk, off + k1, none⟩ (.int .i64 y)).cell? ⟨blk, off + k2, none⟩ = some (.int .i64 u) := by rw [hk1, hk2]; exact c3
            rw [← hk1] at c1 f1
            rw [← hk2] at c2 f2
            clear S3' SJ c3
            have ea1 : ((ip : Int) + 1).toNat = k1 := by omega
            have pa1 : (0 : Int) ≤ (ip : Int) + 1 := by omega
            have ba1 : (ip : Int) + 1 < (n : Int) := by omega
            have ra1 : IntKind.i64.wrap ((ip : Int) + 1) = (ip : Int) + 1 := by rw [IntKind.wrap_i64]; omega
            have ea2 : ((ip : Int)).toNat = k2 := by omega
            have pa2 : (0 : Int) ≤ (ip : Int) := by omega
            have ba2 : (ip : Int) < (n : Int) := by omega
            have ra2 : IntKind.i64.wrap ((ip : Int)) = (ip : Int) := by rw [IntKind.wrap_i64]; omega
            clear hk1 hk2
            go_wp2_with fail
            go_big_region_o
            clear c1 c2 c4 f1 f2 ea1 ea2 pa1 pa2 ba1 ba2 ra1 ra2
            generalize ((w2.setCell ⟨blk, off + k1, none⟩ (.int .i64 y)).setCell ⟨blk, off + k2, none⟩ (.int .i64 x)).drew = w3 at ST ⊢
            have hs1 : (swp dk (ip + 1) ip).size = n := by rw [swp_size]; exact hsk
            obtain ⟨d1, hd1⟩ : ∃ x, x = swp dk (ip + 1) ip := ⟨_, rfl⟩
            rw [← hd1] at ST hs1
            have HD1 : Hid (d1 = swp dk (ip + 1) ip) := hd1
            clear hd1
            go_upto_if 65 with fail
            go_cut [11] from 62 to 101 (fun c1 W => ∃ d2 : Array Nm, d2.size = n ∧ Hid (SW eN w0 blk off d2 W) ∧ Hid (d2 = if ip + 1 - a ≥ 2 then shiftDown (ltN L) ip d1 else d1))
            case first =>
              by_cases h2 : ip + 1 - a ≥ 2
              · have h2z : (2 : Int) ≤ (ip : Int) + 1 - (a : Int) := by omega
                rw [show decide ((ip : Int) + 1 - (a : Int) ≥ 2) = true from decide_eq_true h2z]
                go_wp2
                go_loopw [11] (fun vj wr => ∃ (j : Nat) (dj : Array Nm), vj = .int .i64 (j : Int) ∧ j ≤ ip ∧ dj.size = n ∧ Hid (SW eN w0 blk off dj wr) ∧ Hid (shiftDown (ltN L) j dj = shiftDown (ltN L) ip d1)) (fun vj _ => (intOf vj).toNat)
                case atStart => exact ⟨ip, d1, by first | rfl | simp | (congr 1; omega), Nat.le_refl _, hs1, ST, rfl⟩
                case round =>
                  clear ST
                  obtain ⟨j, dj, rfl, hji, hsj, SX, HX⟩ := hrel
                  cases j with
                  | zero =>
                    have e0 : ((0 : Nat) : Int) = 0 := rfl
                    go_wp2
                    go_meet
                    case rel => exact ⟨dj, hsj, SX, (show Hid _ from by show _ = _; rw [if_pos h2, ← HX.out]; rfl)⟩
                  | succ jp =>
                    have eJ : ((jp + 1 : Nat) : Int) = (jp : Int) + 1 := by omega
                    have hj1 : (1 : Int) ≤ (jp : Int) + 1 := by omega
                    go_wp2_with fail
                    obtain ⟨x, y, r, cx, cy, hc, hd⟩ := HC.out.test SX.out (by have := hs.out.2; omega) (jp + 1) (jp) (by omega) (by omega)
                    obtain ⟨k1, hk1⟩ : ∃ q, q = jp + 1 := ⟨_, rfl⟩
                    obtain ⟨k2, hk2⟩ : ∃ q, q = jp := ⟨_, rfl⟩
                    rw [← hk1] at cx
                    rw [← hk2] at cy
                    have ea1 : ((jp : Int) + 1).toNat = k1 := by omega
                    have pa1 : (0 : Int) ≤ (jp : Int) + 1 := by omega
                    have ba1 : (jp : Int) + 1 < (n : Int) := by omega
                    have ra1 : IntKind.i64.wrap ((jp : Int) + 1) = (jp : Int) + 1 := by rw [IntKind.wrap_i64]; omega
                    have ea2 : ((jp : Int)).toNat = k2 := by omega
                    have pa2 : (0 : Int) ≤ (jp : Int) := by omega
                    have ba2 : (jp : Int) < (n : Int) := by omega
                    have ra2 : IntKind.i64.wrap ((jp : Int)) = (jp : Int) := by rw [IntKind.wrap_i64]; omega
                    cases hlv2 : ltN L dj[jp + 1]! dj[jp]! with
                    | false =>
                      rw [hlv2] at hd
                      have hr0 : ¬ r < 0 := of_decide_eq_false hd
                      clear hk1 hk2
                      go_wp2_with fail
                      go_quiet_grown ((go_at_call 28; refine Calls.grown_of (hc _ _)))
                      have SY : Hid (SW eN w0 blk off (dj) (grow (wr.drewN nq) osq)) := SX.out.grown nq osq
                      clear cx cy hc SX
                      generalize grow (wr.drewN nq) osq = w4 at SY ⊢
                      clear nq osq hr0 hd ea1 ea2 pa1 pa2 ba1 ba2 ra1 ra2
                      go_wp2
                      go_meet
                      case rel => exact ⟨dj, hsj, SY, (show Hid _ from by show _ = _; rw [if_pos h2, ← HX.out, dn_stop hlv2])⟩
                    | true =>
                      rw [hlv2] at hd
                      have hr0 : r < 0 := of_decide_eq_true hd
                      clear hk1 hk2
                      go_wp2_with fail
                      go_quiet_grown ((go_at_call 28; refine Calls.grown_of (hc _ _)))
                      have SY : Hid (SW eN w0 blk off (dj) (grow (wr.drewN nq) osq)) := SX.out.grown nq osq
                      clear cx cy hc SX
                      generalize grow (wr.drewN nq) osq = w4 at SY ⊢
                      clear nq osq hr0 hd ea1 ea2 pa1 pa2 ba1 ba2 ra1 ra2
                      obtain ⟨x, y, u, c1, c2, f1, f2, c3, S3'⟩ := HC.out.swap SY.out (by have := hs.out.2; omega) (jp + 1) (jp) (by omega) (by omega)
                      obtain ⟨k1, hk1⟩ : ∃ q, q = jp + 1 := ⟨_, rfl⟩
                      obtain ⟨k2, hk2⟩ : ∃ q, q = jp := ⟨_, rfl⟩
                      have SZ : Hid (SW eN w0 blk off (swp (dj) (jp + 1) (jp)) ((w4.setCell ⟨blk, off + k1, none⟩ (.int .i64 y)).setCell ⟨blk, off + k2, none⟩ (.int .i64 x)).drew) := by rw [hk1, hk2]; exact S3'
                      have c4 : (w4.setCell ⟨blk, off + k1, none⟩ (.int .i64 y)).cell? ⟨blk, off + k2, none⟩ = some (.int .i64 u) := by rw [hk1, hk2]; exact c3
                      rw [← hk1] at c1 f1
                      rw [← hk2] at c2 f2
                      clear S3' SY c3
                      have ea1 : ((jp : Int) + 1).toNat = k1 := by omega
                      have pa1 : (0 : Int) ≤ (jp : Int) + 1 := by omega
                      have ba1 : (jp : Int) + 1 < (n : Int) := by omega
                      have ra1 : IntKind.i64.wrap ((jp : Int) + 1) = (jp : Int) + 1 := by rw [IntKind.wrap_i64]; omega
                      have ea2 : ((jp : Int)).toNat = k2 := by omega
                      have pa2 : (0 : Int) ≤ (jp : Int) := by omega
                      have ba2 : (jp : Int) < (n : Int) := by omega
                      have ra2 : IntKind.i64.wrap ((jp : Int)) = (jp : Int) := by rw [IntKind.wrap_i64]; omega
                      clear hk1 hk2
                      go_wp2_with fail
                      go_big_region_o
                      clear c1 c2 c4 f1 f2 ea1 ea2 pa1 pa2 ba1 ba2 ra1 ra2
                      generalize ((w4.setCell ⟨blk, off + k1, none⟩ (.int .i64 y)).setCell ⟨blk, off + k2, none⟩ (.int .i64 x)).drew = w5 at SZ ⊢
                      go_wp2
                      go_roundw
                      case rel => exact ⟨jp, swp dj (jp + 1) jp, by first | rfl | simp, by omega, by rw [swp_size]; exact hsj, SZ, (show Hid _ from by show _ = _; rw [← HX.out, dn_go hlv2])⟩
                      case measure => (simp [intOf]; try omega)
              · have h2z : ¬ (2 : Int) ≤ (ip : Int) + 1 - (a : Int) := by omega
                go_wp2
                go_meet
                case rel => exact ⟨d1, hs1, ST, (show Hid _ from by show _ = _; rw [if_neg h2])⟩
            case rest =>
              clear ST
              obtain ⟨d2, hs2, S2, HD2⟩ := hcut
              obtain ⟨wz, hwz⟩ : ∃ x, x = wc := ⟨wc, rfl⟩
              subst hwz
              by_cases h2 : b - (ip + 1) ≥ 2
              · have h2z : (2 : Int) ≤ (b : Int) - ((ip : Int) + 1) := by omega
                go_wp2
                go_loopw [12] (fun vj wr => ∃ (j : Nat) (dj : Array Nm), vj = .int .i64 (j : Int) ∧ ip + 1 < j ∧ j ≤ b ∧ dj.size = n ∧ Hid (SW eN w0 blk off dj wr) ∧ Hid (shiftUp (ltN L) b j dj = shiftUp (ltN L) b (ip + 1 + 1) d2)) (fun vj _ => b - (intOf vj).toNat)
                case atStart => exact ⟨ip + 1 + 1, d2, by first | rfl | simp | (congr 1; omega), by omega, by omega, hs2, S2, rfl⟩
                case round =>
                  clear S2
                  obtain ⟨j, dj, rfl, hj0, hjb, hsj, SX, HX⟩ := hrel
                  by_cases hjl : j < b
                  · obtain ⟨jp, rfl⟩ : ∃ q, j = q + 1 := ⟨j - 1, by omega⟩
                    have eJ : ((jp + 1 : Nat) : Int) = (jp : Int) + 1 := by omega
                    have hj1 : (jp : Int) + 1 < (b : Int) := by omega
                    go_wp2_with fail
                    obtain ⟨x, y, r, cx, cy, hc, hd⟩ := HC.out.test SX.out (by have := hs.out.2; omega) (jp + 1) (jp) (by omega) (by omega)
                    obtain ⟨k1, hk1⟩ : ∃ q, q = jp + 1 := ⟨_, rfl⟩
                    obtain ⟨k2, hk2⟩ : ∃ q, q = jp := ⟨_, rfl⟩
                    rw [← hk1] at cx
                    rw [← hk2] at cy
                    have ea1 : ((jp : Int) + 1).toNat = k1 := by omega
                    have pa1 : (0 : Int) ≤ (jp : Int) + 1 := by omega
                    have ba1 : (jp : Int) + 1 < (n : Int) := by omega
                    have ra1 : IntKind.i64.wrap ((jp : Int) + 1) = (jp : Int) + 1 := by rw [IntKind.wrap_i64]; omega
                    have ea2 : ((jp : Int)).toNat = k2 := by omega
                    have pa2 : (0 : Int) ≤ (jp : Int) := by omega
                    have ba2 : (jp : Int) < (n : Int) := by omega
                    have ra2 : IntKind.i64.wrap ((jp : Int)) = (jp : Int) := by rw [IntKind.wrap_i64]; omega
                    cases hlv2 : ltN L dj[jp + 1]! dj[jp]! with
                    | false =>
                      rw [hlv2] at hd
                      have hr0 : ¬ r < 0 := of_decide_eq_false hd
                      clear hk1 hk2
                      go_wp2_with fail
                      go_quiet_grown ((go_at_call 28; refine Calls.grown_of (hc _ _)))
                      have SY : Hid (SW eN w0 blk off (dj) (grow (wr.drewN nq) osq)) := SX.out.grown nq osq
                      clear cx cy hc SX
                      generalize grow (wr.drewN nq) osq = w4 at SY ⊢
                      clear nq osq hr0 hd ea1 ea2 pa1 pa2 ba1 ba2 ra1 ra2
                      have HE3 : Hid (dj = if b - (ip + 1) ≥ 2 then shiftUp (ltN L) b (ip + 1 + 1) d2 else d2) := by show _ = _; rw [if_pos h2, ← HX.out, up_stop hjl hlv2]
                      have HP3 : Hid (partialIns (ltN L) a b (5 - (t + 1)) (ip + 1) dj = partialInsertionSort (ltN L) d a b) := by
                        show _ = _
                        rw [← HP.out, HS5.out, show 5 - (t + 1) = s by have := HS5.out; omega]
                        refine (pi_go (d2 := d2) HI.out (by omega) h50 ?_ HE3.out).symm
                        rw [HD2.out, HD1.out]
                        rfl
                      clear HP HI HD1 HD2 HE3
                      go_wp2
                      go_roundw
                      case rel => exact ⟨ip + 1, t + 1, dj, by first | rfl | simp, by first | rfl | simp, by omega, by omega, by omega, hsj, SY, HP3⟩
                      case measure => (simp [intOf]; try omega)
                    | true =>
                      rw [hlv2] at hd
                      have hr0 : r < 0 := of_decide_eq_true hd
                      clear hk1 hk2
                      go_wp2_with fail
                      go_quiet_grown ((go_at_call 28; refine Calls.grown_of (hc _ _)))
                      have SY : Hid (SW eN w0 blk off (dj) (grow (wr.drewN nq) osq)) := SX.out.grown nq osq
                      clear cx cy hc SX
                      generalize grow (wr.drewN nq) osq = w4 at SY ⊢
                      clear nq osq hr0 hd ea1 ea2 pa1 pa2 ba1 ba2 ra1 ra2
                      obtain ⟨x, y, u, c1, c2, f1, f2, c3, S3'⟩ := HC.out.swap SY.out (by have := hs.out.2; omega) (jp + 1) (jp) (by omega) (by omega)
                      obtain ⟨k1, hk1⟩ : ∃ q, q = jp + 1 := ⟨_, rfl⟩
                      obtain ⟨k2, hk2⟩ : ∃ q, q = jp := ⟨_, rfl⟩
                      have SZ : Hid (SW eN w0 blk off (swp (dj) (jp + 1) (jp)) ((w4.setCell ⟨blk, off + k1, none⟩ (.int .i64 y)).setCell ⟨blk, off + k2, none⟩ (.int .i64 x)).drew) := by rw [hk1, hk2]; exact S3'
                      have c4 : (w4.setCell ⟨blk, off + k1, none⟩ (.int .i64 y)).cell? ⟨blk, off + k2, none⟩ = some (.int .i64 u) := by rw [hk1, hk2]; exact c3
                      rw [← hk1] at c1 f1
                      rw [← hk2] at c2 f2
                      clear S3' SY c3
                      have ea1 : ((jp : Int) + 1).toNat = k1 := by omega
                      have pa1 : (0 : Int) ≤ (jp : Int) + 1 := by omega
                      have ba1 : (jp : Int) + 1 < (n : Int) := by omega
                      have ra1 : IntKind.i64.wrap ((jp : Int) + 1) = (jp : Int) + 1 := by rw [IntKind.wrap_i64]; omega
                      have ea2 : ((jp : Int)).toNat = k2 := by omega
                      have pa2 : (0 : Int) ≤ (jp : Int) := by omega
                      have ba2 : (jp : Int) < (n : Int) := by omega
                      have ra2 : IntKind.i64.wrap ((jp : Int)) = (jp : Int) := by rw [IntKind.wrap_i64]; omega
                      clear hk1 hk2
                      go_wp2_with fail
                      go_big_region_o
                      clear c1 c2 c4 f1 f2 ea1 ea2 pa1 pa2 ba1 ba2 ra1 ra2
                      generalize ((w4.setCell ⟨blk, off + k1, none⟩ (.int .i64 y)).setCell ⟨blk, off + k2, none⟩ (.int .i64 x)).drew = w5 at SZ ⊢
                      go_wp2
                      go_roundw
                      case rel => exact ⟨jp + 1 + 1, swp dj (jp + 1) jp, by first | rfl | simp, by omega, by omega, by rw [swp_size]; exact hsj, SZ, (show Hid _ from by show _ = _; rw [← HX.out, up_go hjl hlv2]; rfl)⟩
                      case measure => (simp [intOf]; try omega)
                  · have hj1 : ¬ (j : Int) < (b : Int) := by omega
                    have SY := SX
                    clear SX
                    have HE3 : Hid (dj = if b - (ip + 1) ≥ 2 then shiftUp (ltN L) b (ip + 1 + 1) d2 else d2) := by show _ = _; rw [if_pos h2, ← HX.out, up_no hjl]
                    have HP3 : Hid (partialIns (ltN L) a b (5 - (t + 1)) (ip + 1) dj = partialInsertionSort (ltN L) d a b) := by
                      show _ = _
                      rw [← HP.out, HS5.out, show 5 - (t + 1) = s by have := HS5.out; omega]
                      refine (pi_go (d2 := d2) HI.out (by omega) h50 ?_ HE3.out).symm
                      rw [HD2.out, HD1.out]
                      rfl
                    clear HP HI HD1 HD2 HE3
                    go_wp2
                    go_roundw
                    case rel => exact ⟨ip + 1, t + 1, dj, by first | rfl | simp, by first | rfl | simp, by omega, by omega, by omega, hsj, SY, HP3⟩
                    case measure => (simp [intOf]; try omega)
              · have h2z : ¬ (2 : Int) ≤ (b : Int) - ((ip : Int) + 1) := by omega
                have SY := S2
                clear S2
                obtain ⟨dj, hdj⟩ : ∃ x, x = d2 := ⟨d2, rfl⟩
                have hsj : dj.size = n := by rw [hdj]; exact hs2
                rw [← hdj] at SY
                have HE3 : Hid (dj = if b - (ip + 1) ≥ 2 then shiftUp (ltN L) b (ip + 1 + 1) d2 else d2) := by show _ = _; rw [if_neg h2]; exact hdj
                clear hdj
                have HP3 : Hid (partialIns (ltN L) a b (5 - (t + 1)) (ip + 1) dj = partialInsertionSort (ltN L) d a b) := by
                  show _ = _
                  rw [← HP.out, HS5.out, show 5 - (t + 1) = s by have := HS5.out; omega]
                  refine (pi_go (d2 := d2) HI.out (by omega) h50 ?_ HE3.out).symm
                  rw [HD2.out, HD1.out]
                  rfl
                clear HP HI HD1 HD2 HE3
                go_wp2
                go_roundw
                case rel => exact ⟨ip + 1, t + 1, dj, by first | rfl | simp, by first | rfl | simp, by omega, by omega, by omega, hsj, SY, HP3⟩
                case measure => (simp [intOf]; try omega)
      · have hibz : ¬ (i : Int) < (b : Int) := by omega
        have hie : i = b := by omega
        have hres : partialInsertionSort (ltN L) d a b = (dk, true) := by rw [← HP.out, HS5.out]; exact pi_true (by rw [← HSC.out, ss_stop (Or.inl hib), hie])
        have HRES : Hid _ := hres
        have heq : ((i : Int) == (b : Int)) = true := by rw [beq_iff_eq]; omega
        have hdz : decide ((i : Int) < (b : Int)) = false := decide_eq_false hibz
        clear hres hie HSC HP
        go_wp2_with fail
        go_big_region_o
        have SJ : Hid (SW eN w0 blk off dk wr.drew) := SI.out.drew
        clear SI
        generalize wr.drew = w2 at SJ ⊢
        go_wp2
        go_ret
        exact ⟨by first | (rw [HRES.out]; done) | (rw [HRES.out]; rfl), by rw [HRES.out]; exact SJ.out⟩
end Go.Proofs.Ytbdloehdhdifpaa
