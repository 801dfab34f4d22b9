/- Parting off what is equal, by the order of a wheel. -/
import Derived.Test.YtbdloehdhdifpaaWf
namespace Go.Proofs.Ytbdloehdhdifpaa
open Go.Shelf Go.RowKit Go.Maps Go.Lib Go.Sort Go.Proofs
set_option maxRecDepth 100000
set_option linter.unusedVariables false
set_option linter.unusedSimpArgs false

section
variable {p : Nm → Bool} {d : Array Nm} {i j : Nat}
theorem su_go (h : i ≤ j) (hp : p d[i]! = true) : scanUp p d j i = scanUp p d j (i + 1) := by
  conv => lhs; unfold scanUp
  rw [if_pos]
  simp [h, hp]
theorem su_stop (h : ¬ i ≤ j ∨ p d[i]! = false) : scanUp p d j i = i := by
  unfold scanUp
  rw [if_neg]
  rcases h with h | h
  · simp [h]
  · simp [h]
theorem dn2_go (h : i ≤ j + 1) (hp : p d[j + 1]! = true) : scanDown p d i (j + 1) = scanDown p d i j := by
  conv => lhs; unfold scanDown
  rw [if_pos]
  simp [h, hp]
theorem dn2_stop (h : ¬ i ≤ j + 1 ∨ p d[j + 1]! = false) : scanDown p d i (j + 1) = j + 1 := by
  unfold scanDown
  rw [if_neg]
  rcases h with h | h
  · simp [h]
  · simp [h]
end
section
variable {lt : Nm → Nm → Bool} {a i j i2 j2 : Nat} {d : Array Nm}
theorem pe_end (hi : scanUp (fun x => !lt d[a]! x) d j i = i2) (hj : scanDown (fun x => lt d[a]! x) d i2 j = j2) (h : i2 > j2) : partEqLoop lt a i j d = (i2, d) := by
  unfold partEqLoop
  simp only [hi, hj]
  rw [if_pos h]
theorem pe_go (hi : scanUp (fun x => !lt d[a]! x) d j i = i2) (hj : scanDown (fun x => lt d[a]! x) d i2 j = j2) (h : ¬ i2 > j2) (h1 : i ≤ i2) (h2 : j2 ≤ j) (h3 : 1 ≤ j2) : partEqLoop lt a i j d = partEqLoop lt a (i2 + 1) (j2 - 1) (swp d i2 j2) := by
  conv => lhs; unfold partEqLoop
  simp only [hi, hj]
  rw [if_neg h, dif_pos (by omega)]
end
set_option maxHeartbeats 8000000 in
theorem parteq_any {w0 : World} {B M blk off : Nat} {now : Int} {L : List Tm} {d0 : Array Nm} (C : Sx w0 B M blk off now L d0) (cap : Nat) (d : Array Nm) (w : World) (S : SW eN w0 blk off d w) (n : Nat) (hs : Hid (d.size = n ∧ d0.size = n)) (a b pv : Nat) (hp1 : a ≤ pv) (hp2 : pv < b) (hb : b ≤ n) (hz : n < 1000000) :
    Calls Try.prog 39 #[.slice (some ⟨blk, off, none⟩) n cap, .int .i64 (a : Int), .int .i64 (b : Int), .int .i64 (pv : Int), .func (.func 28) #[.pointer (some ⟨B, 0, none⟩)] #[]] w fun e w' => e = .returned (.int .i64 ((partitionEqual (ltN L) d a b pv).1 : Int)) ∧ SW eN w0 blk off (partitionEqual (ltN L) d a b pv).2 w' := by
  have mixed : Try.prog.follows .mixedOrders = true := by kernel_rfl
  have HC : Hid (Sx w0 B M blk off now L d0) := C
  have HS : Hid (SW eN w0 blk off d w) := S
  clear C S
  have hsd := hs.out.1
  have hbz : IntKind.i64.wrap ((b : Int) - 1) = (b : Int) - 1 := by rw [IntKind.wrap_i64]; omega
  obtain ⟨b1, hb1⟩ : ∃ q, q = b - 1 := ⟨_, rfl⟩
  have hb2 : (b : Int) - 1 = (b1 : Int) := by omega
  have hb3 : b1 + 1 = b := by omega
  have HB3 : Hid (b1 + 1 = b) := hb3
  have HD : Hid (partEqLoop (ltN L) a (a + 1) b1 (swp d a pv) = partitionEqual (ltN L) d a b pv) := by show _ = _; unfold partitionEqual; rw [hb1]
  clear hb1 hb3
  go_enter Try.func39, Try.ntmps39
  go_wp2_with fail
  obtain ⟨x, y, u, c1, c2, f1, f2, c3, S3'⟩ := HC.out.swap HS.out (by have := hs.out.2; omega) (a) (pv) (by omega) (by omega)
  obtain ⟨k1, hk1⟩ : ∃ q, q = a := ⟨_, rfl⟩
  obtain ⟨k2, hk2⟩ : ∃ q, q = pv := ⟨_, rfl⟩
  have ST : Hid (SW eN w0 blk off (swp (d) (a) (pv)) ((w.setCell ⟨blk, off + k1, none⟩ (.int .i64 y)).setCell ⟨blk, off + k2, none⟩ (.int .i64 x)).drew) := by rw [hk1, hk2]; exact S3'
  have c4 : (w.setCell ⟨blk, off + k1, none⟩ (.int .i64 y)).cell? ⟨blk, off + k2, none⟩ = some (.int .i64 u) := by rw [hk1, hk2]; exact c3
  rw [← hk1] at c1 f1
  rw [← hk2] at c2 f2
  clear S3' HS c3
  have ea1 : ((a : Int)).toNat = k1 := by omega
  have pa1 : (0 : Int) ≤ (a : Int) := by omega
  have ba1 : (a : Int) < (n : Int) := by omega
  have ra1 : IntKind.i64.wrap ((a : Int)) = (a : Int) := by rw [IntKind.wrap_i64]; omega
  have ea2 : ((pv : Int)).toNat = k2 := by omega
  have pa2 : (0 : Int) ≤ (pv : Int) := by omega
  have ba2 : (pv : Int) < (n : Int) := by omega
  have ra2 : IntKind.i64.wrap ((pv : Int)) = (pv : Int) := by rw [IntKind.wrap_i64]; omega
  clear hk1 hk2
  go_wp2_with fail
  go_big_region_o
  clear c1 c2 c4 f1 f2 ea1 ea2 pa1 pa2 ba1 ba2 ra1 ra2
  generalize ((w.setCell ⟨blk, off + k1, none⟩ (.int .i64 y)).setCell ⟨blk, off + k2, none⟩ (.int .i64 x)).drew = w1 at ST ⊢
  have hs1 : (swp d a pv).size = n := by rw [swp_size]; exact hsd
  clear hsd
  go_wp2
  go_loopw [11, 12] (fun vi vj wr => ∃ (i j : Nat) (dk : Array Nm), vi = .int .i64 (i : Int) ∧ vj = .int .i64 (j : Int) ∧ a < i ∧ i ≤ b ∧ a ≤ j ∧ j < b ∧ dk.size = n ∧ Hid (SW eN w0 blk off dk wr) ∧ Hid (partEqLoop (ltN L) a i j dk = partitionEqual (ltN L) d a b pv)) (fun _ vj _ => (intOf vj).toNat)
  case atStart => exact ⟨a + 1, b1, _, by simp, by first | rfl | simp | (congr 1; omega), by omega, by omega, by have := HB3.out; omega, by have := HB3.out; omega, hs1, ST, HD⟩
  case round =>
    clear ST HD hs1
    obtain ⟨i0, j0, dk, rfl, rfl, hi0, hi1, hj0, hj1, hsk, SQ, HD⟩ := hrel
    go_upto_region 3 with fail
    go_loopw [11] (fun vi wr => ∃ i : Nat, vi = .int .i64 (i : Int) ∧ i0 ≤ i ∧ (i ≤ j0 + 1 ∨ i = i0) ∧ Hid (SW eN w0 blk off dk wr) ∧ Hid (scanUp (fun x => !ltN L dk[a]! x) dk j0 i = scanUp (fun x => !ltN L dk[a]! x) dk j0 i0)) (fun vi _ => j0 + 1 - (intOf vi).toNat)
    case atStart => exact ⟨i0, rfl, Nat.le_refl _, Or.inr rfl, SQ, rfl⟩
    case round =>
      clear SQ
      obtain ⟨i, rfl, hi2, hi3, SI, HSU⟩ := hrel
      by_cases hij : i ≤ j0
      · have hijz : (i : Int) ≤ (j0 : Int) := by omega
        obtain ⟨x, y, r, cx, cy, hc, hd⟩ := HC.out.test SI.out (by have := hs.out.2; omega) (a) (i) (by omega) (by omega)
        obtain ⟨k1, hk1⟩ : ∃ q, q = a := ⟨_, rfl⟩
        obtain ⟨k2, hk2⟩ : ∃ q, q = i := ⟨_, rfl⟩
        rw [← hk1] at cx
        rw [← hk2] at cy
        have ea1 : ((a : Int)).toNat = k1 := by omega
        have pa1 : (0 : Int) ≤ (a : Int) := by omega
        have ba1 : (a : Int) < (n : Int) := by omega
        have ra1 : IntKind.i64.wrap ((a : Int)) = (a : Int) := by rw [IntKind.wrap_i64]; omega
        have ea2 : ((i : Int)).toNat = k2 := by omega
        have pa2 : (0 : Int) ≤ (i : Int) := by omega
        have ba2 : (i : Int) < (n : Int) := by omega
        have ra2 : IntKind.i64.wrap ((i : Int)) = (i : Int) := by rw [IntKind.wrap_i64]; omega
        cases hlv : ltN L dk[a]! dk[i]! with
        | false =>
          rw [hlv] at hd
          have hr0 : ¬ r < 0 := of_decide_eq_false hd
          clear hk1 hk2
          go_wp2_with fail
          go_quiet_grown ((go_at_call 28; refine Calls.grown_of (hc _ _)))
          have SJ : Hid (SW eN w0 blk off (dk) (grow (wr.drewN nq) osq)) := SI.out.grown nq osq
          clear cx cy hc SI
          generalize grow (wr.drewN nq) osq = w2 at SJ ⊢
          clear nq osq hr0 hd ea1 ea2 pa1 pa2 ba1 ba2 ra1 ra2
          go_wp2
          go_roundw
          case rel => exact ⟨i + 1, by simp, by omega, by omega, SJ, (show Hid _ from by show _ = _; rw [← HSU.out, su_go hij (by show (!ltN L dk[a]! dk[i]!) = true; rw [hlv]; rfl)])⟩
          case measure => (simp [intOf]; try omega)
        | true =>
          rw [hlv] at hd
          have hr0 : r < 0 := of_decide_eq_true hd
          clear hk1 hk2
          go_wp2_with fail
          go_quiet_grown ((go_at_call 28; refine Calls.grown_of (hc _ _)))
          have SJ : Hid (SW eN w0 blk off (dk) (grow (wr.drewN nq) osq)) := SI.out.grown nq osq
          clear cx cy hc SI
          generalize grow (wr.drewN nq) osq = w2 at SJ ⊢
          clear nq osq hr0 hd ea1 ea2 pa1 pa2 ba1 ba2 ra1 ra2
          have HI : Hid (scanUp (fun x => !ltN L dk[a]! x) dk j0 i0 = i) := by show _ = _; rw [← HSU.out, su_stop (Or.inr (by show (!ltN L dk[a]! dk[i]!) = false; rw [hlv]; rfl))]
          clear HSU hlv
          go_upto_region 5 with fail
          go_loopw [12] (fun vj wr => ∃ j : Nat, vj = .int .i64 (j : Int) ∧ j ≤ j0 ∧ a ≤ j ∧ Hid (SW eN w0 blk off dk wr) ∧ Hid (scanDown (fun x => ltN L dk[a]! x) dk i j = scanDown (fun x => ltN L dk[a]! x) dk i j0)) (fun vj _ => (intOf vj).toNat)
          case atStart => exact ⟨j0, rfl, Nat.le_refl _, hj0, SJ, rfl⟩
          case round =>
            clear SJ
            obtain ⟨j, rfl, hj2, hj3, SK, HSD⟩ := hrel
            by_cases hij2 : i ≤ j
            · have hijz2 : (i : Int) ≤ (j : Int) := by omega
              obtain ⟨jp, rfl⟩ : ∃ q, j = q + 1 := ⟨j - 1, by omega⟩
              have eJ : ((jp + 1 : Nat) : Int) = (jp : Int) + 1 := by omega
              have hijz3 : (i : Int) ≤ (jp : Int) + 1 := by omega
              obtain ⟨x, y, r, cx, cy, hc, hd⟩ := HC.out.test SK.out (by have := hs.out.2; omega) (a) (jp + 1) (by omega) (by omega)
              obtain ⟨k1, hk1⟩ : ∃ q, q = a := ⟨_, rfl⟩
              obtain ⟨k2, hk2⟩ : ∃ q, q = jp + 1 := ⟨_, rfl⟩
              rw [← hk1] at cx
              rw [← hk2] at cy
              have ea1 : ((a : Int)).toNat = k1 := by omega
              have pa1 : (0 : Int) ≤ (a : Int) := by omega
              have ba1 : (a : Int) < (n : Int) := by omega
              have ra1 : IntKind.i64.wrap ((a : Int)) = (a : Int) := by rw [IntKind.wrap_i64]; omega
              have ea2 : ((jp : Int) + 1).toNat = k2 := by omega
              have pa2 : (0 : Int) ≤ (jp : Int) + 1 := by omega
              have ba2 : (jp : Int) + 1 < (n : Int) := by omega
              have ra2 : IntKind.i64.wrap ((jp : Int) + 1) = (jp : Int) + 1 := by rw [IntKind.wrap_i64]; omega
              cases hlv : ltN L dk[a]! dk[jp + 1]! with
              | true =>
                rw [hlv] at hd
                have hr0 : r < 0 := of_decide_eq_true hd
                clear hk1 hk2
                go_wp2_with fail
                go_quiet_grown ((go_at_call 28; refine Calls.grown_of (hc _ _)))
                have SL2 : Hid (SW eN w0 blk off (dk) (grow (wr.drewN nq) osq)) := SK.out.grown nq osq
                clear cx cy hc SK
                generalize grow (wr.drewN nq) osq = w4 at SL2 ⊢
                clear nq osq hr0 hd ea1 ea2 pa1 pa2 ba1 ba2 ra1 ra2
                go_wp2
                go_roundw
                case rel => exact ⟨jp, by first | rfl | simp, by omega, by omega, SL2, (show Hid _ from by show _ = _; rw [← HSD.out, dn2_go hij2 hlv])⟩
                case measure => (simp [intOf]; try omega)
              | false =>
                rw [hlv] at hd
                have hr0 : ¬ r < 0 := of_decide_eq_false hd
                clear hk1 hk2
                go_wp2_with fail
                go_quiet_grown ((go_at_call 28; refine Calls.grown_of (hc _ _)))
                have SL2 : Hid (SW eN w0 blk off (dk) (grow (wr.drewN nq) osq)) := SK.out.grown nq osq
                clear cx cy hc SK
                generalize grow (wr.drewN nq) osq = w4 at SL2 ⊢
                clear nq osq hr0 hd ea1 ea2 pa1 pa2 ba1 ba2 ra1 ra2
                have HJ : Hid (scanDown (fun x => ltN L dk[a]! x) dk i j0 = jp + 1) := by show _ = _; rw [← HSD.out, dn2_stop (Or.inr hlv)]
                clear HSD hlv
                have hgt : ¬ ((jp : Int) + 1 < (i : Int)) := by omega
                have HD3 : Hid (partEqLoop (ltN L) a (i + 1) jp (swp dk i (jp + 1)) = partitionEqual (ltN L) d a b pv) := by show _ = _; rw [← HD.out, pe_go HI.out HJ.out (by omega) hi2 hj2 (by omega)]; rfl
                clear HD HI HJ
                go_wp2_with fail
                obtain ⟨x, y, u, c1, c2, f1, f2, c3, S3'⟩ := HC.out.swap SL2.out (by have := hs.out.2; omega) (i) (jp + 1) (by omega) (by omega)
                obtain ⟨k1, hk1⟩ : ∃ q, q = i := ⟨_, rfl⟩
                obtain ⟨k2, hk2⟩ : ∃ q, q = jp + 1 := ⟨_, rfl⟩
                have ST : Hid (SW eN w0 blk off (swp (dk) (i) (jp + 1)) ((w4.setCell ⟨blk, off + k1, none⟩ (.int .i64 y)).setCell ⟨blk, off + k2, none⟩ (.int .i64 x)).drew) := by rw [hk1, hk2]; exact S3'
                have c4 : (w4.setCell ⟨blk, off + k1, none⟩ (.int .i64 y)).cell? ⟨blk, off + k2, none⟩ = some (.int .i64 u) := by rw [hk1, hk2]; exact c3
                rw [← hk1] at c1 f1
                rw [← hk2] at c2 f2
                clear S3' SL2 c3
                have ea1 : ((i : Int)).toNat = k1 := by omega
                have pa1 : (0 : Int) ≤ (i : Int) := by omega
                have ba1 : (i : Int) < (n : Int) := by omega
                have ra1 : IntKind.i64.wrap ((i : Int)) = (i : Int) := by rw [IntKind.wrap_i64]; omega
                have ea2 : ((jp : Int) + 1).toNat = k2 := by omega
                have pa2 : (0 : Int) ≤ (jp : Int) + 1 := by omega
                have ba2 : (jp : Int) + 1 < (n : Int) := by omega
                have ra2 : IntKind.i64.wrap ((jp : Int) + 1) = (jp : Int) + 1 := by rw [IntKind.wrap_i64]; omega
                clear hk1 hk2
                go_wp2_with fail
                go_big_region_o
                clear c1 c2 c4 f1 f2 ea1 ea2 pa1 pa2 ba1 ba2 ra1 ra2
                generalize ((w4.setCell ⟨blk, off + k1, none⟩ (.int .i64 y)).setCell ⟨blk, off + k2, none⟩ (.int .i64 x)).drew = w5 at ST ⊢
                go_wp2
                go_roundw
                case rel => exact ⟨i + 1, jp, _, by first | rfl | simp, by first | rfl | simp, by omega, by omega, by omega, by omega, by rw [swp_size]; exact hsk, ST, HD3⟩
                case measure => (simp [intOf]; try omega)
            · have hijz2 : ¬ (i : Int) ≤ (j : Int) := by omega
              have hdz2 : decide ((i : Int) ≤ (j : Int)) = false := decide_eq_false hijz2
              have hjs : scanDown (fun x => ltN L dk[a]! x) dk i j = j := by
                cases j with
                | zero => rfl
                | succ q => exact dn2_stop (Or.inl hij2)
              have HJ : Hid (scanDown (fun x => ltN L dk[a]! x) dk i j0 = j) := by show _ = _; rw [← HSD.out, hjs]
              have HRES : Hid (partitionEqual (ltN L) d a b pv = (i, dk)) := by show _ = _; rw [← HD.out, pe_end HI.out HJ.out (by omega)]
              have hgt : (j : Int) < (i : Int) := by omega
              clear HSD hjs HD HI HJ
              go_wp2_with fail
              go_big_region_o
              have SM : Hid (SW eN w0 blk off dk wr.drew) := SK.out.drew
              clear SK
              generalize wr.drew = w6 at SM ⊢
              go_wp2
              go_ret
              exact ⟨by first | (rw [HRES.out]; done) | (rw [HRES.out]; rfl), by rw [HRES.out]; exact SM.out⟩
      · have hijz : ¬ (i : Int) ≤ (j0 : Int) := by omega
        have hdz : decide ((i : Int) ≤ (j0 : Int)) = false := decide_eq_false hijz
        have HI : Hid (scanUp (fun x => !ltN L dk[a]! x) dk j0 i0 = i) := by show _ = _; rw [← HSU.out, su_stop (Or.inl hij)]
        clear HSU
        go_wp2_with fail
        go_big_region_o
        have SJ : Hid (SW eN w0 blk off dk wr.drew) := SI.out.drew
        clear SI
        generalize wr.drew = w2 at SJ ⊢
        go_upto_region 5 with fail
        go_loopw [12] (fun vj wr => ∃ j : Nat, vj = .int .i64 (j : Int) ∧ j ≤ j0 ∧ a ≤ j ∧ Hid (SW eN w0 blk off dk wr) ∧ Hid (scanDown (fun x => ltN L dk[a]! x) dk i j = scanDown (fun x => ltN L dk[a]! x) dk i j0)) (fun vj _ => (intOf vj).toNat)
        case atStart => exact ⟨j0, rfl, Nat.le_refl _, hj0, SJ, rfl⟩
        case round =>
          clear SJ
          obtain ⟨j, rfl, hj2, hj3, SK, HSD⟩ := hrel
          by_cases hij2 : i ≤ j
          · exfalso; omega
          · have hijz2 : ¬ (i : Int) ≤ (j : Int) := by omega
            have hdz2 : decide ((i : Int) ≤ (j : Int)) = false := decide_eq_false hijz2
            have hjs : scanDown (fun x => ltN L dk[a]! x) dk i j = j := by
              cases j with
              | zero => rfl
              | succ q => exact dn2_stop (Or.inl hij2)
            have HJ : Hid (scanDown (fun x => ltN L dk[a]! x) dk i j0 = j) := by show _ = _; rw [← HSD.out, hjs]
            have HRES : Hid (partitionEqual (ltN L) d a b pv = (i, dk)) := by show _ = _; rw [← HD.out, pe_end HI.out HJ.out (by omega)]
            have hgt : (j : Int) < (i : Int) := by omega
            clear HSD hjs HD HI HJ
            go_wp2_with fail
            go_big_region_o
            have SM : Hid (SW eN w0 blk off dk wr.drew) := SK.out.drew
            clear SK
            generalize wr.drew = w6 at SM ⊢
            go_wp2
            go_ret
            exact ⟨by first | (rw [HRES.out]; done) | (rw [HRES.out]; rfl), by rw [HRES.out]; exact SM.out⟩
end Go.Proofs.Ytbdloehdhdifpaa
