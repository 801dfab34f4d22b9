/- SortFunc by the order of a wheel. -/
import Derived.Test.YtbdloehdhdifpaaSb
import Derived.Test.YtbdloehdhdifpaaSd
import Derived.Test.YtbdloehdhdifpaaSe
import Derived.Test.YtbdloehdhdifpaaSf
import Derived.Test.YtbdloehdhdifpaaSi
import Derived.Test.YtbdloehdhdifpaaWg
namespace Go.Proofs.Ytbdloehdhdifpaa
open Go.Shelf Go.RowKit Go.Maps Go.Lib Go.Sort Go.Proofs
set_option maxRecDepth 100000
set_option linter.unusedVariables false
set_option linter.unusedSimpArgs false

abbrev Lo (lt : Nm → Nm → Bool) (a b : Nat) (d : Array Nm) : Prop := Go.Sort.Below lt a b d
theorem perm_sz {a b : Nat} {d d' : Array Nm} {n : Nat} (h : PermIn a b d d') (hd : d.size = n) : d'.size = n := by rw [h.1]; exact hd
set_option maxHeartbeats 16000000 in
theorem pdq_all {w0 : World} {B M blk off : Nat} {now : Int} {L : List Tm} {d0 : Array Nm} (C : Sx w0 B M blk off now L d0) (cap n : Nat) (hd0 : d0.size = n) (hz : n < 1000000) : ∀ (m a b lim : Nat) (d : Array Nm) (w : World), b - a ≤ m → a ≤ b → b ≤ n → lim < 1000 → d.size = n → Lo (ltN L) a b d → SW eN w0 blk off d w →
    Calls Try.prog 29 #[.slice (some ⟨blk, off, none⟩) n cap, .int .i64 (a : Int), .int .i64 (b : Int), .int .i64 (lim : Int), .func (.func 28) #[.pointer (some ⟨B, 0, none⟩)] #[]] w fun e w' => e = .returned (.tuple #[]) ∧ ∃ d', PermIn a b d d' ∧ SortedIn (ltN L) a b d' ∧ SW eN w0 blk off d' w' := by
  intro m
  induction m using Nat.strongRecOn with
  | _ m ih =>
  intro a b lim d w hm hab hb hlim hsd hB S
  have mixed : Try.prog.follows .mixedOrders = true := by kernel_rfl
  have HC : Hid (Sx w0 B M blk off now L d0) := C
  have HIH : Hid (∀ m', m' < m → ∀ (a b lim : Nat) (d : Array Nm) (w : World), b - a ≤ m' → a ≤ b → b ≤ n → lim < 1000 → d.size = n → Lo (ltN L) a b d → SW eN w0 blk off d w →
    Calls Try.prog 29 #[.slice (some ⟨blk, off, none⟩) n cap, .int .i64 (a : Int), .int .i64 (b : Int), .int .i64 (lim : Int), .func (.func 28) #[.pointer (some ⟨B, 0, none⟩)] #[]] w fun e w' => e = .returned (.tuple #[]) ∧ ∃ d', PermIn a b d d' ∧ SortedIn (ltN L) a b d' ∧ SW eN w0 blk off d' w') := ih
  have HS : Hid (SW eN w0 blk off d w) := S
  have HB : Hid (Lo (ltN L) a b d) := hB
  have HN : Hid (d.size = n ∧ d0.size = n) := ⟨hsd, hd0⟩
  have swo := swoN L
  clear C S hB hsd hd0 ih
  have hs := HN
  go_enter Try.func29, Try.ntmps29
  go_wp2
  go_loopw [1, 2, 3, 10, 11] (fun va vb vl v10 v11 wr => ∃ (a1 b1 l1 : Nat) (wb wp : Bool) (dk : Array Nm), va = .int .i64 (a1 : Int) ∧ vb = .int .i64 (b1 : Int) ∧ vl = .int .i64 (l1 : Int) ∧ v10 = .bool wb ∧ v11 = .bool wp ∧ a ≤ a1 ∧ a1 ≤ b1 ∧ b1 ≤ b ∧ l1 < 1000 ∧ dk.size = n ∧ Hid (SW eN w0 blk off dk wr) ∧ Hid (Lo (ltN L) a1 b1 dk) ∧ Hid (∀ R, PermIn a1 b1 dk R → SortedIn (ltN L) a1 b1 R → PermIn a b d R ∧ SortedIn (ltN L) a b R)) (fun va vb _ _ _ _ => (intOf vb).toNat - (intOf va).toNat)
  case atStart => exact ⟨a, b, lim, true, true, d, rfl, rfl, rfl, rfl, rfl, Nat.le_refl _, hab, Nat.le_refl _, hlim, HN.out.1, HS, HB, (show Hid _ from fun R h1 h2 => ⟨h1, h2⟩)⟩
  case round =>
    clear HS HB
    obtain ⟨a1, b1, l1, wb, wp, dk, rfl, rfl, rfl, rfl, rfl, ha1, hab1, hb1, hl1, hsk, SQ, HB, HK⟩ := hrel
    have hsk2 : Hid (dk.size = n ∧ d0.size = n) := ⟨hsk, HN.out.2⟩
    by_cases h12 : b1 - a1 ≤ 12
    · have h12z : (b1 : Int) - (a1 : Int) ≤ 12 := by omega
      -- @1
      go_wp2_with fail
      refine (ins_any HC.out cap dk wr SQ.out n hsk2 a1 b1 hab1 (by omega) hz).mono ?_
      rintro e w2 ⟨rfl, S2⟩
      obtain ⟨q1, q2⟩ := insertionSort_holds swo dk a1 b1 hab1 (by omega)
      obtain ⟨q3, q4⟩ := HK.out _ q1 q2
      go_wp2
      (try simp only [Exit.inBlock, Exit.then]); refine bodyPost_ret (results_none rfl _ _ _) rfl ?_
      exact ⟨rfl, _, q3, q4, S2⟩
      -- @/1
    have h12z : ¬ (b1 : Int) - (a1 : Int) ≤ 12 := by omega
    by_cases hl0 : l1 = 0
    · subst hl0
      -- @2
      go_wp2_with fail
      refine (heap_any HC.out cap dk wr SQ.out n hsk2 a1 b1 (by omega) (by omega) hz).mono ?_
      rintro e w2 ⟨rfl, S2⟩
      obtain ⟨q1, q2⟩ := heapSort_holds swo dk a1 b1 hab1 (by omega)
      obtain ⟨q3, q4⟩ := HK.out _ q1 q2
      go_wp2
      (try simp only [Exit.inBlock, Exit.then]); refine bodyPost_ret (results_none rfl _ _ _) rfl ?_
      exact ⟨rfl, _, q3, q4, S2⟩
      -- @/2
    have hl0z : ((l1 : Int) == 0) = false := beq_eq_false_iff_ne.2 (by omega)
    have hl0n : 1 ≤ l1 := by omega
    go_upto_if 39 with fail
    go_cut [3] from 38 to 47 (fun v3 W => ∃ (l2 : Nat) (d1 : Array Nm), v3 = .int .i64 (l2 : Int) ∧ l2 < 1000 ∧ d1.size = n ∧ Hid (SW eN w0 blk off d1 W) ∧ Hid (PermIn a1 b1 dk d1))
    case first =>
      -- @3
      cases wb with
      | true =>
        go_wp2
        go_meet
        case rel => exact ⟨l1, dk, rfl, hl1, hsk, SQ, permIn_refl _ _ _⟩
      | false =>
        go_wp2_with fail
        refine (break_any HC.out cap dk _ SQ.out n hsk2 a1 b1 (by omega) (by omega) hz).mono ?_
        rintro e w2 ⟨rfl, d1, q1, S2⟩
        obtain ⟨lp, rfl⟩ : ∃ q, l1 = q + 1 := ⟨l1 - 1, by omega⟩
        go_wp2
        go_meet
        case rel => exact ⟨lp, d1, by first | rfl | simp | (congr 1; omega), by omega, perm_sz q1 hsk, S2, q1⟩
      -- @/3
    case rest =>
    clear SQ
    obtain ⟨l2, d1, rfl, hl2, hs1, S1, HP1⟩ := hcut
    obtain ⟨wz1, hwz⟩ : ∃ x, x = wc := ⟨wc, rfl⟩
    subst hwz
    have hs1h : Hid (d1.size = n ∧ d0.size = n) := ⟨hs1, HN.out.2⟩
    go_wp2_with fail
    refine (pivot_any HC.out cap d1 _ S1.out n hs1h a1 b1 (by omega) (by omega) hz).mono ?_
    rintro e w3 ⟨pv0, h0, rfl, hp0, hp1, hh, S3⟩
    have S3h : Hid (SW eN w0 blk off d1 w3) := S3
    clear S3 S1
    go_upto_if 56 with fail
    go_cut [13, 14] from 55 to 68 (fun v13 v14 W => ∃ (pv : Nat) (h1 : Int) (d2 : Array Nm), v13 = .int .i64 (pv : Int) ∧ v14 = .int .i64 h1 ∧ a1 ≤ pv ∧ pv < b1 ∧ d2.size = n ∧ Hid (SW eN w0 blk off d2 W) ∧ Hid (PermIn a1 b1 dk d2))
    case first =>
      -- @4
      by_cases hh2 : h0 = 2
      · subst hh2
        go_wp2_with fail
        refine (rev_any HC.out cap d1 _ S3h.out n hs1h a1 b1 (by omega) (by omega) hz).mono ?_
        rintro e w4 ⟨rfl, S4⟩
        have q1 := reverseRange_holds d1 a1 b1 (by omega) (by omega)
        have q2 := permIn_trans _ _ _ _ _ HP1.out q1
        have e9 : ((b1 - 1 - (pv0 - a1) : Nat) : Int) = (b1 : Int) - 1 - ((pv0 : Int) - (a1 : Int)) := by omega
        have E9 : Hid _ := e9
        clear e9
        go_wp2
        go_meet
        case rel => exact ⟨b1 - 1 - (pv0 - a1), 1, _, by rw [E9.out], rfl, by omega, by omega, perm_sz q1 hs1, S4, q2⟩
      · have hh2z : (h0 == 2) = false := beq_eq_false_iff_ne.2 hh2
        go_wp2
        go_meet
        case rel => exact ⟨pv0, h0, d1, rfl, rfl, hp0, hp1, hs1, S3h, HP1⟩
      -- @/4
    case rest =>
    clear S3h HP1
    obtain ⟨pv, h1, d2, rfl, rfl, hpv0, hpv1, hs2, S2, HP2⟩ := hcut
    obtain ⟨wz2, hwz⟩ : ∃ x, x = wc := ⟨wc, rfl⟩
    subst hwz
    have hs2h : Hid (d2.size = n ∧ d0.size = n) := ⟨hs2, HN.out.2⟩
    have HB2 : Hid (Lo (ltN L) a1 b1 d2) := Go.Sort.Below.perm HB.out (by omega) HP2.out
    go_upto_region 15 with fail
    go_cut [75] from 68 to 75 (fun v W => v = .bool (wb && (wp && (h1 == 1))) ∧ wz2 = W)
    case first =>
      -- @5
      cases wb with
      | false =>
        go_wp2
        go_meet
        case rel => exact ⟨rfl, rfl⟩
      | true =>
        cases wp with
        | false =>
          go_wp2
          go_meet
          case rel => exact ⟨rfl, rfl⟩
        | true =>
          go_wp2
          go_meet
          case rel => exact ⟨rfl, rfl⟩
      -- @/5
    case rest =>
    obtain ⟨rfl, rfl⟩ := hcut
    go_upto_if 75 with fail
    go_cut [14] from 68 to 81 (fun v14 W => ∃ (d3 : Array Nm), d3.size = n ∧ Hid (SW eN w0 blk off d3 W) ∧ Hid (PermIn a1 b1 dk d3))
    case first =>
      -- @6
      cases hg : (wb && (wp && (h1 == 1))) with
      | false =>
        go_wp2
        go_meet
        case rel => exact ⟨d2, hs2, S2, HP2⟩
      | true =>
        clear hg
        have q1 := partialInsertionSort_holds swo d2 a1 b1 (by omega) (by omega) HB2.out
        have HQ : Hid _ := q1
        clear q1
        go_wp2_with fail
        refine (part_ins HC.out cap d2 _ S2.out n hs2h a1 b1 (by omega) (by omega) hz).mono ?_
        rintro e w4 ⟨rfl, S4⟩
        have q9 := HQ.out
        clear HQ
        obtain ⟨q1, q2⟩ := q9
        generalize partialInsertionSort (ltN L) d2 a1 b1 = rr at *
        obtain ⟨r1, r2⟩ := rr
        simp only at S4 q1 q2 ⊢
        have q3 := permIn_trans _ _ _ _ _ HP2.out q1
        cases r2 with
        | true =>
          obtain ⟨q4, q5⟩ := HK.out _ q3 (q2 rfl)
          clear q1 q2 q3
          go_wp2
          (try simp only [Exit.inBlock, Exit.then]); refine bodyPost_ret (results_none rfl _ _ _) rfl ?_
          exact ⟨rfl, _, q4, q5, S4⟩
        | false =>
          have hsr := perm_sz q1 hs2
          clear q1 q2
          go_wp2
          go_meet
          case rel => exact ⟨r1, hsr, S4, q3⟩
      -- @/6
    case rest =>
    clear S2 HP2 HB2 hs2 hs2h hs1 hs1h
    obtain ⟨d3, hs3, SD, HP3⟩ := hcut
    obtain ⟨wz3, hwz⟩ : ∃ x, x = wc := ⟨wc, rfl⟩
    subst hwz
    have hs3h : Hid (d3.size = n ∧ d0.size = n) := ⟨hs3, HN.out.2⟩
    have HB3 : Hid (Lo (ltN L) a1 b1 d3) := Go.Sort.Below.perm HB.out (by omega) HP3.out
    have HK3 : Hid (∀ R, PermIn a1 b1 d3 R → SortedIn (ltN L) a1 b1 R → PermIn a b d R ∧ SortedIn (ltN L) a b R) := fun R q1 q2 => HK.out R (permIn_trans _ _ _ _ _ HP3.out q1) q2
    clear HK HP3 HB
    obtain ⟨h, hhe⟩ : ∃ x, x = b1 - a1 := ⟨_, rfl⟩
    have hhz : (b1 : Int) - (a1 : Int) = (h : Int) := by omega
    have hh13 : 13 ≤ h := by omega
    have hhb : a1 + h = b1 := by omega
    have HHB : Hid (a1 + h = b1) := hhb
    clear hhb hhe
    rw [hhz]
    obtain ⟨q8, hq8⟩ : ∃ q, q = h / 8 := ⟨_, rfl⟩
    have hq1 : (h : Int).tdiv 8 = (q8 : Int) := by rw [Int.tdiv_eq_ediv_of_nonneg (by omega)]; omega
    have hq2 : (h : Int) / 8 = (q8 : Int) := by omega
    clear hq8
    by_cases ha0 : 0 < a1
    · obtain ⟨ap, rfl⟩ : ∃ q, a1 = q + 1 := ⟨a1 - 1, by omega⟩
      have eA : ((ap + 1 : Nat) : Int) = (ap : Int) + 1 := by omega
      have ha0z : (0 : Int) < (ap : Int) + 1 := by omega
      have ha0d : decide ((ap : Int) + 1 > 0) = true := decide_eq_true (by omega)
      obtain ⟨x, y, r, cx, cy, hc, hd⟩ := HC.out.test SD.out (by have := hs.out.2; omega) (ap) (pv) (by omega) (by omega)
      obtain ⟨k1, hk1⟩ : ∃ q, q = ap := ⟨_, rfl⟩
      obtain ⟨k2, hk2⟩ : ∃ q, q = pv := ⟨_, rfl⟩
      rw [← hk1] at cx
      rw [← hk2] at cy
      have ea1 : ((ap : Int)).toNat = k1 := by omega
      have pa1 : (0 : Int) ≤ (ap : Int) := by omega
      have ba1 : (ap : Int) < (n : Int) := by omega
      have ra1 : IntKind.i64.wrap ((ap : Int)) = (ap : Int) := by rw [IntKind.wrap_i64]; omega
      have ea2 : ((pv : Int)).toNat = k2 := by omega
      have pa2 : (0 : Int) ≤ (pv : Int) := by omega
      have ba2 : (pv : Int) < (n : Int) := by omega
      have ra2 : IntKind.i64.wrap ((pv : Int)) = (pv : Int) := by rw [IntKind.wrap_i64]; omega
      cases hlv : ltN L d3[ap]! d3[pv]! with
      | false =>
        rw [hlv] at hd
        have hr0 : ¬ r < 0 := of_decide_eq_false hd
        clear hk1 hk2
        go_wp2_with fail
        go_quiet_grown ((go_at_call 28; refine Calls.grown_of (hc _ _)))
        have SE : Hid (SW eN w0 blk off (d3) (grow (wz3.drewN nq) osq)) := SD.out.grown nq osq
        clear cx cy hc SD
        generalize grow (wz3.drewN nq) osq = w4 at SE ⊢
        clear nq osq hr0 hd ea1 ea2 pa1 pa2 ba1 ba2 ra1 ra2
        -- @8
        have hR := round_eq swo (partitionEqual_holds _) (mid := (partitionEqual (ltN L) d3 (ap + 1) b1 pv).1) (d4 := (partitionEqual (ltN L) d3 (ap + 1) b1 pv).2) (d3 := d3) (a := ap + 1) (b := b1) (pivot := pv) (by omega) hpv0 hpv1 (by omega) HB3.out (by rw [Nat.add_sub_cancel]; exact hlv) rfl
        have HR : Hid _ := hR
        clear hR
        go_wp2_with fail
        refine (parteq_any HC.out cap d3 _ SE.out n hs3h (ap + 1) b1 pv hpv0 hpv1 (by omega) hz).mono ?_
        rintro e w5 ⟨rfl, S5⟩
        obtain ⟨r1, r2, r3, r4, r5⟩ := HR.out
        have S5h : Hid _ := S5
        have HK5 : Hid (∀ R, PermIn (partitionEqual (ltN L) d3 (ap + 1) b1 pv).1 b1 (partitionEqual (ltN L) d3 (ap + 1) b1 pv).2 R → SortedIn (ltN L) (partitionEqual (ltN L) d3 (ap + 1) b1 pv).1 b1 R → PermIn a b d R ∧ SortedIn (ltN L) a b R) := fun R q1 q2 => HK3.out R (r5 R q1 q2).1 (r5 R q1 q2).2
        have HB5 : Hid _ := r4
        clear HR r4 r5 S5 SE HK3 HB3
        generalize partitionEqual (ltN L) d3 (ap + 1) b1 pv = PE at *
        obtain ⟨md, d5⟩ := PE
        simp only at r1 r2 r3 S5h HK5 HB5 ⊢
        go_wp2
        go_roundw
        case rel => exact ⟨md, b1, l2, wb, wp, d5, rfl, rfl, rfl, rfl, rfl, by omega, by omega, hb1, hl2, by rw [r3]; exact hs3, S5h, HB5, HK5⟩
        case measure => (simp [intOf]; try omega)
        -- @/8
      | true =>
        rw [hlv] at hd
        have hr0 : r < 0 := of_decide_eq_true hd
        clear hk1 hk2
        go_wp2_with fail
        go_quiet_grown ((go_at_call 28; refine Calls.grown_of (hc _ _)))
        have SE : Hid (SW eN w0 blk off (d3) (grow (wz3.drewN nq) osq)) := SD.out.grown nq osq
        clear cx cy hc SD
        generalize grow (wz3.drewN nq) osq = w4 at SE ⊢
        clear nq osq hr0 hd ea1 ea2 pa1 pa2 ba1 ba2 ra1 ra2
        clear hlv
        -- @9
        have hR := round_part swo (partition_holds _) (mid := (partition (ltN L) d3 (ap + 1) b1 pv).1) (ap := (partition (ltN L) d3 (ap + 1) b1 pv).2.1) (d4 := (partition (ltN L) d3 (ap + 1) b1 pv).2.2) (d3 := d3) (a := ap + 1) (b := b1) (pivot := pv) hpv0 hpv1 (by omega) HB3.out rfl
        have HR : Hid _ := hR
        clear hR
        go_wp2_with fail
        refine (partit_any HC.out cap d3 _ SE.out n hs3h (ap + 1) b1 pv hpv0 hpv1 (by omega) hz).mono ?_
        rintro e w5 ⟨rfl, S5⟩
        obtain ⟨r1, r2, r3, r4, r5, r6, r7⟩ := HR.out
        have S5h : Hid _ := S5
        have HL : Hid _ := r4
        have HRR : Hid _ := r5
        have HX6 : Hid _ := r6
        have HX7 : Hid _ := r7
        clear HR r4 r5 r6 r7 S5 SE HB3
        generalize partition (ltN L) d3 (ap + 1) b1 pv = PT at *
        obtain ⟨md, apd, d5⟩ := PT
        simp only at r1 r2 r3 S5h HL HRR HX6 HX7 ⊢
        have hs5 : d5.size = n := by rw [r3]; exact hs3
        by_cases hlr : md - (ap + 1) < b1 - md
        · have hlrz : (md : Int) - ((ap : Int) + 1) < (b1 : Int) - (md : Int) := by omega
          go_wp2_with fail
          refine (HIH.out (md - (ap + 1)) (by omega) (ap + 1) md l2 d5 w5 (Nat.le_refl _) r1 (by omega) hl2 hs5 HL.out S5h.out).mono ?_
          rintro e w6 ⟨rfl, d6, p1, p2, S6⟩
          obtain ⟨x1, x2⟩ := HX6.out d6 p1 p2
          have S6h : Hid _ := S6
          have HB6 : Hid _ := x1
          have HK6 : Hid (∀ R, PermIn (md + 1) b1 d6 R → SortedIn (ltN L) (md + 1) b1 R → PermIn a b d R ∧ SortedIn (ltN L) a b R) := fun R q1 q2 => HK3.out R (x2 R q1 q2).1 (x2 R q1 q2).2
          have hs6 := perm_sz p1 hs5
          clear x1 x2 p1 p2 S6 S5h HL HRR HX6 HX7 HK3
          go_wp2
          go_roundw
          case rel => exact ⟨md + 1, b1, l2, _, apd, d6, by first | rfl | simp, rfl, rfl, rfl, rfl, by omega, by omega, hb1, hl2, hs6, S6h, HB6, HK6⟩
          case measure => (simp [intOf]; try omega)
        · have hlrz : ¬ (md : Int) - ((ap : Int) + 1) < (b1 : Int) - (md : Int) := by omega
          have hih := fun (x : Int) (hx : x = ((md + 1 : Nat) : Int)) => (show Calls Try.prog 29 #[.slice (some ⟨blk, off, none⟩) n cap, .int .i64 x, .int .i64 (b1 : Int), .int .i64 (l2 : Int), .func (.func 28) #[.pointer (some ⟨B, 0, none⟩)] #[]] w5 fun e w' => e = .returned (.tuple #[]) ∧ ∃ d', PermIn (md + 1) b1 d5 d' ∧ SortedIn (ltN L) (md + 1) b1 d' ∧ SW eN w0 blk off d' w' from by subst hx; exact HIH.out (b1 - (md + 1)) (by omega) (md + 1) b1 l2 d5 w5 (Nat.le_refl _) (by omega) (by omega) hl2 hs5 HRR.out S5h.out)
          go_wp2_with fail
          refine (hih _ (by omega)).mono ?_
          rintro e w6 ⟨rfl, d6, p1, p2, S6⟩
          obtain ⟨x1, x2⟩ := HX7.out d6 p1 p2
          have S6h : Hid _ := S6
          have HB6 : Hid _ := x1
          have HK6 : Hid (∀ R, PermIn (ap + 1) md d6 R → SortedIn (ltN L) (ap + 1) md R → PermIn a b d R ∧ SortedIn (ltN L) a b R) := fun R q1 q2 => HK3.out R (x2 R q1 q2).1 (x2 R q1 q2).2
          have hs6 := perm_sz p1 hs5
          clear hih x1 x2 p1 p2 S6 S5h HL HRR HX6 HX7 HK3
          go_wp2
          go_roundw
          case rel => exact ⟨ap + 1, md, l2, _, apd, d6, by first | rfl | simp, rfl, rfl, rfl, rfl, by omega, by omega, by omega, hl2, hs6, S6h, HB6, HK6⟩
          case measure => (simp [intOf]; try omega)
        -- @/9
    · have ha0z : ¬ (0 : Int) < (a1 : Int) := by omega
      have ha0d : decide ((a1 : Int) > 0) = false := decide_eq_false ha0z
      have ha0n : ¬ (0 < a1) := ha0
      go_wp2_with fail
      go_big_region_o
      have SE : Hid (SW eN w0 blk off d3 wz3.drew) := SD.out.drew
      clear SD
      generalize wz3.drew = w4 at SE ⊢
      -- @10
      have hR := round_part swo (partition_holds _) (mid := (partition (ltN L) d3 a1 b1 pv).1) (ap := (partition (ltN L) d3 a1 b1 pv).2.1) (d4 := (partition (ltN L) d3 a1 b1 pv).2.2) (d3 := d3) (a := a1) (b := b1) (pivot := pv) hpv0 hpv1 (by omega) HB3.out rfl
      have HR : Hid _ := hR
      clear hR
      go_wp2_with fail
      refine (partit_any HC.out cap d3 _ SE.out n hs3h a1 b1 pv hpv0 hpv1 (by omega) hz).mono ?_
      rintro e w5 ⟨rfl, S5⟩
      obtain ⟨r1, r2, r3, r4, r5, r6, r7⟩ := HR.out
      have S5h : Hid _ := S5
      have HL : Hid _ := r4
      have HRR : Hid _ := r5
      have HX6 : Hid _ := r6
      have HX7 : Hid _ := r7
      clear HR r4 r5 r6 r7 S5 SE HB3
      generalize partition (ltN L) d3 a1 b1 pv = PT at *
      obtain ⟨md, apd, d5⟩ := PT
      simp only at r1 r2 r3 S5h HL HRR HX6 HX7 ⊢
      have hs5 : d5.size = n := by rw [r3]; exact hs3
      by_cases hlr : md - a1 < b1 - md
      · have hlrz : (md : Int) - (a1 : Int) < (b1 : Int) - (md : Int) := by omega
        go_wp2_with fail
        refine (HIH.out (md - a1) (by omega) a1 md l2 d5 w5 (Nat.le_refl _) r1 (by omega) hl2 hs5 HL.out S5h.out).mono ?_
        rintro e w6 ⟨rfl, d6, p1, p2, S6⟩
        obtain ⟨x1, x2⟩ := HX6.out d6 p1 p2
        have S6h : Hid _ := S6
        have HB6 : Hid _ := x1
        have HK6 : Hid (∀ R, PermIn (md + 1) b1 d6 R → SortedIn (ltN L) (md + 1) b1 R → PermIn a b d R ∧ SortedIn (ltN L) a b R) := fun R q1 q2 => HK3.out R (x2 R q1 q2).1 (x2 R q1 q2).2
        have hs6 := perm_sz p1 hs5
        clear x1 x2 p1 p2 S6 S5h HL HRR HX6 HX7 HK3
        go_wp2
        go_roundw
        case rel => exact ⟨md + 1, b1, l2, _, apd, d6, by first | rfl | simp, rfl, rfl, rfl, rfl, by omega, by omega, hb1, hl2, hs6, S6h, HB6, HK6⟩
        case measure => (simp [intOf]; try omega)
      · have hlrz : ¬ (md : Int) - (a1 : Int) < (b1 : Int) - (md : Int) := by omega
        have hih := fun (x : Int) (hx : x = ((md + 1 : Nat) : Int)) => (show Calls Try.prog 29 #[.slice (some ⟨blk, off, none⟩) n cap, .int .i64 x, .int .i64 (b1 : Int), .int .i64 (l2 : Int), .func (.func 28) #[.pointer (some ⟨B, 0, none⟩)] #[]] w5 fun e w' => e = .returned (.tuple #[]) ∧ ∃ d', PermIn (md + 1) b1 d5 d' ∧ SortedIn (ltN L) (md + 1) b1 d' ∧ SW eN w0 blk off d' w' from by subst hx; exact HIH.out (b1 - (md + 1)) (by omega) (md + 1) b1 l2 d5 w5 (Nat.le_refl _) (by omega) (by omega) hl2 hs5 HRR.out S5h.out)
        go_wp2_with fail
        refine (hih _ (by omega)).mono ?_
        rintro e w6 ⟨rfl, d6, p1, p2, S6⟩
        obtain ⟨x1, x2⟩ := HX7.out d6 p1 p2
        have S6h : Hid _ := S6
        have HB6 : Hid _ := x1
        have HK6 : Hid (∀ R, PermIn a1 md d6 R → SortedIn (ltN L) a1 md R → PermIn a b d R ∧ SortedIn (ltN L) a b R) := fun R q1 q2 => HK3.out R (x2 R q1 q2).1 (x2 R q1 q2).2
        have hs6 := perm_sz p1 hs5
        clear hih x1 x2 p1 p2 S6 S5h HL HRR HX6 HX7 HK3
        go_wp2
        go_roundw
        case rel => exact ⟨a1, md, l2, _, apd, d6, by first | rfl | simp, rfl, rfl, rfl, rfl, by omega, by omega, by omega, hl2, hs6, S6h, HB6, HK6⟩
        case measure => (simp [intOf]; try omega)
      -- @/10
theorem sortf_all {w0 : World} {B M blk off : Nat} {now : Int} {L : List Tm} {d0 : Array Nm} (C : Sx w0 B M blk off now L d0) (cap : Nat) (d : Array Nm) (w : World) (S : SW eN w0 blk off d w) (n : Nat) (hs : Hid (d.size = n ∧ d0.size = n)) (hz : n < 1000000) : Calls Try.prog 27 #[.slice (some ⟨blk, off, none⟩) n cap, .func (.func 28) #[.pointer (some ⟨B, 0, none⟩)] #[]] w fun e w' => e = .returned (.tuple #[]) ∧ Sorts L w0 blk off n d w' := by
  have hl : Lib.bitLen n < 1000 := Nat.lt_of_le_of_lt (Lib.bitLen_le n 62 (by omega) (by omega)) (by omega)
  refine sortf_of (M := M) cap n d w hz ((pdq_all C cap n hs.out.2 hz n 0 n (Lib.bitLen n) d w (by omega) (Nat.zero_le _) (Nat.le_refl _) hl hs.out.1 (Or.inl rfl) S).mono ?_)
  rintro e w' ⟨rfl, d', h1, h2, h3⟩
  exact ⟨rfl, d', h1, h2, h3⟩
end Go.Proofs.Ytbdloehdhdifpaa
