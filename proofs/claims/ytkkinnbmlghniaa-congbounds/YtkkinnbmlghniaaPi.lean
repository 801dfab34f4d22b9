/- CongBounds, walked. -/
import Derived.Test.YtkkinnbmlghniaaPh
import Derived.Test.YtkkinnbmlghniaaFlat
import Derived.Deep.CutBlock
namespace Go.Proofs.Ytkkinnbmlghniaa
open Go.RowKit
set_option maxRecDepth 100000
set_option linter.unusedVariables false
set_option linter.unusedSimpArgs false


theorem tmod_lt3 (x : Int) : x % 3 = 0 ∨ x % 3 = 1 ∨ x % 3 = 2 := by omega
set_option maxHeartbeats 8000000 in
theorem bounds_any (mss : Int) (a : Option Addr) (n cap : Nat) (w : World) (hr : Flat.Rows w a n 3 [.i, .i, .i]) (hz : n < 1000000000000000) :
    Calls Try.prog 4 #[.int .i64 mss, .slice a n cap] w fun e w' => e = .returned (.bool true) ∧ Below w.heap.size w w' := by
  have HA : Hid (Flat.Rows w a n 3 [.i, .i, .i]) := hr
  clear hr
  go_enter Try.func4, Try.ntmps4
  go_wp2_with fail
  refine (among_any mss 1460 w (by decide) (by decide)).mono ?_
  rintro e w1 ⟨rfl, rfl⟩
  have f0 : 0 ≤ mss % 1460 := Int.emod_nonneg _ (by decide)
  have f1 : mss % 1460 < 1460 := Int.emod_lt_of_pos _ (by decide)
  generalize mss % 1460 = m' at *
  go_wp2_with fail
  have m0 : 1 ≤ 1 + m' := by omega
  have m1 : 1 + m' ≤ 1460 := by omega
  generalize 1 + m' = m at *
  clear f0 f1
  refine (new_t m w1 m0 m1).mono ?_
  rintro e w2 ⟨B, L, G, rfl, hBw, hV, hb⟩
  go_wp2_with fail
  refine (works_any w2).mono ?_
  rintro e w3 ⟨rfl, hb2⟩
  have hV3 := hV.later hb2
  have hb3 := bt hb hb2
  have hF0 := BI.new m0 m1
  clear hb hb2 hV
  go_wp2_with fail
  try go_frame
  go_loopw [7, 8] (fun sm i wr => ∃ (k : Nat) (s : Vs), k ≤ n ∧ k ≤ 200 ∧ sm = .int .i64 s.sa ∧ i = .int .i64 (k : Int) ∧ BI m k s ∧ VY wr B L G m s ∧ Below w1.heap.size w1 wr) (fun _ i _ => n - (intOf i).toNat)
  case atStart => exact ⟨0, newV m, Nat.zero_le _, by decide, rfl, rfl, hF0, hV3, hb3⟩
  case round =>
    clear hV3 hb3 hF0
    obtain ⟨k, s, hkn, hk200, rfl, rfl, hF, hV, hbr⟩ := hrel
    by_cases hlt : k < n ∧ k < 200
    · obtain ⟨ab, off, rfl, hrow⟩ : ∃ b off, a = some ⟨b, off, none⟩ ∧ ∀ k, k < n → ∃ cs : List Value, Flat.Ok [.i, .i, .i] cs ∧ ∀ j v, cs[j]? = some v → w1.cell? ⟨b, off + k * 3 + j, none⟩ = some v := by
        rcases HA.out with h | h
        · omega
        · exact h
      obtain ⟨cs, ⟨hcl, hck⟩, hcc⟩ := hrow k hlt.1
      clear hrow
      match cs, hcl with
      | [v0, v1, v2], _ =>
      obtain ⟨kd, rfl, wkd⟩ := hck 0 _ _ rfl rfl
      obtain ⟨nn, rfl, wnn⟩ := hck 1 _ _ rfl rfl
      obtain ⟨up, rfl, wup⟩ := hck 2 _ _ rfl rfl
      have y0 := later hbr (hcc 0 _ rfl)
      rw [Nat.add_zero] at y0
      have y1 := later hbr (hcc 1 _ rfl)
      have y2 := later hbr (hcc 2 _ rfl)
      clear hcc hck
      have hk1 : (k : Int) < (n : Int) := by omega
      have hk2 : (k : Int) < 200 := by omega
      have hk3 : (0 : Int) ≤ (k : Int) := by omega
      have hkl := hlt.2
      go_upto_region 10 with fail
      have hbA := bel1 wr (.cells #[.int .i64 kd, .int .i64 nn, .int .i64 up] 34)
      have hA := At.box wr #[.int .i64 kd, .int .i64 nn, .int .i64 up] 34
      have hVA := hV.later hbA
      have hbrA : Below w1.heap.size w1 (wr.alloc (.cells #[.int .i64 kd, .int .i64 nn, .int .i64 up] 34)) := bt hbr hbA
      have hBA : wr.heap.size ≠ B := by have := hV.b.1; omega
      have hszA : w1.heap.size ≤ wr.heap.size := hbr.size
      clear y0 y1 y2 hV hbr hbA hlt
      generalize wr.alloc (.cells #[.int .i64 kd, .int .i64 nn, .int .i64 up] 34) = wa at *
      generalize wr.heap.size = za at *
      go_wp2_with fail
      refine (state_any hVA).mono ?_
      rintro e w6 ⟨rfl, q, rfl⟩
      have hV6 := hVA.drewN q
      have hA6 : At (wa.drewN q) za #[.int .i64 kd, .int .i64 nn, .int .i64 up] := hA.later (below_drewN (Below.refl _ _) q)
      have hb6 := below_drewN hbrA q
      clear hVA hA hbrA
      generalize wa.drewN q = w6 at *
      obtain ⟨x0, -⟩ := hA6.2 0 _ rfl
      obtain ⟨x1, -⟩ := hA6.2 1 _ rfl
      obtain ⟨x2, -⟩ := hA6.2 2 _ rfl
      go_wp2_with fail
      refine (among_any kd 3 w6 (by decide) (by decide)).mono ?_
      rintro e w7 ⟨rfl, rfl⟩
      have hj := tmod_lt3 kd
      generalize kd % 3 = j at *
      have g0 := hF.fine.s0
      have g1 := hF.fine.s1
      have g2 := hF.sa
      go_upto_block 2 with fail
      go_cut [7, 13] from 39 to 150 (fun c7 c13 W => ∃ s' : Vs, c7 = .int .i64 s'.sa ∧ BI m (k + 1) s' ∧ VY W B L G m s' ∧ Below w1.heap.size w1 W)
      rotate_left
      case rest =>
        clear x0 x1 x2 hA6 hV6 hb6 hj g0 g1 g2 hF
        obtain ⟨s7, rfl, hF7, hV7, hb7⟩ := hcut
        obtain ⟨w8, hw8⟩ : ∃ x, x = wc := ⟨wc, rfl⟩
        subst hw8
        cases hm7 : s7.me with
        | false =>
          have hst := state_any hV7
          rw [hm7] at hst
          have hup : (s7.up != 0) = false := by rw [hF7.c0 hm7]; decide
          clear hm7
          have hw0 := hF7.fine.w0
          have hw1 := hF7.fine.w1
          have ht0 := hF7.fine.t0
          have hq0 : ¬ s7.wi < m := by omega
          have hq1 : ¬ 1048576 < s7.wi := by omega
          have hq2 : ¬ s7.th < 2 * m := by omega
          go_wp2_with fail
          refine hst.mono ?_
          rintro e w10 ⟨rfl, q2, rfl⟩
          have hV8 := hV7.drewN q2
          have hb9 := below_drewN hb7 q2
          clear hV7 hb7 hst
          generalize w8.drewN q2 = wz at *
          go_wp2_with fail
          refine (window_any hV8).mono ?_
          rintro e wy ⟨rfl, rfl⟩
          go_wp2_with fail
          refine (window_any hV8).mono ?_
          rintro e wy ⟨rfl, rfl⟩
          go_wp2
          go_roundw
          case rel => exact ⟨k + 1, s7, by omega, by omega, rfl, by simp, hF7, hV8, hb9⟩
          case measure => simp [intOf]; omega
        | true =>
          have hst := state_any hV7
          rw [hm7] at hst
          have hge : ¬ s7.sa < 3 := by have := hF7.c3 hm7; omega
          clear hm7
          have hw0 := hF7.fine.w0
          have hw1 := hF7.fine.w1
          have ht0 := hF7.fine.t0
          have hq0 : ¬ s7.wi < m := by omega
          have hq1 : ¬ 1048576 < s7.wi := by omega
          have hq2 : ¬ s7.th < 2 * m := by omega
          go_wp2_with fail
          refine hst.mono ?_
          rintro e w10 ⟨rfl, q2, rfl⟩
          have hV8 := hV7.drewN q2
          have hb9 := below_drewN hb7 q2
          clear hV7 hb7 hst
          generalize w8.drewN q2 = wz at *
          go_wp2_with fail
          refine (window_any hV8).mono ?_
          rintro e wy ⟨rfl, rfl⟩
          go_wp2_with fail
          refine (window_any hV8).mono ?_
          rintro e wy ⟨rfl, rfl⟩
          go_wp2
          go_roundw
          case rel => exact ⟨k + 1, s7, by omega, by omega, rfl, by simp, hF7, hV8, hb9⟩
          case measure => simp [intOf]; omega
      case first =>
       rcases hj with rfl | rfl | rfl
       · have hack := BI.ack (n := nn) (up := up) hF hkl
         have hakd := acked_any nn up hV6 hF.fine
         cases hme : s.me with
         | false =>
           have hbk : backB up s = false := by unfold backB; rw [hme]; rfl
           rw [hbk] at hakd hack
           rw [if_neg (by decide)] at hack
           generalize ackE m nn up s = s7 at *
           go_wp2_with fail
           refine hakd.mono ?_
           rintro e w8 ⟨rfl, hV7, ht⟩
           obtain ⟨hF7, hsx⟩ := hack
           have HS : Hid (s7.sa = 0) := hsx
           clear hsx hbk
           have hb8 := VY.below ht hb6 hb6.size (by omega)
           go_wp2
           go_meet
           case rel => exact ⟨s7, by rw [HS.out], hF7, hV7, hb8⟩
         | true =>
           cases hbk : backB up s with
           | false =>
             rw [hbk] at hakd hack
             rw [if_neg (by decide)] at hack
             generalize ackE m nn up s = s7 at *
             go_wp2_with fail
             refine hakd.mono ?_
             rintro e w8 ⟨rfl, hV7, ht⟩
             obtain ⟨hF7, hsx⟩ := hack
             have HS : Hid (s7.sa = 0) := hsx
             clear hsx hbk
             have hb8 := VY.below ht hb6 hb6.size (by omega)
             go_wp2
             go_meet
             case rel => exact ⟨s7, by rw [HS.out], hF7, hV7, hb8⟩
           | true =>
             rw [hbk] at hakd hack
             rw [if_pos rfl] at hack
             generalize ackE m nn up s = s7 at *
             go_wp2_with fail
             refine hakd.mono ?_
             rintro e w8 ⟨rfl, hV7, ht⟩
             obtain ⟨hF7, hsx⟩ := hack
             have HS : Hid (s7.sa = s.sa) := hsx
             clear hsx hbk
             have hb8 := VY.below ht hb6 hb6.size (by omega)
             go_wp2
             go_meet
             case rel => exact ⟨s7, by rw [HS.out], hF7, hV7, hb8⟩
       · obtain ⟨hF7, hsx⟩ := BI.same (f := nn) (nx := up) hF hkl
         have hsm := same_any nn up hV6 hF.fine
         have hs1 := sa1_is hF hkl
         generalize sameE m nn up s = s7 at *
         have HS : Hid (s7.sa = s.sa + 1) := hsx
         have hsb : sameB s = (!s.me && decide (s.sa + 1 = 3)) := by unfold sameB; rw [hs1]
         clear hsx hs1
         rw [hsb] at hsm
         clear hsb
         cases hme : s.me with
         | true =>
           rw [hme] at hsm
           cases h3 : (s.sa + 1 == 3) with
           | true =>
             rw [show (!true && decide (s.sa + 1 = 3)) = false from rfl] at hsm
             go_wp2_with fail
             refine hsm.mono ?_
             rintro e w8 ⟨rfl, hV7, ht⟩
             have hb8 := VY.below ht hb6 hb6.size (by omega)
             go_wp2
             go_meet
             case rel => exact ⟨s7, by rw [HS.out], hF7, hV7, hb8⟩
           | false =>
             rw [show (!true && decide (s.sa + 1 = 3)) = false from rfl] at hsm
             go_wp2_with fail
             refine hsm.mono ?_
             rintro e w8 ⟨rfl, hV7, ht⟩
             have hb8 := VY.below ht hb6 hb6.size (by omega)
             go_wp2
             go_meet
             case rel => exact ⟨s7, by rw [HS.out], hF7, hV7, hb8⟩
         | false =>
           rw [hme] at hsm
           cases h3 : (s.sa + 1 == 3) with
           | true =>
             rw [show (!false && decide (s.sa + 1 = 3)) = true by rw [decide_eq_true (beq_iff_eq.1 h3)]; rfl] at hsm
             go_wp2_with fail
             refine hsm.mono ?_
             rintro e w8 ⟨rfl, hV7, ht⟩
             have hb8 := VY.below ht hb6 hb6.size (by omega)
             go_wp2
             go_meet
             case rel => exact ⟨s7, by rw [HS.out], hF7, hV7, hb8⟩
           | false =>
             rw [show (!false && decide (s.sa + 1 = 3)) = false by rw [decide_eq_false (beq_eq_false_iff_ne.1 h3)]; rfl] at hsm
             go_wp2_with fail
             refine hsm.mono ?_
             rintro e w8 ⟨rfl, hV7, ht⟩
             have hb8 := VY.below ht hb6 hb6.size (by omega)
             go_wp2
             go_meet
             case rel => exact ⟨s7, by rw [HS.out], hF7, hV7, hb8⟩
       · have hF7 := BI.late (f := nn) hF
         have hwm : (lateV m nn).wi = m := rfl
         have hsx : (lateV m nn).sa = 0 := rfl
         have hlt := late_any nn hV6 hF.fine
         generalize lateV m nn = s7 at *
         have HS : Hid (s7.sa = 0) := hsx
         have HW : Hid (s7.wi = m) := hwm
         clear hsx hwm
         go_wp2_with fail
         refine hlt.mono ?_
         rintro e w8 ⟨rfl, hV7, ht⟩
         have hwi := window_any hV7
         rw [HW.out] at hwi
         go_wp2_with fail
         refine hwi.mono ?_
         rintro e w9 ⟨rfl, rfl⟩
         clear hwi HW hlt
         have hb8 := VY.below ht hb6 hb6.size (by omega)
         go_wp2
         go_meet
         case rel => exact ⟨s7, by rw [HS.out], hF7, hV7, hb8⟩
    · by_cases hkn' : (k : Int) < (n : Int)
      · have hk30' : ¬ (k : Int) < 200 := by omega
        go_wp2
        go_ret
        exact ⟨rfl, hbr⟩
      · go_wp2
        go_ret
        exact ⟨rfl, hbr⟩
end Go.Proofs.Ytkkinnbmlghniaa
