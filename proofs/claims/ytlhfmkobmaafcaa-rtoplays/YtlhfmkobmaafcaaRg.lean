/- RtoBounds, walked. -/
import Derived.Test.YtlhfmkobmaafcaaRe
import Derived.Deep.Cut
import Derived.Deep.CutRange
namespace Go.Proofs.Ytlhfmkobmaafcaa
open Go.RowKit
set_option maxRecDepth 100000
set_option linter.unusedVariables false
set_option linter.unusedSimpArgs false

theorem wait_q (B : Nat) (le gr : Int) (s : Es) (w : World) (hB : At w B (rV le gr s)) :
    Calls Try.prog 11 #[.pointer (some ⟨B, 0, none⟩)] w fun e w' => e = .returned (.int .i64 s.wa) ∧ ∃ q, w' = w.drewN q := (wait_any B le gr s w hB).mono fun _ _ ⟨h, k⟩ => ⟨h, 0, k⟩
theorem bounds_f (fi le gr : Int) (a : Option Addr) (n cap : Nat) (w : World) (h : newOk fi le gr = false) :
    Calls Try.prog 4 #[.agg #[.int .i64 fi, .int .i64 le, .int .i64 gr], .slice a n cap] w fun e w' => e = .returned (.bool true) ∧ Below w.heap.size w w' := by
  have hS0 := At.box w #[.int .i64 fi, .int .i64 le, .int .i64 gr] 23
  go_enter Try.func4, Try.ntmps4
  go_wp2_with fail
  refine (works_any _).mono ?_
  rintro e w1 ⟨rfl, hb1⟩
  have hS1 := hS0.later hb1
  obtain ⟨⟨x0, x1, x2⟩, -⟩ := hS1.three
  have hb2 := bt (bel1 w _) hb1
  clear hS0
  go_wp2_with fail
  refine (newk_f fi le gr w1 h).mono ?_
  rintro e w2 ⟨rfl, rfl⟩
  go_wp2
  go_ret
  exact ⟨rfl, hb2⟩
set_option maxHeartbeats 4000000 in
theorem bounds_t (fi le gr : Int) (a : Option Addr) (n cap : Nat) (w : World) (hr : Flat.Rows w a n 2 [.i, .b]) (hz : n < 1000000000000000) (h : newOk fi le gr = true) :
    Calls Try.prog 4 #[.agg #[.int .i64 fi, .int .i64 le, .int .i64 gr], .slice a n cap] w fun e w' => e = .returned (.bool true) ∧ Below w.heap.size w w' := by
  have HA : Hid (Flat.Rows w a n 2 [.i, .b]) := hr
  clear hr
  have hF0 := fine_new h
  have hS0 := At.box w #[.int .i64 fi, .int .i64 le, .int .i64 gr] 23
  go_enter Try.func4, Try.ntmps4
  go_wp2_with fail
  refine (works_any _).mono ?_
  rintro e w1 ⟨rfl, hb1⟩
  have hS1 := hS0.later hb1
  obtain ⟨⟨x0, x1, x2⟩, -⟩ := hS1.three
  have hb2 := bt (bel1 w _) hb1
  clear hS0
  go_wp2_with fail
  refine (newk_t fi le gr w1 h).mono ?_
  rintro e w2 ⟨B, rfl, hBw, hB, hb3⟩
  have hS2 := hS1.later hb3
  have hb4 := bt hb2 hb3
  have hBs : w.heap.size < B := by have := hb1.size; have e : (w.alloc (.cells #[.int .i64 fi, .int .i64 le, .int .i64 gr] 23)).heap.size = w.heap.size + 1 := World.size_alloc _ _; omega
  clear hb1 hb2 hb3 hBw hS1 x0 x1 x2
  go_wp2
  go_loopw [7] (fun i wr => ∃ (k : Nat) (s : Es), k ≤ n ∧ k ≤ 200 ∧ i = .int .i64 (k : Int) ∧ s.Fine le gr ∧ At wr B (rV le gr s) ∧ At wr w.heap.size #[.int .i64 fi, .int .i64 le, .int .i64 gr] ∧ Below w.heap.size w wr) (fun i _ => n - (intOf i).toNat)
  case atStart => exact ⟨0, newE fi, Nat.zero_le _, by decide, rfl, hF0, hB, hS2, hb4⟩
  case round =>
    clear hB hS2 hb4 hF0
    obtain ⟨k, s, hkn, hk200, rfl, hF, hB, hS, hbr⟩ := hrel
    by_cases hlt : k < n ∧ k < 200
    · obtain ⟨ab, off, rfl, hrow⟩ : ∃ b off, a = some ⟨b, off, none⟩ ∧ ∀ k, k < n → ∃ cs : List Value, Flat.Ok [.i, .b] cs ∧ ∀ j v, cs[j]? = some v → w.cell? ⟨b, off + k * 2 + j, none⟩ = some v := by
        rcases HA.out with h | h
        · omega
        · exact h
      obtain ⟨cs, ⟨hcl, hck⟩, hcc⟩ := hrow k hlt.1
      clear hrow
      match cs, hcl with
      | [v0, v1], _ =>
      obtain ⟨tk, rfl, wtk⟩ := hck 0 _ _ rfl rfl
      obtain ⟨bk, rfl⟩ := hck 1 _ _ rfl rfl
      have y0 := later hbr (hcc 0 _ rfl)
      rw [Nat.add_zero] at y0
      have y1 := later hbr (hcc 1 _ rfl)
      clear hcc hck
      have hk1 : (k : Int) < (n : Int) := by omega
      have hk2 : (k : Int) < 200 := by omega
      have hk3 : (0 : Int) ≤ (k : Int) := by omega
      go_wp2_with fail
      refine (wait_any B le gr s wr hB).mono ?_
      rintro e w5 ⟨rfl, rfl⟩
      go_wp2_with fail
      refine (state_any B le gr s _ hB).mono ?_
      rintro e w6 ⟨rfl, q, rfl⟩
      have hB6 := hB.drewN q
      have hS6 := hS.drewN q
      have hb6 := below_drewN hbr q
      have z0 : (w5.drewN q).cell? ⟨ab, off + k * 2, none⟩ = some (.int .i64 tk) := y0
      have z1 : (w5.drewN q).cell? ⟨ab, off + k * 2 + 1, none⟩ = some (.bool bk) := y1
      clear hB hS hbr y0 y1
      generalize w5.drewN q = w6 at *
      cases bk with
      | true =>
        have hm : Hid (s.wa ≤ (backE gr s).wa) := by
          have := hF.w1
          have := hF.w0
          have := hF.l0
          show s.wa ≤ min (2 * s.wa) gr
          omega
        have hF7 := hF.back
        go_wp2_with fail
        refine (back_any B le gr s w6 hB6 hF).mono ?_
        rintro e w7 ⟨rfl, hB7, ht⟩
        generalize backE gr s = s7 at *
        have hmo := hm.out
        have hS7 := hS6.turn ht (by omega)
        have hb7 : Below w.heap.size w w7 := hb6.trans (ht.below hb6.size (fun k hk e => by omega))
        have hw0 := hF7.w0
        have hw1 := hF7.w1
        obtain ⟨⟨x0, x1, x2⟩, -⟩ := hS7.three
        clear z0 z1 hB6 hS6 hb6 ht
        go_upto_region 21 with fail
        go_quiet ((go_at_call 11; refine Calls.quiet_of (wait_q B le gr s7 _ (by exact hB7))))
        go_wp2
        go_roundw
        case rel => exact ⟨k + 1, s7, by omega, by omega, by simp, hF7, hB7.drewN _, hS7.drewN _, below_drewN hb7 _⟩
        case measure => simp [intOf]; omega
      | false =>
        cases hto : tickOk tk with
        | true =>
          have hF7 := hF.samp hto
          go_wp2_with fail
          refine (sample_t B le gr tk s w6 hB6 hF hto).mono ?_
          rintro e w7 ⟨rfl, hB7, ht⟩
          have hba : (sampE le gr tk s).ba = 0 := rfl
          go_wp2_with fail
          refine (state_any B le gr _ _ hB7).mono ?_
          rintro e w8 ⟨rfl, q2, rfl⟩
          have hB8 := hB7.drewN q2
          have ht8 : Turn (fun k => k = B) w6 (w7.drewN q2) := ht.later (below_drewN (Below.refl _ _) q2)
          clear hB7 ht
          generalize w7.drewN q2 = w7 at *
          obtain ⟨hB7, ht⟩ := And.intro hB8 ht8
          clear hB8 ht8
          generalize sampE le gr tk s = s7 at *
          have hS7 := hS6.turn ht (by omega)
          have hb7 : Below w.heap.size w w7 := hb6.trans (ht.below hb6.size (fun k hk e => by omega))
          have hw0 := hF7.w0
          have hw1 := hF7.w1
          obtain ⟨⟨x0, x1, x2⟩, -⟩ := hS7.three
          clear z0 z1 hB6 hS6 hb6 ht
          go_upto_region 21 with fail
          go_quiet ((go_at_call 11; refine Calls.quiet_of (wait_q B le gr s7 _ (by exact hB7))))
          go_wp2
          go_roundw
          case rel => exact ⟨k + 1, s7, by omega, by omega, by simp, hF7, hB7.drewN _, hS7.drewN _, below_drewN hb7 _⟩
          case measure => simp [intOf]; omega
        | false =>
          go_wp2_with fail
          refine (sample_f B tk w6 hto).mono ?_
          rintro e w7 ⟨rfl, rfl⟩
          go_wp2_with fail
          refine (state_any B le gr _ _ hB6).mono ?_
          rintro e w8 ⟨rfl, q2, rfl⟩
          have hB7 := hB6.drewN q2
          go_wp2_with fail
          refine (wait_any B le gr _ _ hB7).mono ?_
          rintro e w8 ⟨rfl, rfl⟩
          have ht : Turn (fun k => k = B) w7 (w7.drewN q2) := (Turn.refl w7).later (below_drewN (Below.refl _ _) q2)
          have hF7 := hF
          generalize hG : w7.drewN q2 = w9 at *
          clear hG
          obtain ⟨w6, hw6⟩ : ∃ x, x = w7 := ⟨w7, rfl⟩
          subst hw6
          obtain ⟨w7, hw7⟩ : ∃ x, x = w9 := ⟨w9, rfl⟩
          subst hw7
          obtain ⟨s7, hs7⟩ : ∃ x, x = s := ⟨s, rfl⟩
          subst hs7
          have hS7 := hS6.turn ht (by omega)
          have hb7 : Below w.heap.size w w7 := hb6.trans (ht.below hb6.size (fun k hk e => by omega))
          have hw0 := hF7.w0
          have hw1 := hF7.w1
          obtain ⟨⟨x0, x1, x2⟩, -⟩ := hS7.three
          clear z0 z1 hB6 hS6 hb6 ht
          go_upto_region 21 with fail
          go_quiet ((go_at_call 11; refine Calls.quiet_of (wait_q B le gr s7 _ (by exact hB7))))
          go_wp2
          go_roundw
          case rel => exact ⟨k + 1, s7, by omega, by omega, by simp, hF7, hB7.drewN _, hS7.drewN _, below_drewN hb7 _⟩
          case measure => simp [intOf]; omega
    · by_cases hkn' : (k : Int) < (n : Int)
      · have hk30' : ¬ (k : Int) < 200 := by omega
        go_wp2
        go_ret
        exact ⟨rfl, hbr⟩
      · go_wp2
        go_ret
        exact ⟨rfl, hbr⟩
end Go.Proofs.Ytlhfmkobmaafcaa
