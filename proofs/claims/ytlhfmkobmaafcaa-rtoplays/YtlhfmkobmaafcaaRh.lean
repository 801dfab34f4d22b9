/- RtoPlays, walked. -/
import Derived.Test.YtlhfmkobmaafcaaRg
import Derived.Test.YtlhfmkobmaafcaaRd
import Derived.Deep.Cut
import Derived.Deep.CutRange
namespace Go.Proofs.Ytlhfmkobmaafcaa
open Go.RowKit
set_option maxRecDepth 100000
set_option linter.unusedVariables false
set_option linter.unusedSimpArgs false

theorem rsample_q (K : Nat) (t : Int) (w : World) (h : tickOk t = false) :
    Calls Try.prog 15 #[.pointer (some ⟨K, 0, none⟩), .int .i64 t] w fun e w' => e = .returned (.int .i64 1) ∧ ∃ q, w' = w.drewN q := (rsample_f K t w h).mono fun _ _ ⟨h, k⟩ => ⟨h, 0, k⟩
theorem sample_q (B : Nat) (t : Int) (w : World) (h : tickOk t = false) :
    Calls Try.prog 13 #[.pointer (some ⟨B, 0, none⟩), .int .i64 t] w fun e w' => e = .returned (.int .i64 1) ∧ ∃ q, w' = w.drewN q := (sample_f B t w h).mono fun _ _ ⟨h, k⟩ => ⟨h, 0, k⟩
theorem plays_f (fi le gr : Int) (a : Option Addr) (n cap : Nat) (w : World) (h : newOk fi le gr = false) :
    Calls Try.prog 3 #[.agg #[.int .i64 fi, .int .i64 le, .int .i64 gr], .slice a n cap] w fun e w' => e = .returned (.bool true) ∧ Below w.heap.size w w' := by
  have hS0 := At.box w #[.int .i64 fi, .int .i64 le, .int .i64 gr] 23
  obtain ⟨⟨x0, x1, x2⟩, -⟩ := hS0.three
  go_enter Try.func3, Try.ntmps3
  go_wp2_with fail
  refine (newk_f fi le gr _ h).mono ?_
  rintro e w1 ⟨rfl, rfl⟩
  go_wp2_with fail
  refine (rnew_f fi le gr _ h).mono ?_
  rintro e w1 ⟨rfl, rfl⟩
  have hb0 := bel1 w (.cells #[.int .i64 fi, .int .i64 le, .int .i64 gr] 23)
  go_wp2_with fail
  refine (works_any _).mono ?_
  rintro e w1 ⟨rfl, hb1⟩
  have hb2 := bt hb0 hb1
  clear hS0 hb0 hb1 x0 x1 x2
  go_wp2
  go_loopw [9] (fun i wr => i = .int .i64 0 ∧ Below w.heap.size w wr) (fun i _ => 0)
  case atStart => exact ⟨rfl, hb2⟩
  case round =>
    clear hb2
    obtain ⟨rfl, hbr⟩ := hrel
    go_wp2
    go_ret
    exact ⟨rfl, hbr⟩
set_option maxHeartbeats 4000000 in
theorem plays_t (fi le gr : Int) (a : Option Addr) (n cap : Nat) (w : World) (hr : Flat.Rows w a n 2 [.i, .b]) (hz : n < 1000000000000000) (h : newOk fi le gr = true) :
    Calls Try.prog 3 #[.agg #[.int .i64 fi, .int .i64 le, .int .i64 gr], .slice a n cap] w fun e w' => e = .returned (.bool true) ∧ Below w.heap.size w w' := by
  have HA : Hid (Flat.Rows w a n 2 [.i, .b]) := hr
  clear hr
  have hF0 := fine_new h
  have hS0 := At.box w #[.int .i64 fi, .int .i64 le, .int .i64 gr] 23
  obtain ⟨⟨x0, x1, x2⟩, -⟩ := hS0.three
  go_enter Try.func3, Try.ntmps3
  go_wp2_with fail
  refine (newk_t fi le gr _ h).mono ?_
  rintro e w1 ⟨B, rfl, hBw, hB, hb1⟩
  have hS1 := hS0.later hb1
  have hb2 := bt (bel1 w _) hb1
  have hBs : w.heap.size < B := by have e : (w.alloc (.cells #[.int .i64 fi, .int .i64 le, .int .i64 gr] 23)).heap.size = w.heap.size + 1 := World.size_alloc _ _; omega
  clear hS0 hBw hb1 x0 x1 x2
  obtain ⟨⟨x0, x1, x2⟩, -⟩ := hS1.three
  go_wp2_with fail
  refine (rnew_t fi le gr _ h).mono ?_
  rintro e w2 ⟨K, rfl, hKw, hK, hb3⟩
  have hB2 := hB.later hb3
  have hKB : B < K := Nat.lt_of_lt_of_le hB.1 hKw
  have hb4 := bt hb2 hb3
  clear hb2 hb3 hB hKw hS1 x0 x1 x2
  go_wp2_with fail
  refine (works_any _).mono ?_
  rintro e w3 ⟨rfl, hb5⟩
  have hB3 := hB2.later hb5
  have hK3 := hK.later hb5
  have hb6 := bt hb4 hb5
  clear hB2 hK hb4 hb5
  go_wp2
  go_loopw [9] (fun i wr => ∃ (k : Nat) (s : Es), k ≤ n ∧ k ≤ 200 ∧ i = .int .i64 (k : Int) ∧ s.Fine le gr ∧ At wr B (rV le gr s) ∧ At wr K (kV le gr s) ∧ Below w.heap.size w wr) (fun i _ => n - (intOf i).toNat)
  case atStart => exact ⟨0, newE fi, Nat.zero_le _, by decide, rfl, hF0, hB3, hK3, hb6⟩
  case round =>
    clear hB3 hK3 hb6 hF0
    obtain ⟨k, s, hkn, hk200, rfl, hF, hB, hK, hbr⟩ := hrel
    by_cases hlt : k < n ∧ k < 200
    · obtain ⟨ab, off, rfl, hrow⟩ : ∃ b off, a = some ⟨b, off, none⟩ ∧ ∀ k, k < n → ∃ cs : List Value, Flat.Ok [.i, .b] cs ∧ ∀ j v, cs[j]? = some v → w.cell? ⟨b, off + k * 2 + j, none⟩ = some v := by
        rcases HA.out with h | h
        · omega
        · exact h
      obtain ⟨cs, ⟨hcl, hck⟩, hcc⟩ := hrow k hlt.1
      clear hrow
      match cs, hcl with
      | [v0, v1], _ =>
      obtain ⟨tk, rfl, wtk⟩ := hck 0 _ _ rfl rfl
      obtain ⟨bk, rfl⟩ := hck 1 _ _ rfl rfl
      have y0 := hcc 0 _ rfl
      rw [Nat.add_zero] at y0
      have y1 := hcc 1 _ rfl
      clear hcc hck
      have hk1 : (k : Int) < (n : Int) := by omega
      have hk2 : (k : Int) < 200 := by omega
      have hk3 : (0 : Int) ≤ (k : Int) := by omega
      go_wp2_with fail
      refine (fork_any B le gr s wr hB).mono ?_
      rintro e w5 ⟨C, rfl, hCw, hC, hb5⟩
      have hB5 := hB.later hb5
      have hK5 := hK.later hb5
      have hbb := bt hbr hb5
      have hCB : C ≠ B := by have := hB.1; omega
      have hCK : C ≠ K := by have := hK.1; omega
      have hCs : w.heap.size < C := by have := hbr.size; have := hB.1; omega
      clear hB hK hbr hb5 hCw
      go_upto_region 9 with fail
      obtain ⟨⟨k0, k1, k2, k3, k4, k5, k6⟩, -⟩ := hK5.seven
      go_quiet ((go_at_call 11; refine Calls.quiet_of (wait_q C le gr s _ (by exact hC))))
      go_wp2_with fail
      refine (back_any C le gr s _ (by exact hC) hF).mono ?_
      rintro e w6 ⟨rfl, hC6, ht6⟩
      have ht6' : Turn (fun k => k = C) w5 w6 := by first | exact ht6.undrewN | exact ht6.undrew
      have hB6 := hB5.turn ht6' hCB.symm
      have hK6 := hK5.turn ht6' hCK.symm
      have hb6 : Below w.heap.size w w6 := hbb.trans (ht6'.below hbb.size (fun k hk e => by omega))
      clear hB5 hK5 hbb hC ht6 ht6' k0 k1 k2 k3 k4 k5 k6
      go_wp2_with fail
      refine (sample_t C le gr 7 _ _ (by exact hC6) hF.back (by decide)).mono ?_
      rintro e w7 ⟨rfl, -, ht7⟩
      have hB7 := hB6.turn ht7 hCB.symm
      have hK7 := hK6.turn ht7 hCK.symm
      have hb7 : Below w.heap.size w w7 := hb6.trans (ht7.below hb6.size (fun k hk e => by omega))
      clear hB6 hK6 hb6 hC6 ht7
      have z0 := later hb7 y0
      have z1 := later hb7 y1
      cases bk with
      | true =>
        have hF9 := hF.back
        go_wp2_with fail
        refine (back_any B le gr s _ hB7 hF).mono ?_
        rintro e w8 ⟨rfl, hB8, ht8⟩
        have hK8 := hK7.turn ht8 (by omega)
        have hb8 : Below w.heap.size w w8 := hb7.trans (ht8.below hb7.size (fun k hk e => by omega))
        go_wp2_with fail
        refine (rback_any K le gr s _ hK8 hF).mono ?_
        rintro e w9 ⟨rfl, hK9, ht9⟩
        have hB9 := hB8.turn ht9 (by omega)
        have hb9 : Below w.heap.size w w9 := hb8.trans (ht9.below hb8.size (fun k hk e => by omega))
        clear hB7 hK7 hb7 hB8 hK8 hb8 ht8 ht9 z0 z1
        generalize backE gr s = s9 at *
        go_wp2_with fail
        refine (state_any B le gr s9 _ hB9).mono ?_
        rintro e w10 ⟨rfl, q2, rfl⟩
        have hBt := hB9.drewN q2
        have hKt := hK9.drewN q2
        have hbt := below_drewN hb9 q2
        clear hB9 hK9 hb9
        generalize w9.drewN q2 = w10 at *
        obtain ⟨⟨k0, k1, k2, k3, k4, k5, k6⟩, -⟩ := hKt.seven
        go_upto_region 19 with fail
        go_quiet ((go_at_call 11; refine Calls.quiet_of (wait_q B le gr s9 _ (by exact hBt))))
        go_wp2
        go_roundw
        case rel => exact ⟨k + 1, s9, by omega, by omega, by simp, hF9, hBt.drewN _, hKt.drewN _, below_drewN hbt _⟩
        case measure => simp [intOf]; omega
      | false =>
        cases hto : tickOk tk with
        | true =>
          have hF9 := hF.samp hto
          go_upto_region 16 with fail
          go_region_with (first
            | (go_at_call 13; refine (sample_t B le gr tk s _ (by exact hB7) hF hto).mono ?_; rintro e w8 ⟨rfl, hB8, ht8'⟩; have ht8 : Turn (fun k => k = B) w7 w8 := (by first | exact ht8' | exact ht8'.undrew | exact ht8'.undrew.undrew); have hK8 := hK7.turn ht8 (by omega); have hb8 : Below w.heap.size w w8 := hb7.trans (ht8.below hb7.size (fun k hk e => by omega)); have z8 := later hb8 y0)
            | (go_at_call 15; refine (rsample_t K le gr tk s _ (by exact hK8) hF hto).mono ?_; rintro e w9 ⟨rfl, hK9, ht9'⟩; have ht9 : Turn (fun k => k = K) w8 w9 := (by first | exact ht9' | exact ht9'.undrew | exact ht9'.undrew.undrew)))
          all_goals
            have hB9 := hB8.turn ht9 (by omega)
            have hb9 : Below w.heap.size w w9 := hb8.trans (ht9.below hb8.size (fun k hk e => by omega))
            clear hB7 hK7 hb7 hB8 hK8 hb8 ht8 ht9 ht8' ht9' z0 z1 z8
            generalize sampE le gr tk s = s9 at *
            go_wp2_with fail
            refine (state_any B le gr s9 _ hB9).mono ?_
            rintro e w10 ⟨rfl, q2, rfl⟩
            have hBt := hB9.drewN q2
            have hKt := hK9.drewN q2
            have hbt := below_drewN hb9 q2
            clear hB9 hK9 hb9
            generalize w9.drewN q2 = w10 at *
            obtain ⟨⟨k0, k1, k2, k3, k4, k5, k6⟩, -⟩ := hKt.seven
            go_upto_region 19 with fail
            go_quiet ((go_at_call 11; refine Calls.quiet_of (wait_q B le gr s9 _ (by exact hBt))))
            go_wp2
            go_roundw
            case rel => exact ⟨k + 1, s9, by omega, by omega, by simp, hF9, hBt.drewN _, hKt.drewN _, below_drewN hbt _⟩
            case measure => simp [intOf]; omega
        | false =>
          have hF9 := hF
          go_upto_region 16 with fail
          go_quiet (first | (go_at_call 13; refine Calls.quiet_of (sample_q B tk _ hto)) | (go_at_call 15; refine Calls.quiet_of (rsample_q K tk _ hto)))
          have hB9 := hB7.drewN nq
          have hK9 := hK7.drewN nq
          have hb9 := below_drewN hb7 nq
          clear hB7 hK7 hb7 z0 z1
          generalize w7.drewN nq = w9 at *
          obtain ⟨s9, hs9⟩ : ∃ x, x = s := ⟨s, rfl⟩
          subst hs9
          go_wp2_with fail
          refine (state_any B le gr s9 _ hB9).mono ?_
          rintro e w10 ⟨rfl, q2, rfl⟩
          have hBt := hB9.drewN q2
          have hKt := hK9.drewN q2
          have hbt := below_drewN hb9 q2
          clear hB9 hK9 hb9
          generalize w9.drewN q2 = w10 at *
          obtain ⟨⟨k0, k1, k2, k3, k4, k5, k6⟩, -⟩ := hKt.seven
          go_upto_region 19 with fail
          go_quiet ((go_at_call 11; refine Calls.quiet_of (wait_q B le gr s9 _ (by exact hBt))))
          go_wp2
          go_roundw
          case rel => exact ⟨k + 1, s9, by omega, by omega, by simp, hF9, hBt.drewN _, hKt.drewN _, below_drewN hbt _⟩
          case measure => simp [intOf]; omega
    · by_cases hkn' : (k : Int) < (n : Int)
      · have hk30' : ¬ (k : Int) < 200 := by omega
        go_wp2
        go_ret
        exact ⟨rfl, hbr⟩
      · go_wp2
        go_ret
        exact ⟨rfl, hbr⟩
end Go.Proofs.Ytlhfmkobmaafcaa
