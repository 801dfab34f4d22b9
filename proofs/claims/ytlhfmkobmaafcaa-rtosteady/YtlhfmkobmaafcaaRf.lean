/- RtoSteady, walked. -/
import Derived.Test.YtlhfmkobmaafcaaRe
import Derived.Deep.Cut
import Derived.Deep.CutRange
namespace Go.Proofs.Ytlhfmkobmaafcaa
open Go.RowKit
set_option maxRecDepth 100000
set_option linter.unusedVariables false
set_option linter.unusedSimpArgs false

/-- How far the mean may lie from the samples, and how great the deviation may be, behind so many of them. -/
def vd : Nat → Nat × Nat
  | 0 => (40000, 20003)
  | n + 1 => ((vd n).1 - (vd n).1 / 8, (vd n).2 - (vd n).2 / 4 + ((vd n).1 + 7) / 8)
theorem vd_end : vd 200 = (7, 7) := by decide +kernel
/-- Near enough. -/
def Near (t : Int) (k : Nat) (s : Es) : Prop := (s.me - 8 * t ≤ ((vd k).1 : Int) ∧ 8 * t - s.me ≤ ((vd k).1 : Int)) ∧ s.de ≤ ((vd k).2 : Int)
theorem near_step {t v d me de : Int} (h0 : 0 ≤ v) (h1 : me - 8 * t ≤ v) (h2 : 8 * t - me ≤ v) (hd : de ≤ d) (e0 : 0 ≤ de) :
    (me + (t - me / 8) - 8 * t ≤ v - v / 8 ∧ 8 * t - (me + (t - me / 8)) ≤ v - v / 8) ∧ de + (max (t - me / 8) (-(t - me / 8)) - de / 4) ≤ d - d / 4 + (v + 7) / 8 := by
  refine ⟨⟨?_, ?_⟩, ?_⟩
  · omega
  · omega
  · have : max (t - me / 8) (-(t - me / 8)) ≤ (v + 7) / 8 := by omega
    omega
theorem Near.step {le gr t : Int} {k : Nat} {s : Es} (h : Near t k s) (hs : s.so = true) (hF : s.Fine le gr) : Near t (k + 1) (sampE le gr t s) := by
  obtain ⟨⟨a, b⟩, c⟩ := h
  have := near_step (Int.natCast_nonneg _) a b c hF.d0
  unfold Near
  show ((meS s.so s.me t - 8 * t ≤ _ ∧ 8 * t - meS s.so s.me t ≤ _) ∧ deS s.so s.me s.de t ≤ _)
  rw [hs]
  simp only [meS, deS, if_true, vd]
  have e1 : (((vd k).1 - (vd k).1 / 8 : Nat) : Int) = ((vd k).1 : Int) - ((vd k).1 : Int) / 8 := by omega
  have e2 : (((vd k).2 - (vd k).2 / 4 + ((vd k).1 + 7) / 8 : Nat) : Int) = ((vd k).2 : Int) - ((vd k).2 : Int) / 4 + (((vd k).1 : Int) + 7) / 8 := by omega
  rw [e1, e2]
  exact this
theorem Near.first {le gr t : Int} {s : Es} (hs : s.so = false) (t0 : 0 ≤ t) (t1 : t < 5000) : Near t 1 (sampE le gr t s) := by
  unfold Near
  show ((meS s.so s.me t - 8 * t ≤ _ ∧ 8 * t - meS s.so s.me t ≤ _) ∧ deS s.so s.me s.de t ≤ _)
  rw [hs]
  have e : vd 1 = (35000, 20003) := by decide
  rw [e]
  simp only [meS, deS]
  refine ⟨⟨?_, ?_⟩, ?_⟩ <;> simp <;> omega
/-- All samples so far were below 5000. -/
def Low (s : Es) : Prop := s.me ≤ 39992 ∧ s.de ≤ 20003
theorem Low.samp {le gr t : Int} {s : Es} (h : Low s) (hF : s.Fine le gr) (t0 : 0 ≤ t) (t1 : t < 5000) : Low (sampE le gr t s) := by
  obtain ⟨a, b⟩ := h
  have := hF.m0
  have := hF.d0
  unfold Low
  show meS s.so s.me t ≤ _ ∧ deS s.so s.me s.de t ≤ _
  unfold meS deS
  split <;> omega
theorem Low.near {le gr t : Int} {s : Es} (h : Low s) (hF : s.Fine le gr) (t0 : 0 ≤ t) (t1 : t < 5000) : Near t 0 s := by
  obtain ⟨a, b⟩ := h
  have := hF.m0
  unfold Near
  simp only [vd]
  omega
theorem near_end {t : Int} {s : Es} (h : Near t 200 (sampE 10 1048576 t s)) (t0 : 0 ≤ t) (t1 : t < 5000) : max 10 t ≤ (sampE 10 1048576 t s).wa ∧ (sampE 10 1048576 t s).wa ≤ max 10 (t + 12) := by
  unfold Near at h
  rw [vd_end] at h
  have e : (sampE 10 1048576 t s).wa = min (max ((sampE 10 1048576 t s).me / 8 + max (sampE 10 1048576 t s).de 1) 10) 1048576 := rfl
  rw [e]
  generalize (sampE 10 1048576 t s).me = me at *
  generalize (sampE 10 1048576 t s).de = de at *
  simp only at h
  omega
/-- Behind k samples of the second row. -/
def Row2 (t : Int) (k : Nat) (s : Es) : Prop := (k = 0 ∧ Low s) ∨ (∃ s0, s = sampE 10 1048576 t s0) ∧ s.so = true ∧ Near t k s
theorem Row2.step {t : Int} {k : Nat} {s : Es} (h : Row2 t k s) (hF : s.Fine 10 1048576) (t0 : 0 ≤ t) (t1 : t < 5000) : Row2 t (k + 1) (sampE 10 1048576 t s) := by
  rcases h with ⟨rfl, h⟩ | ⟨-, h, hn⟩
  · cases hs : s.so with
    | true => exact .inr ⟨⟨_, rfl⟩, rfl, (h.near hF t0 t1).step hs hF⟩
    | false => exact .inr ⟨⟨_, rfl⟩, rfl, Near.first hs t0 t1⟩
  · exact .inr ⟨⟨_, rfl⟩, rfl, hn.step h hF⟩
theorem Row2.fin {t : Int} {s : Es} (h : Row2 t 200 s) (t0 : 0 ≤ t) (t1 : t < 5000) : max 10 t ≤ s.wa ∧ s.wa ≤ max 10 (t + 12) := by
  rcases h with ⟨h, -⟩ | ⟨⟨s0, rfl⟩, -, h⟩
  · cases h
  · exact near_end h t0 t1
set_option maxHeartbeats 4000000 in
theorem steady_any (ti : Int) (a : Option Addr) (n cap : Nat) (w : World) (hr : Flat.Rows w a n 2 [.i, .b]) (hz : n < 1000000000000000) :
    Calls Try.prog 5 #[.int .i64 ti, .slice a n cap] w fun e w' => e = .returned (.bool true) ∧ Below w.heap.size w w' := by
  have HA : Hid (Flat.Rows w a n 2 [.i, .b]) := hr
  clear hr
  go_enter Try.func5, Try.ntmps5
  go_wp2_with fail
  refine (works_any w).mono ?_
  rintro e w1 ⟨rfl, hb1⟩
  go_wp2_with fail
  refine (among_any ti 5000 w1 (by decide) (by decide)).mono ?_
  rintro e w2 ⟨rfl, rfl⟩
  have t0 : 0 ≤ ti % 5000 := Int.emod_nonneg _ (by decide)
  have t1 : ti % 5000 < 5000 := Int.emod_lt_of_pos _ (by decide)
  generalize ti % 5000 = t at *
  have hok : newOk 100 10 1048576 = true := by decide
  have hF0 := fine_new hok
  go_wp2_with fail
  refine (newk_t 100 10 1048576 w2 hok).mono ?_
  rintro e w3 ⟨B, rfl, hBw, hB, hb2⟩
  have hb3 := bt hb1 hb2
  have hBs : w.heap.size ≤ B := Nat.le_trans hb1.size hBw
  have hL0 : Low (newE 100) := ⟨by decide, by decide⟩
  clear hb1 hb2 hBw
  go_wp2
  go_loopw [7] (fun i wr => ∃ (k : Nat) (s : Es), k ≤ n ∧ k ≤ 30 ∧ i = .int .i64 (k : Int) ∧ Low s ∧ s.Fine 10 1048576 ∧ At wr B (rV 10 1048576 s) ∧ Below w.heap.size w wr) (fun i _ => n - (intOf i).toNat)
  case atStart => exact ⟨0, newE 100, Nat.zero_le _, by decide, rfl, hL0, hF0, hB, hb3⟩
  case round =>
    clear hB hb3 hF0 hL0
    obtain ⟨k, s, hkn, hk30, rfl, hL, hF, hB, hbr⟩ := hrel
    by_cases hlt : k < n ∧ k < 30
    · obtain ⟨ab, off, rfl, hrow⟩ : ∃ b off, a = some ⟨b, off, none⟩ ∧ ∀ k, k < n → ∃ cs : List Value, Flat.Ok [.i, .b] cs ∧ ∀ j v, cs[j]? = some v → w.cell? ⟨b, off + k * 2 + j, none⟩ = some v := by
        rcases HA.out with h | h
        · omega
        · exact h
      obtain ⟨cs, ⟨hcl, hck⟩, hcc⟩ := hrow k hlt.1
      clear hrow
      match cs, hcl with
      | [v0, v1], _ =>
      obtain ⟨tk, rfl, wtk⟩ := hck 0 _ _ rfl rfl
      obtain ⟨bk, rfl⟩ := hck 1 _ _ rfl rfl
      have x0 := later hbr (hcc 0 _ rfl)
      rw [Nat.add_zero] at x0
      clear hcc hck
      have hk1 : (k : Int) < (n : Int) := by omega
      have hk2 : (k : Int) < 30 := by omega
      have hk3 : (0 : Int) ≤ (k : Int) := by omega
      by_cases htk : 0 ≤ tk ∧ tk < 5000
      · have h1 := htk.1
        have h2 := htk.2
        have hto : tickOk tk = true := decide_eq_true (by omega)
        go_wp2_with fail
        refine (sample_t B 10 1048576 tk s wr hB hF hto).mono ?_
        rintro e w5 ⟨rfl, hB5, ht⟩
        have hb5 : Below w.heap.size w w5 := hbr.trans (ht.below hbr.size (fun k hk e => by omega))
        have hF5 := hF.samp hto
        have hL5 := hL.samp hF h1 h2
        go_wp2
        go_roundw
        case rel => exact ⟨k + 1, _, by omega, by omega, by simp, hL5, hF5, hB5, hb5⟩
        case measure => simp [intOf]; omega
      · have hh : ¬ 0 ≤ tk ∨ ¬ tk < 5000 := by omega
        rcases hh with hh | hh
        · go_wp2
          go_roundw
          case rel => exact ⟨k + 1, _, by omega, by omega, by simp, hL, hF, hB, hbr⟩
          case measure => simp [intOf]; omega
        · by_cases h1 : 0 ≤ tk
          · go_wp2
            go_roundw
            case rel => exact ⟨k + 1, _, by omega, by omega, by simp, hL, hF, hB, hbr⟩
            case measure => simp [intOf]; omega
          · exfalso
            omega
    · have hto : tickOk t = true := decide_eq_true (by omega)
      have hR : Row2 t 0 s := .inl ⟨rfl, hL⟩
      obtain ⟨we, hwe⟩ : ∃ x, x = wr := ⟨wr, rfl⟩
      subst hwe
      have h2 : ¬ (k : Int) < (n : Int) ∨ ¬ (k : Int) < 30 := by omega
      have hk3 : (0 : Int) ≤ (k : Int) := by omega
      by_cases hkn' : (k : Int) < (n : Int)
      rotate_left
      · go_wp2
        go_loopw [53] (fun i wr => ∃ (j : Nat) (s : Es), j ≤ 200 ∧ i = .int .i64 (j : Int) ∧ Row2 t j s ∧ s.Fine 10 1048576 ∧ At wr B (rV 10 1048576 s) ∧ Below w.heap.size w wr) (fun i _ => 200 - (intOf i).toNat)
        case atStart => exact ⟨0, s, by decide, rfl, hR, hF, hB, hbr⟩
        case round =>
          clear hR hF hB hbr hL
          obtain ⟨j, s, hj, rfl, hR, hF, hB, hbr⟩ := hrel
          by_cases hlj : j < 200
          · have hj1 : (j : Int) < 200 := by omega
            have hj3 : (0 : Int) ≤ (j : Int) := by omega
            go_wp2_with fail
            refine (sample_t B 10 1048576 t s wr hB hF hto).mono ?_
            rintro e w5 ⟨rfl, hB5, ht⟩
            have hb5 : Below w.heap.size w w5 := hbr.trans (ht.below hbr.size (fun k hk e => by omega))
            have hF5 := hF.samp hto
            have hR5 := hR.step hF t0 t1
            go_wp2
            go_roundw
            case rel => exact ⟨j + 1, _, by omega, by simp, hR5, hF5, hB5, hb5⟩
            case measure => simp [intOf]; omega
          · have hj1 : ¬ (j : Int) < 200 := by omega
            obtain rfl : j = 200 := by omega
            obtain ⟨q1, q2⟩ := hR.fin t0 t1
            clear hR
            go_wp2_with fail
            refine (wait_any B _ _ _ _ hB).mono ?_
            rintro e w6 ⟨rfl, rfl⟩
            go_wp2_with fail
            refine (wait_any B _ _ _ _ hB).mono ?_
            rintro e w6 ⟨rfl, rfl⟩
            go_wp2
            go_ret
            exact ⟨by first | rfl | simp [q1, q2], hbr⟩
      · have hk30' : ¬ (k : Int) < 30 := by omega
        go_wp2
        go_loopw [53] (fun i wr => ∃ (j : Nat) (s : Es), j ≤ 200 ∧ i = .int .i64 (j : Int) ∧ Row2 t j s ∧ s.Fine 10 1048576 ∧ At wr B (rV 10 1048576 s) ∧ Below w.heap.size w wr) (fun i _ => 200 - (intOf i).toNat)
        case atStart => exact ⟨0, s, by decide, rfl, hR, hF, hB, hbr⟩
        case round =>
          clear hR hF hB hbr hL
          obtain ⟨j, s, hj, rfl, hR, hF, hB, hbr⟩ := hrel
          by_cases hlj : j < 200
          · have hj1 : (j : Int) < 200 := by omega
            have hj3 : (0 : Int) ≤ (j : Int) := by omega
            go_wp2_with fail
            refine (sample_t B 10 1048576 t s wr hB hF hto).mono ?_
            rintro e w5 ⟨rfl, hB5, ht⟩
            have hb5 : Below w.heap.size w w5 := hbr.trans (ht.below hbr.size (fun k hk e => by omega))
            have hF5 := hF.samp hto
            have hR5 := hR.step hF t0 t1
            go_wp2
            go_roundw
            case rel => exact ⟨j + 1, _, by omega, by simp, hR5, hF5, hB5, hb5⟩
            case measure => simp [intOf]; omega
          · have hj1 : ¬ (j : Int) < 200 := by omega
            obtain rfl : j = 200 := by omega
            obtain ⟨q1, q2⟩ := hR.fin t0 t1
            clear hR
            go_wp2_with fail
            refine (wait_any B _ _ _ _ hB).mono ?_
            rintro e w6 ⟨rfl, rfl⟩
            go_wp2_with fail
            refine (wait_any B _ _ _ _ hB).mono ?_
            rintro e w6 ⟨rfl, rfl⟩
            go_wp2
            go_ret
            exact ⟨by first | rfl | simp [q1, q2], hbr⟩
end Go.Proofs.Ytlhfmkobmaafcaa
