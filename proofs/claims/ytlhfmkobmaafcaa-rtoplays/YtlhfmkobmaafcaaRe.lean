/- The example works; RtoDoubles and RtoSteady, walked. -/
import Derived.Test.YtlhfmkobmaafcaaRb
import Derived.Test.YtlhfmkobmaafcaaRc
import Derived.Test.YtlhfmkobmaafcaaFlat
import Derived.Deep.Cut
import Derived.Deep.CutRange
namespace Go.Proofs.Ytlhfmkobmaafcaa
open Go.RowKit
set_option maxRecDepth 100000
set_option linter.unusedVariables false
set_option linter.unusedSimpArgs false

theorem tmod_round (n m : Int) (hm : 0 < m) : (n.tmod m + m) % m = n % m ∧ -m < n.tmod m ∧ n.tmod m < m := by
  refine ⟨?_, ?_, Int.tmod_lt_of_pos n hm⟩
  · rw [Int.add_emod_right]
    by_cases h0 : 0 ≤ n
    · rw [Int.tmod_eq_emod_of_nonneg h0, Int.emod_emod]
    · obtain ⟨k, rfl⟩ : ∃ k : Int, n = -k := ⟨-n, by omega⟩
      rw [Int.neg_tmod, Int.tmod_eq_emod_of_nonneg (by omega : 0 ≤ k)]
      have e : -k = -(k % m) + m * (-(k / m)) := by have := Int.emod_add_mul_ediv k m; rw [Int.mul_neg]; omega
      have h := Int.add_mul_emod_self_left (-(k % m)) m (-(k / m))
      rw [← e] at h; exact h.symm
  · by_cases h0 : 0 ≤ n
    · have := Int.tmod_nonneg m h0; omega
    · obtain ⟨k, rfl⟩ : ∃ k : Int, n = -k := ⟨-n, by omega⟩
      rw [Int.neg_tmod]; have := Int.tmod_lt_of_pos k hm; omega
theorem among_any (n m : Int) (w : World) (m0 : 0 < m) (m1 : m ≤ 1000000000000) :
    Calls Try.prog 17 #[.int .i64 n, .int .i64 m] w fun e w' => e = .returned (.int .i64 (n % m)) ∧ w' = w := by
  obtain ⟨h, h1, h2⟩ := tmod_round n m m0
  rw [← h]; clear h
  go_enter Try.func17, Try.ntmps17
  go_wp2
  go_ret
  exact ⟨rfl, rfl⟩
theorem At.drewN {W : World} {b : Nat} {vs : Array Value} (h : At W b vs) (n : Nat) : At (W.drewN n) b vs := h.later (below_drewN (Below.refl _ _) n)
set_option maxHeartbeats 2000000 in
theorem works_any (w : World) : Calls Try.prog 9 #[] w fun e w' => e = .returned (.bool true) ∧ Below w.heap.size w w' := by
  have hF := fine_new (f := 100) (l := 10) (g := 1000) (by decide)
  go_enter Try.func9, Try.ntmps9
  go_wp2_with fail
  refine (newk_t 100 10 1000 w (by decide)).mono ?_
  rintro e w1 ⟨B, rfl, hBw, hB, hb1⟩
  go_wp2_with fail
  refine (sample_t B 10 1000 40 _ w1 hB hF (by decide)).mono ?_
  rintro e w2 ⟨rfl, hB2, ht⟩
  have hs : sampE 10 1000 40 (newE 100) = ⟨true, 320, 80, 120, 0⟩ := by kernel_rfl
  rw [hs] at hB2
  have hb2 : Below w.heap.size w w2 := hb1.trans (ht.below hb1.size (fun k hk e => by omega))
  go_wp2_with fail
  refine (state_any B _ _ _ w2 hB2).mono ?_
  rintro e w3 ⟨rfl, q, rfl⟩
  go_wp2_with fail
  refine (wait_any B _ _ _ _ (hB2.drewN q)).mono ?_
  rintro e w4 ⟨rfl, rfl⟩
  go_wp2
  go_ret
  exact ⟨rfl, below_drewN hb2 q⟩
theorem samp_same (g t : Int) {s s' : Es} (h : s.so = false) (h' : s'.so = false) : sampE 1 g t s = sampE 1 g t s' := by
  unfold sampE meS deS
  rw [h, h']
  rfl
set_option maxHeartbeats 2000000 in
theorem doubles_any (fi ma gr : Int) (w : World) (h1 : (Lit.int .i64 fi).wf = true) :
    Calls Try.prog 6 #[.int .i64 fi, .int .i64 ma, .int .i64 gr] w fun e w' => e = .returned (.bool true) ∧ Below w.heap.size w w' := by
  go_enter Try.func6, Try.ntmps6
  go_wp2_with fail
  refine (among_any fi 1000 w (by decide) (by decide)).mono ?_
  rintro e w1 ⟨rfl, rfl⟩
  have f0 : 0 ≤ fi % 1000 := Int.emod_nonneg _ (by decide)
  have f1 : fi % 1000 < 1000 := Int.emod_lt_of_pos _ (by decide)
  generalize fi % 1000 = f at *
  go_wp2_with fail
  refine (among_any gr 524288 w1 (by decide) (by decide)).mono ?_
  rintro e w1 ⟨rfl, rfl⟩
  have g0 : 0 ≤ gr % 524288 := Int.emod_nonneg _ (by decide)
  have g1 : gr % 524288 < 524288 := Int.emod_lt_of_pos _ (by decide)
  generalize gr % 524288 = g at *
  go_wp2_with fail
  refine (among_any ma 40 w1 (by decide) (by decide)).mono ?_
  rintro e w1 ⟨rfl, rfl⟩
  have m0 : 0 ≤ ma % 40 := Int.emod_nonneg _ (by decide)
  have m1 : ma % 40 < 40 := Int.emod_lt_of_pos _ (by decide)
  generalize ma % 40 = m at *
  obtain ⟨M, rfl⟩ : ∃ M : Nat, m = (M : Int) := ⟨m.toNat, by omega⟩
  have hok : newOk (1 + f) 1 (1 + f + g) = true := decide_eq_true (by omega)
  have hF := fine_new hok
  go_wp2_with fail
  refine (newk_t (1 + f) 1 (1 + f + g) w1 hok).mono ?_
  rintro e w2 ⟨B, rfl, hBw, hB, hb1⟩
  go_wp2_with fail
  refine (newk_t (1 + f) 1 (1 + f + g) w2 hok).mono ?_
  rintro e w3 ⟨C, rfl, hCw, hC, hb2⟩
  go_wp2_with fail
  refine (works_any w3).mono ?_
  rintro e w4 ⟨rfl, hb3⟩
  have hB4 := (hB.later hb2).later hb3
  have hC4 := hC.later hb3
  have hb4 := bt hb1 (bt hb2 hb3)
  have hBC : C ≠ B := by have := hB.1; omega
  have hBs : w1.heap.size ≤ B := by omega
  have hCs : w1.heap.size ≤ C := by have := hb1.size; omega
  clear hb1 hb2 hb3 hB hC
  have hwa : (newE (1 + f)).wa = 1 + f := rfl
  go_upto_region 8 with fail
  clear hBw hCw
  go_wp2
  go_loopw [11, 56] (fun v i wr => ∃ (k : Nat) (s : Es), v = .int .i64 s.wa ∧ i = .int .i64 (k : Int) ∧ k ≤ M ∧ s.so = false ∧ s.Fine 1 (1 + f + g) ∧ At wr B (rV 1 (1 + f + g) s) ∧ At wr C (rV 1 (1 + f + g) (newE (1 + f))) ∧ Below w1.heap.size w1 wr) (fun _ i _ => M - (intOf i).toNat)
  case atStart => exact ⟨0, newE (1 + f), rfl, rfl, Nat.zero_le _, rfl, hF, hB4, hC4, hb4⟩
  case round =>
    clear hB4 hC4 hb4
    obtain ⟨k, s, rfl, rfl, hk, hso, hFs, hB, hC, hb⟩ := hrel
    by_cases hlt : k < M
    · have hk1 : (k : Int) < (M : Int) := by omega
      have hk3 : (0 : Int) ≤ (k : Int) := by omega
      have hw0 := hFs.w0
      have hw1 := hFs.w1
      have hmm : min (1 + f + g) (2 * s.wa) = min (2 * s.wa) (1 + f + g) := Int.min_comm _ _
      go_wp2_with fail
      refine (back_any B 1 (1 + f + g) s wr hB hFs).mono ?_
      rintro e w5 ⟨rfl, hB5, ht⟩
      have hC5 := hC.turn ht hBC
      have hb5 : Below w1.heap.size w1 w5 := hb.trans (ht.below hb.size (fun k hk e => by omega))
      have hF5 := hFs.back
      have he : (backE (1 + f + g) s).wa = min (2 * s.wa) (1 + f + g) := rfl
      go_wp2
      go_roundw
      case rel => exact ⟨k + 1, backE (1 + f + g) s, rfl, by simp, by omega, hso, hF5, hB5, hC5, hb5⟩
      case measure => simp [intOf]; omega
    · have hk1 : ¬ (k : Int) < (M : Int) := by omega
      have htk : tickOk 9 = true := by decide
      go_wp2_with fail
      refine (sample_t B 1 (1 + f + g) 9 s wr hB hFs htk).mono ?_
      rintro e w5 ⟨rfl, hB5, ht⟩
      have hC5 := hC.turn ht hBC
      have hb5 : Below w1.heap.size w1 w5 := hb.trans (ht.below hb.size (fun k hk e => by omega))
      rw [samp_same (1 + f + g) 9 hso (s' := newE (1 + f)) rfl] at hB5
      go_wp2_with fail
      refine (sample_t C 1 (1 + f + g) 9 (newE (1 + f)) w5 hC5 hF htk).mono ?_
      rintro e w6 ⟨rfl, hC6, ht6⟩
      have hB6 := hB5.turn ht6 hBC.symm
      have hb6 : Below w1.heap.size w1 w6 := hb5.trans (ht6.below hb5.size (fun k hk e => by omega))
      go_wp2_with fail
      refine (state_any B _ _ _ w6 hB6).mono ?_
      rintro e w7 ⟨rfl, q, rfl⟩
      go_wp2_with fail
      refine (wait_any B _ _ _ _ (hB6.drewN q)).mono ?_
      rintro e w8 ⟨rfl, rfl⟩
      go_wp2_with fail
      refine (wait_any C _ _ _ _ (hC6.drewN q)).mono ?_
      rintro e w8 ⟨rfl, rfl⟩
      have hba : (sampE 1 (1 + f + g) 9 (newE (1 + f))).ba = 0 := rfl
      go_wp2
      go_ret
      exact ⟨rfl, below_drewN hb6 q⟩
end Go.Proofs.Ytlhfmkobmaafcaa
