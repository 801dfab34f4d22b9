/-
  Proved: SeqCuts returns true for every from, long and pair at, on no condition.
-/
import Derived.Test.YthjfchjfkehkdaaRows
import Derived.Test.YthjfchjfkehkdaaCuts
import Derived.WalkKit
import Derived.ProofKit
import Derived.OpenShut
import Derived.WideKeyPair
namespace Go.Proofs.Ythjfchjfkehkdaa.seqCuts
open Go.ChangeShapes Go.WideShapes Go.ChangeAt Go.RowKit
set_option linter.unusedVariables false

theorem own : ownKnob Try.prog.godebug = none := by kernel_rfl
theorem pairKey : Go.WideMaps.ArrKey Try.prog 30 3 2 := ⟨Try.underlying30, by kernel_rfl, by kernel_rfl, by kernel_rfl⟩

theorem hid_mk {p : Prop} (h : p) : Hid p := h
theorem cut_core (F L U S T : Int) (hF : 0 ≤ F) (hF1 : F ≤ 4294967295) (hL : 0 ≤ L) (hL1 : L < 300) (hU : 0 ≤ U) (hU1 : U < 700) (hS : 0 ≤ S) (hS1 : S < 300) (hT : (F + (U - 350)) % 4294967296 = T) :
    ∃ (s k : Int), 0 ≤ s ∧ 0 ≤ k ∧ s + k ≤ L ∧ cutS F L T S = s ∧ cutK F L T S = k ∧
      ∀ i : Int, 0 ≤ i → i < L → aheadV ((F + i) % 4294967296) T = decide (i < s) ∧ inV ((F + i) % 4294967296) T S = decide (s ≤ i ∧ i < s + k) := by
  have hT0 : 0 ≤ T := by omega
  have hT1 : T ≤ 4294967295 := by omega
  have hb : cutB F L T S = true := by unfold cutB; rw [numB_mk hF hF1, numB_mk hT0 hT1, mostB_mk hL (by omega), mostB_mk hS (by omega)]; rfl
  refine ⟨cutS F L T S, cutK F L T S, ?_, ?_, ?_, rfl, rfl, ?_⟩
  · unfold cutS; rw [if_pos hb]; omega
  · unfold cutK; rw [if_pos hb]; omega
  · unfold cutS cutK; rw [if_pos hb, if_pos hb]; omega
  · intro i i0 i1
    have hn : numB ((F + i) % 4294967296) = true := numB_mk (by omega) (by omega)
    unfold aheadV inV cutS cutK
    rw [if_pos hb, if_pos hb, hn, numB_mk hT0 hT1, longB_mk hS (by omega)]
    simp only [Bool.true_and, decide_eq_decide]
    omega

theorem add_is (a n c : Int) (w : World) (a0 : 0 ≤ a) (a1 : a ≤ 4294967295) (n0 : -4294967296 ≤ n) (n1 : n ≤ 4294967295) (h : (a + n) % 4294967296 = c) :
    Calls Try.prog 7 #[.int .i64 a, .int .i64 n] w fun e w' => e = .returned (.tuple #[.int .i64 c, .int .i64 0]) ∧ w' = w := by
  have k := add_any a n w
  rw [addV, numB_mk a0 a1, show stepB n = true from decide_eq_true ⟨by omega, by omega⟩, Bool.and_true, if_pos rfl, codeOf_true, h] at k
  exact k
theorem ahd_is (a b : Int) (p : Bool) (w : World) (a0 : 0 ≤ a) (a1 : a ≤ 4294967295) (n0 : 0 ≤ b) (n1 : b ≤ 4294967295) (h : aheadV a b = p) :
    Calls Try.prog 15 #[.int .i64 a, .int .i64 b] w fun e w' => e = .returned (.tuple #[.bool p, .int .i64 0]) ∧ w' = w := by
  have k := ahd_any a b w
  rw [h, numB_mk a0 a1, numB_mk n0 n1, Bool.and_true, codeOf_true] at k
  exact k
theorem in_is (n f l : Int) (p : Bool) (w : World) (a0 : 0 ≤ n) (a1 : n ≤ 4294967295) (n0 : 0 ≤ f) (n1 : f ≤ 4294967295) (l0 : 0 ≤ l) (l1 : l ≤ 4294967295) (h : inV n f l = p) :
    Calls Try.prog 19 #[.int .i64 n, .int .i64 f, .int .i64 l] w fun e w' => e = .returned (.tuple #[.bool p, .int .i64 0]) ∧ w' = w := by
  have k := in_any n f l w
  rw [h, numB_mk a0 a1, numB_mk n0 n1, longB_mk l0 (by omega), Bool.and_true, Bool.and_true, codeOf_true] at k
  exact k
theorem cut_is (f l t s u v : Int) (w : World) (a0 : 0 ≤ f) (a1 : f ≤ 4294967295) (n0 : 0 ≤ t) (n1 : t ≤ 4294967295) (l0 : 0 ≤ l) (l1 : l ≤ 1073741824) (s0 : 0 ≤ s) (s1 : s ≤ 1073741824) (h : cutS f l t s = u) (k : cutK f l t s = v) :
    Calls Try.prog 21 #[.int .i64 f, .int .i64 l, .int .i64 t, .int .i64 s] w fun e w' => e = .returned (.tuple #[.int .i64 u, .int .i64 v, .int .i64 0]) ∧ w' = w := by
  have q := cut_any f l t s w
  rw [h, k, cutB, numB_mk a0 a1, numB_mk n0 n1, mostB_mk l0 l1, mostB_mk s0 s1, Bool.and_true, Bool.and_true, Bool.and_true, codeOf_true] at q
  exact q
set_option maxRecDepth 100000 in
set_option maxHeartbeats 1000000 in
theorem walk (a0 a1 b0 b1 : Int) (w0 : (Lit.int .i64 a0).wf = true) (w1 : (Lit.int .i64 a1).wf = true) (wb0 : (Lit.int .i64 b0).wf = true) (wb1 : (Lit.int .i64 b1).wf = true) (w : World) :
    Calls Try.prog 6 #[.int .i64 a0, .int .i64 a1, .agg #[.int .i64 b0, .int .i64 b1]] w fun e w' => e = .returned (.bool true) ∧ Grown w w' := by
  go_enter Try.func6, Try.ntmps6
  go_wp2_with (first | (go_at_call 12; refine (works_any _).mono ?_; rintro e w' ⟨rfl, rfl⟩) | (go_at_call 23; refine (fit_any _ _).mono ?_; rintro e w' ⟨rfl, rfl⟩) | (go_at_call 24; refine (among_any _ _ _ (by omega) (by omega)).mono ?_; rintro e w' ⟨rfl, rfl⟩))
  have hF : 0 ≤ a0 % 4294967296 := by omega
  have hF1 : a0 % 4294967296 ≤ 4294967295 := by omega
  have hL : 0 ≤ a1 % 300 := by omega
  have hL1 : a1 % 300 < 300 := by omega
  have hU : 0 ≤ b0 % 700 := by omega
  have hU1 : b0 % 700 < 700 := by omega
  have hS : 0 ≤ b1 % 300 := by omega
  have hS1 : b1 % 300 < 300 := by omega
  generalize a0 % 4294967296 = F at *
  generalize a1 % 300 = L at *
  generalize b0 % 700 = U at *
  obtain ⟨T, hT, hT0, hT1⟩ : ∃ T, (F + (U - 350)) % 4294967296 = T ∧ 0 ≤ T ∧ T ≤ 4294967295 := ⟨_, rfl, by omega, by omega⟩
  obtain ⟨s, k, s0, k0, sk, hs, hk, hall⟩ := cut_core F L U (b1 % 300) T hF hF1 hL hL1 hU hU1 hS hS1 hT
  have HT : Hid ((F + (U - 350)) % 4294967296 = T) := hT
  have HS : Hid (cutS F L T (b1 % 300) = s) := hs
  have HK : Hid (cutK F L T (b1 % 300) = k) := hk
  have HALL : Hid (∀ i : Int, 0 ≤ i → i < L → aheadV ((F + i) % 4294967296) T = decide (i < s) ∧ inV ((F + i) % 4294967296) T (b1 % 300) = decide (s ≤ i ∧ i < s + k)) := hall
  clear hT hs hk hall
  refine (add_is _ _ T _ (by omega) (by omega) (by omega) (by omega) HT.out).mono ?_; rintro e w' ⟨rfl, rfl⟩
  go_wp2_with ((go_at_call 24; refine (among_any _ _ _ (by omega) (by omega)).mono ?_; rintro e w' ⟨rfl, rfl⟩))
  generalize b1 % 300 = S at *
  refine (cut_is _ _ _ _ s k _ (by omega) (by omega) (by omega) (by omega) (by omega) (by omega) (by omega) (by omega) HS.out HK.out).mono ?_; rintro e w' ⟨rfl, rfl⟩
  go_wp2_with fail
  go_loop [69] (fun c => ∃ i : Int, 0 ≤ i ∧ i ≤ L ∧ c = .int .i64 i) (fun c => (L - intOf c).toNat)
  case atStart => exact ⟨0, by omega, by omega, rfl⟩
  case round =>
    obtain ⟨i, i0, i1, rfl⟩ := hrel
    by_cases hlt : i < L
    · obtain ⟨hp, hq⟩ := HALL.out i i0 hlt
      have n0 : 0 ≤ (F + i) % 4294967296 := by omega
      have n1 : (F + i) % 4294967296 ≤ 4294967295 := by omega
      have hN : ∃ n, (F + i) % 4294967296 = n := ⟨_, rfl⟩
      obtain ⟨n, hN⟩ := hN
      rw [hN] at hp hq n0 n1
      have HN : Hid ((F + i) % 4294967296 = n) := hN
      clear hN
      have hcase : (i < s ∧ aheadV n T = true ∧ inV n T S = false) ∨ (s ≤ i ∧ i < s + k ∧ aheadV n T = false ∧ inV n T S = true) ∨ (s ≤ i ∧ s + k ≤ i ∧ aheadV n T = false ∧ inV n T S = false) := by
        rw [hp, hq]; simp only [decide_eq_true_eq, decide_eq_false_iff_not]; omega
      clear hp hq
      rcases hcase with ⟨c1, hp, hq⟩ | ⟨c1, c2, hp, hq⟩ | ⟨c1, c2, hp, hq⟩
      all_goals
        have HP := hid_mk hp
        have HQ := hid_mk hq
        clear hp hq
        go_wp2_with fail
        refine (add_is _ _ n _ (by omega) (by omega) (by omega) (by omega) HN.out).mono ?_; rintro e w' ⟨rfl, rfl⟩
        go_wp2_with fail
        refine (in_is _ _ _ _ _ (by omega) (by omega) (by omega) (by omega) (by omega) (by omega) HQ.out).mono ?_; rintro e w' ⟨rfl, rfl⟩
        go_wp2_with fail
        refine (ahd_is _ _ _ _ (by omega) (by omega) (by omega) (by omega) HP.out).mono ?_; rintro e w' ⟨rfl, rfl⟩
        go_wp2_with fail
        go_round
        case rel => exact ⟨i + 1, by omega, by omega, rfl⟩
        case measure => simp [intOf]; omega
    · go_wp2_with fail
      go_ret
      exact ⟨rfl, by repeat (first | exact Grown.refl _ | apply Grown.drew | apply Grown.alloc)⟩

set_option maxRecDepth 100000 in
theorem lifted (os : Os) (started : os.Started) (H : Type) (enc : TypeId × Value → H) :
    ReturnsInHanded {} Try.checked os 6 .any (Rows.seqCutsSpec.pre6 enc Try.prog Try.f6 Rows.seqCutsRow.domain false) (Rows.seqCutsSpec.post enc Try.prog Try.f6 false true false false) := by
  refine returnsInHanded_of_change (C := Try.checked) own started (by kernel_rfl) Try.func6
    (ChangeSpec.witness6 (enc := enc) (C := Try.checked) false ⟨#[], #[.int .i64 0, .int .i64 0, .agg #[.int .i64 0, .int .i64 0]], []⟩ 8 (by kernel_rfl) (by kernel_rfl) (by kernel_rfl) (by kernel_rfl)) ?_
  intro W base args ds gs before hval0 hW hcnd _
  have hval : ∀ (j : Nat) t v, Try.f6.params[j]? = some t → args[j]? = some v → Value.okWide Try.prog W .any base t v := hval0
  have hW' := hW
  obtain ⟨p, q, hA0, hV, rfl, hfz, hnd⟩ := hW
  have hA : DataW.TrodAll enc Try.prog W 0 (fun _ => true) true Try.f6.params.toList args.toList ds p := hA0
  rw [Try.params6] at hA hval
  obtain ⟨v0, vs0, d0, ds0, p0, q0, hargs, rfl, rfl, h0, r0⟩ := trodAll_cons hA
  obtain ⟨v1, vs1, d1, ds1, p1, q1, rfl, rfl, rfl, h1, r1⟩ := trodAll_cons r0
  obtain ⟨v2, vs2, d2, ds2, p2, q2, rfl, rfl, rfl, h2, r2⟩ := trodAll_cons r1
  obtain ⟨rfl, rfl, rfl⟩ := trodAll_nil r2
  obtain rfl : args = #[v0, v1, v2] := by cases args; simp_all
  obtain ⟨rfl, rfl⟩ := trodVars_none hV
  obtain ⟨a0, rfl, rfl, rfl, w0⟩ := open_int Try.underlying3 (hval 0 3 v0 rfl rfl) h0
  obtain ⟨a1, rfl, rfl, rfl, w1⟩ := open_int Try.underlying3 (hval 1 3 v1 rfl rfl) h1
  obtain ⟨b0, b1, rfl, rfl, rfl, wb0, wb1⟩ := Go.WideMaps.open_pair pairKey Try.underlying3 (hval 2 30 v2 rfl rfl) h2
  clear hA0 hval0
  simp only [List.append_nil] at hW'
  refine (walk a0 a1 b0 b1 w0 w1 wb0 wb1 W).mono fun e W' ⟨he, hg⟩ => ?_
  subst he
  exact ⟨_, rfl, post_of_same (pa := []) (pv := []) hW' (fun _ _ _ => (trodAll_cons_mk (shut_bool Try.underlying4 _) trodAll_mk0)) (fun sp _ => (trodAll_cons_mk (shut_int Try.underlying3 w0) (trodAll_cons_mk (shut_int Try.underlying3 w1) (trodAll_cons_mk (Go.WideMaps.shut_pair pairKey Try.underlying3 wb0 wb1) trodAll_mk0)))) (fun _ _ => rfl) rfl
    (hg.frame _) hg.2.1 (ok_one (by kernel_rfl) rfl (okWide_bool_mk Try.underlying4 _))⟩

theorem over : Rows.seqCutsRow.holds Try.pinned (OpenSpec.ofChange Rows.seqCutsSpec) :=
  OpenClaim.holds_of_wide 6 Try.f6 rfl rfl rfl rfl rfl rfl rfl ⟨rfl, rfl, rfl, rfl, rfl⟩ rfl rfl rfl rfl rfl (by kernel_rfl) Try.func6 (by kernel_rfl)
    (of_decide_eq_true (by kernel_rfl)) (by unfold Func.isWrapper; first | (rw [if_pos (by decide +kernel)]; kernel_rfl) | (rw [if_neg (by decide +kernel)]; exact ⟨rfl, rfl⟩))
    (fun os started H enc _ => lifted os started H enc)
end Go.Proofs.Ythjfchjfkehkdaa.seqCuts

namespace Go.Proofs.Ythjfchjfkehkdaa
theorem seqCuts_holds : Rows.SeqCutsSaid := seqCuts.over
#print axioms seqCuts_holds
end Go.Proofs.Ythjfchjfkehkdaa
