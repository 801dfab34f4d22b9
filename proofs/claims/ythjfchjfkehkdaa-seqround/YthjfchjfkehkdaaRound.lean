/-
  Proved: SeqRound returns true for every a, b and by, on no condition.
-/
import Derived.Test.YthjfchjfkehkdaaRows
import Derived.Test.YthjfchjfkehkdaaCuts
import Derived.WalkKit
import Derived.ProofKit
import Derived.OpenShut
import Derived.ShutString
namespace Go.Proofs.Ythjfchjfkehkdaa.seqRound
open Go.ChangeShapes Go.WideShapes Go.ChangeAt Go.RowKit
open Go.ChangeMaps (open_string shut_string)
set_option linter.unusedVariables false      -- a walk need not use every 'w<i>' (that an integer argument fits its kind)

theorem own : ownKnob Try.prog.godebug = none := by kernel_rfl


/-- Plain numbers: what holds of two numbers and of both moved alike. -/
theorem core (A B Y : Int) (hA : 0 ≤ A) (hA1 : A ≤ 4294967295) (hB : 0 ≤ B) (hB1 : B ≤ 4294967295) :
    ∃ (C D x z u v : Int) (p r t : Bool), 0 ≤ C ∧ C ≤ 4294967295 ∧ 0 ≤ D ∧ D ≤ 4294967295 ∧ 0 ≤ x ∧ x ≤ 4294967295 ∧ 0 ≤ z ∧ z ≤ 4294967295 ∧
      Hid ((A + Y) % 4294967296 = C) ∧ Hid ((B + Y) % 4294967296 = D) ∧ Hid ((B - A) % 4294967296 = x) ∧ Hid ((D - C) % 4294967296 = x) ∧ Hid ((A - B) % 4294967296 = z) ∧
      Hid (aheadV A B = p) ∧ Hid (aheadV C D = p) ∧ Hid (aheadV B A = r) ∧ Hid (inV B A Y = t) ∧ Hid (inV D C Y = t) ∧
      Hid (cutS A (Y % 2000) B 500 = u) ∧ Hid (cutS C (Y % 2000) D 500 = u) ∧ Hid (cutK A (Y % 2000) B 500 = v) ∧ Hid (cutK C (Y % 2000) D 500 = v) ∧
      ((x + z) % 4294967296 != 0) = false ∧ (p && r) = false ∧ (A = B ∨ x = 2147483648 ∨ p = true ∨ r = true) := by
  have hn : numB A = true := numB_mk hA hA1
  have hm : numB B = true := numB_mk hB hB1
  have hc : numB ((A + Y) % 4294967296) = true := numB_mk (by omega) (by omega)
  have hd : numB ((B + Y) % 4294967296) = true := numB_mk (by omega) (by omega)
  have hx : ((B + Y) % 4294967296 - (A + Y) % 4294967296) % 4294967296 = (B - A) % 4294967296 := by omega
  refine ⟨(A + Y) % 4294967296, (B + Y) % 4294967296, (B - A) % 4294967296, (A - B) % 4294967296, cutS A (Y % 2000) B 500, cutK A (Y % 2000) B 500, aheadV A B, aheadV B A, inV B A Y, by omega, by omega, by omega, by omega, by omega, by omega, by omega, by omega, rfl, rfl, rfl, hx, rfl, rfl, ?_, rfl, rfl, ?_, rfl, ?_, rfl, ?_, ?_, ?_, ?_⟩
  · show aheadV _ _ = aheadV _ _; unfold aheadV; rw [hn, hm, hc, hd, hx]
  · show inV _ _ _ = inV _ _ _; unfold inV; rw [hn, hm, hc, hd, hx]
  · show cutS _ _ _ _ = cutS _ _ _ _; unfold cutS cutB; rw [hn, hm, hc, hd, hx]
  · show cutK _ _ _ _ = cutK _ _ _ _; unfold cutK cutB; rw [hn, hm, hc, hd, hx]
  · simp only [bne_eq_false_iff_eq]; omega
  · unfold aheadV; rw [hn, hm]; simp only [Bool.true_and, ← Bool.decide_and, decide_eq_false_iff_not]; omega
  · unfold aheadV; rw [hn, hm]; simp only [Bool.true_and, decide_eq_true_eq]; omega

theorem add_is (a n c : Int) (w : World) (a0 : 0 ≤ a) (a1 : a ≤ 4294967295) (n0 : 0 ≤ n) (n1 : n ≤ 4294967295) (h : (a + n) % 4294967296 = c) :
    Calls Try.prog 7 #[.int .i64 a, .int .i64 n] w fun e w' => e = .returned (.tuple #[.int .i64 c, .int .i64 0]) ∧ w' = w := by
  have k := add_any a n w
  rw [addV, numB_mk a0 a1, show stepB n = true from decide_eq_true ⟨by omega, by omega⟩, Bool.and_true, if_pos rfl, codeOf_true, h] at k
  exact k
theorem dist_is (a b c : Int) (w : World) (a0 : 0 ≤ a) (a1 : a ≤ 4294967295) (n0 : 0 ≤ b) (n1 : b ≤ 4294967295) (h : (b - a) % 4294967296 = c) :
    Calls Try.prog 13 #[.int .i64 a, .int .i64 b] w fun e w' => e = .returned (.tuple #[.int .i64 c, .int .i64 0]) ∧ w' = w := by
  have k := dist_any a b w
  rw [distV, numB_mk a0 a1, numB_mk n0 n1, Bool.and_true, if_pos rfl, codeOf_true, h] at k
  exact k
theorem ahd_is (a b : Int) (p : Bool) (w : World) (a0 : 0 ≤ a) (a1 : a ≤ 4294967295) (n0 : 0 ≤ b) (n1 : b ≤ 4294967295) (h : aheadV a b = p) :
    Calls Try.prog 15 #[.int .i64 a, .int .i64 b] w fun e w' => e = .returned (.tuple #[.bool p, .int .i64 0]) ∧ w' = w := by
  have k := ahd_any a b w
  rw [h, numB_mk a0 a1, numB_mk n0 n1, Bool.and_true, codeOf_true] at k
  exact k
theorem in_is (n f l : Int) (p : Bool) (w : World) (a0 : 0 ≤ n) (a1 : n ≤ 4294967295) (n0 : 0 ≤ f) (n1 : f ≤ 4294967295) (l0 : 0 ≤ l) (l1 : l ≤ 4294967295) (h : inV n f l = p) :
    Calls Try.prog 19 #[.int .i64 n, .int .i64 f, .int .i64 l] w fun e w' => e = .returned (.tuple #[.bool p, .int .i64 0]) ∧ w' = w := by
  have k := in_any n f l w
  rw [h, numB_mk a0 a1, numB_mk n0 n1, longB_mk l0 (by omega), Bool.and_true, Bool.and_true, codeOf_true] at k
  exact k
theorem cut_is (f l t s u v : Int) (w : World) (a0 : 0 ≤ f) (a1 : f ≤ 4294967295) (n0 : 0 ≤ t) (n1 : t ≤ 4294967295) (l0 : 0 ≤ l) (l1 : l ≤ 1073741824) (s0 : 0 ≤ s) (s1 : s ≤ 1073741824) (h : cutS f l t s = u) (k : cutK f l t s = v) :
    Calls Try.prog 21 #[.int .i64 f, .int .i64 l, .int .i64 t, .int .i64 s] w fun e w' => e = .returned (.tuple #[.int .i64 u, .int .i64 v, .int .i64 0]) ∧ w' = w := by
  have q := cut_any f l t s w
  rw [h, k, cutB, numB_mk a0 a1, numB_mk n0 n1, mostB_mk l0 l1, mostB_mk s0 s1, Bool.and_true, Bool.and_true, Bool.and_true, codeOf_true] at q
  exact q

/-! ### STEP 1: THE WALK: the Go text returns true. 'Grown w w'': the world has at most new blocks (Derived/RowKit3.lean). Part the cases AHEAD of 'go_enter' where a test parts the walk; take each callee by a contract of your own. -/
set_option maxRecDepth 100000 in
set_option maxHeartbeats 1000000 in
theorem walk (a0 : Int) (a1 : Int) (a2 : Int) (w0 : (Lit.int .i64 a0).wf = true) (w1 : (Lit.int .i64 a1).wf = true) (w2 : (Lit.int .i64 a2).wf = true) (w : World) :
    Calls Try.prog 5 #[.int .i64 a0, .int .i64 a1, .int .i64 a2] w fun e w' => e = .returned (.bool true) ∧ Grown w w' := by
  go_enter Try.func5, Try.ntmps5
  go_wp2_with (first | (go_at_call 12; refine (works_any _).mono ?_; rintro e w' ⟨rfl, rfl⟩) | (go_at_call 23; refine (fit_any _ _).mono ?_; rintro e w' ⟨rfl, rfl⟩))
  have hA : 0 ≤ a0 % 4294967296 := by omega
  have hA1 : a0 % 4294967296 ≤ 4294967295 := by omega
  have hB : 0 ≤ a1 % 4294967296 := by omega
  have hB1 : a1 % 4294967296 ≤ 4294967295 := by omega
  have hY : 0 ≤ a2 % 4294967296 := by omega
  have hY1 : a2 % 4294967296 ≤ 4294967295 := by omega
  generalize a0 % 4294967296 = A at *
  generalize a1 % 4294967296 = B at *
  generalize a2 % 4294967296 = Y at *
  obtain ⟨C, D, x, z, u, v, p, r, t, c0, c1, d0, d1, x0, x1, z0, z1, HC, HD, HX, HX', HZ, HP, HP', HR, HT, HT', HU, HU', HV, HV', hxz, hpr, hor⟩ := core A B Y hA hA1 hB hB1
  have HPR : Hid ((p && r) = false) := hpr
  have HOR : Hid (A = B ∨ x = 2147483648 ∨ p = true ∨ r = true) := hor
  clear hpr hor
  refine (add_is _ _ C _ (by omega) (by omega) (by omega) (by omega) HC.out).mono ?_; rintro e w' ⟨rfl, rfl⟩
  go_wp2_with fail
  refine (add_is _ _ D _ (by omega) (by omega) (by omega) (by omega) HD.out).mono ?_; rintro e w' ⟨rfl, rfl⟩
  go_wp2_with fail
  refine (dist_is _ _ x _ (by omega) (by omega) (by omega) (by omega) HX.out).mono ?_; rintro e w' ⟨rfl, rfl⟩
  go_wp2_with fail
  refine (dist_is _ _ x _ (by omega) (by omega) (by omega) (by omega) HX'.out).mono ?_; rintro e w' ⟨rfl, rfl⟩
  go_wp2_with fail
  refine (dist_is _ _ z _ (by omega) (by omega) (by omega) (by omega) HZ.out).mono ?_; rintro e w' ⟨rfl, rfl⟩
  go_wp2_with fail
  refine (ahd_is _ _ p _ (by omega) (by omega) (by omega) (by omega) HP.out).mono ?_; rintro e w' ⟨rfl, rfl⟩
  go_wp2_with fail
  refine (ahd_is _ _ p _ (by omega) (by omega) (by omega) (by omega) HP'.out).mono ?_; rintro e w' ⟨rfl, rfl⟩
  go_wp2_with fail
  have hcase : ((p = true ∧ r = false) ∨ (p = false ∧ r = true) ∨ (p = false ∧ r = false)) ∧ ((A != B) = false ∨ ((A != B) = true ∧ (x != 2147483648) = false) ∨ ((A != B) = true ∧ (x != 2147483648) = true ∧ (p = true ∨ r = true))) := by
    have h1 := HPR.out
    have h2 := HOR.out
    by_cases e : A = B
    · refine ⟨?_, Or.inl (by simp [e])⟩
      rcases p with _ | _ <;> rcases r with _ | _ <;> simp_all
    · by_cases f : x = 2147483648
      · refine ⟨?_, Or.inr (Or.inl ⟨by simp [e], by simp [f]⟩)⟩
        rcases p with _ | _ <;> rcases r with _ | _ <;> simp_all
      · refine ⟨?_, Or.inr (Or.inr ⟨by simp [e], by simp [f], by simpa [e, f] using h2⟩)⟩
        rcases p with _ | _ <;> rcases r with _ | _ <;> simp_all
  clear HPR HOR
  obtain ⟨hc1, hc2⟩ := hcase
  rcases hc2 with hab | ⟨hab, hxx⟩ | ⟨hab, hxx, hc3⟩
  case inr.inr =>
    have hc4 : (p = true ∧ r = false) ∨ (p = false ∧ r = true) := by rcases hc1 with h | h | h <;> simp_all
    clear hc1 hc3
    rcases hc4 with ⟨rfl, rfl⟩ | ⟨rfl, rfl⟩
    all_goals
      refine (ahd_is _ _ _ _ (by omega) (by omega) (by omega) (by omega) HR.out).mono ?_; rintro e w' ⟨rfl, rfl⟩
      go_wp2_with fail
      refine (in_is _ _ _ _ _ (by omega) (by omega) (by omega) (by omega) (by omega) (by omega) HT.out).mono ?_; rintro e w' ⟨rfl, rfl⟩
      go_wp2_with fail
      refine (in_is _ _ _ _ _ (by omega) (by omega) (by omega) (by omega) (by omega) (by omega) HT'.out).mono ?_; rintro e w' ⟨rfl, rfl⟩
      go_wp2_with fail
      refine (cut_is _ _ _ _ _ _ _ (by omega) (by omega) (by omega) (by omega) (by omega) (by omega) (by omega) (by omega) HU.out HV.out).mono ?_; rintro e w' ⟨rfl, rfl⟩
      go_wp2_with fail
      refine (cut_is _ _ _ _ _ _ _ (by omega) (by omega) (by omega) (by omega) (by omega) (by omega) (by omega) (by omega) HU'.out HV'.out).mono ?_; rintro e w' ⟨rfl, rfl⟩
      go_wp2_with fail
      go_ret
      exact ⟨rfl, Grown.refl _⟩
  all_goals
    rcases hc1 with ⟨rfl, rfl⟩ | ⟨rfl, rfl⟩ | ⟨rfl, rfl⟩
  all_goals
    refine (ahd_is _ _ _ _ (by omega) (by omega) (by omega) (by omega) HR.out).mono ?_; rintro e w' ⟨rfl, rfl⟩
    go_wp2_with fail
    refine (in_is _ _ _ _ _ (by omega) (by omega) (by omega) (by omega) (by omega) (by omega) HT.out).mono ?_; rintro e w' ⟨rfl, rfl⟩
    go_wp2_with fail
    refine (in_is _ _ _ _ _ (by omega) (by omega) (by omega) (by omega) (by omega) (by omega) HT'.out).mono ?_; rintro e w' ⟨rfl, rfl⟩
    go_wp2_with fail
    refine (cut_is _ _ _ _ _ _ _ (by omega) (by omega) (by omega) (by omega) (by omega) (by omega) (by omega) (by omega) HU.out HV.out).mono ?_; rintro e w' ⟨rfl, rfl⟩
    go_wp2_with fail
    refine (cut_is _ _ _ _ _ _ _ (by omega) (by omega) (by omega) (by omega) (by omega) (by omega) (by omega) (by omega) HU'.out HV'.out).mono ?_; rintro e w' ⟨rfl, rfl⟩
    go_wp2_with fail
    go_ret
    exact ⟨rfl, Grown.refl _⟩

/-! ### THE ROW's STEP: WRITTEN OUT: LEAVE IT -/
set_option maxRecDepth 100000 in
theorem lifted (os : Os) (started : os.Started) (H : Type) (enc : TypeId × Value → H) :
    ReturnsInHanded {} Try.checked os 5 .any (Rows.seqRoundSpec.pre6 enc Try.prog Try.f5 Rows.seqRoundRow.domain false) (Rows.seqRoundSpec.post enc Try.prog Try.f5 false true false false) := by
  refine returnsInHanded_of_change (C := Try.checked) own started (by kernel_rfl) Try.func5
    (ChangeSpec.witness6 (enc := enc) (C := Try.checked) false ⟨#[], #[.int .i64 0, .int .i64 0, .int .i64 0], []⟩ 8 (by kernel_rfl) (by kernel_rfl) (by kernel_rfl) (by kernel_rfl)) ?_
  intro W base args ds gs before hval0 hW hcnd _
  have hval : ∀ (j : Nat) t v, Try.f5.params[j]? = some t → args[j]? = some v → Value.okWide Try.prog W .any base t v := hval0
  have hW' := hW
  obtain ⟨p, q, hA0, hV, rfl, hfz, hnd⟩ := hW
  have hA : DataW.TrodAll enc Try.prog W 0 (fun _ => true) true Try.f5.params.toList args.toList ds p := hA0
  rw [Try.params5] at hA hval
  obtain ⟨v0, vs0, d0, ds0, p0, q0, hargs, rfl, rfl, h0, r0⟩ := trodAll_cons hA
  obtain ⟨v1, vs1, d1, ds1, p1, q1, rfl, rfl, rfl, h1, r1⟩ := trodAll_cons r0
  obtain ⟨v2, vs2, d2, ds2, p2, q2, rfl, rfl, rfl, h2, r2⟩ := trodAll_cons r1
  obtain ⟨rfl, rfl, rfl⟩ := trodAll_nil r2
  obtain rfl : args = #[v0, v1, v2] := by cases args; simp_all
  obtain ⟨rfl, rfl⟩ := trodVars_none hV
  obtain ⟨a0, rfl, rfl, rfl, w0⟩ := open_int Try.underlying3 (hval 0 3 v0 rfl rfl) h0
  obtain ⟨a1, rfl, rfl, rfl, w1⟩ := open_int Try.underlying3 (hval 1 3 v1 rfl rfl) h1
  obtain ⟨a2, rfl, rfl, rfl, w2⟩ := open_int Try.underlying3 (hval 2 3 v2 rfl rfl) h2
  clear hA0 hval0
  simp only [List.append_nil] at hW'
  refine (walk a0 a1 a2 w0 w1 w2 W).mono fun e W' ⟨he, hg⟩ => ?_
  subst he
  exact ⟨_, rfl, post_of_same (pa := []) (pv := []) hW' (fun _ _ _ => (trodAll_cons_mk (shut_bool Try.underlying4 _) trodAll_mk0)) (fun sp _ => (trodAll_cons_mk (shut_int Try.underlying3 w0) (trodAll_cons_mk (shut_int Try.underlying3 w1) (trodAll_cons_mk (shut_int Try.underlying3 w2) trodAll_mk0)))) (fun _ _ => rfl) rfl
    (hg.frame _) hg.2.1 (ok_one (by kernel_rfl) rfl (okWide_bool_mk Try.underlying4 _))⟩

theorem over : Rows.seqRoundRow.holds Try.pinned (OpenSpec.ofChange Rows.seqRoundSpec) :=
  OpenClaim.holds_of_wide 5 Try.f5 rfl rfl rfl rfl rfl rfl rfl ⟨rfl, rfl, rfl, rfl, rfl⟩ rfl rfl rfl rfl rfl (by kernel_rfl) Try.func5 (by kernel_rfl)
    (of_decide_eq_true (by kernel_rfl)) (by unfold Func.isWrapper; first | (rw [if_pos (by decide +kernel)]; kernel_rfl) | (rw [if_neg (by decide +kernel)]; exact ⟨rfl, rfl⟩))
    (fun os started H enc _ => lifted os started H enc)

/-- ████ THE STATEMENT ████ -/
theorem proved : Rows.SeqRoundSaid :=
  over
end Go.Proofs.Ythjfchjfkehkdaa.seqRound

namespace Go.Proofs.Ythjfchjfkehkdaa
theorem seqRound_holds : Rows.SeqRoundSaid := seqRound.proved
#print axioms seqRound_holds
end Go.Proofs.Ythjfchjfkehkdaa
