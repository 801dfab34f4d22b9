/- Proved: for all strings and numbers sum.Put and sum.Get answer as the document has it, and the chapter's example holds; no condition. -/
import Derived.Test.YtckfaohmjddkhaaRows
import Derived.Test.YtckfaohmjddkhaaSums
import Derived.WideKeyPair
import Derived.WalkKit
import Derived.ProofKit
import Derived.OpenShut
import Derived.ShutString
import Derived.ChangeOld
import Derived.Below
import Derived.SizedLaws
namespace Go.Proofs.Ytckfaohmjddkhaa.sumNumbers
open Go.ChangeShapes Go.WideShapes Go.ChangeAt Go.RowKit
open Go.ChangeMaps (open_string shut_string)
set_option linter.unusedVariables false

theorem pairKey : Go.WideMaps.ArrKey Try.prog 30 3 2 := ⟨Try.underlying30, by kernel_rfl, by kernel_rfl, by kernel_rfl⟩
theorem own : ownKnob Try.prog.godebug = none := by kernel_rfl

-- WALK
theorem walk (a0 : ByteArray) (w0 : a0.size ≤ maxLen) (b1 c1 : Int) (a2 : Int) (w2 : (Lit.int .i64 a2).wf = true) (w : World) :
    Calls Try.prog 4 #[.string a0, .agg #[.int .i64 b1, .int .i64 c1], .int .i64 a2] w fun e w' => e = .returned (.bool true) ∧ Below w.heap.size w w' := by
  have hx : (w.alloc (.cells #[.int .i64 b1, .int .i64 c1] 30)).cell? ⟨w.heap.size, 0, none⟩ = some (.int .i64 b1) := by simp
  have hy : (w.alloc (.cells #[.int .i64 b1, .int .i64 c1] 30)).cell? ⟨w.heap.size, 1, none⟩ = some (.int .i64 c1) := by simp
  have hb := (Below.refl w.heap.size w).alloc (Nat.le_refl _) (.cells #[.int .i64 b1, .int .i64 c1] 30)
  go_enter Try.func4, Try.ntmps4
  go_wp2_with fail
  refine (pput_any _ _ _).mono ?_
  rintro e u1 ⟨rfl, l1⟩
  have x1 := cell_later l1 hx
  have y1 := cell_later l1 hy
  go_wp2_with fail
  refine (rpput_any _ _ _).mono ?_
  rintro e u2 ⟨rfl, l2⟩
  have x2 := cell_later l2 x1
  have y2 := cell_later l2 y1
  go_wp2_with fail
  refine (get_any _ _ _ _ w0).mono ?_
  rintro e u3 ⟨rfl, l3⟩
  have x3 := cell_later l3 x2
  have y3 := cell_later l3 y2
  go_wp2_with fail
  refine (rget_any _ _ _ _ w0).mono ?_
  rintro e u4 ⟨rfl, rfl⟩
  go_wp2_with (go_at_call 12; refine (works_any _).mono ?_; rintro e u5 ⟨rfl, l5⟩)
  go_ret
  exact ⟨rfl, bt (bt (bt (bt hb l1) l2) l3) l5⟩


set_option maxRecDepth 100000 in
theorem lifted (os : Os) (started : os.Started) (H : Type) (enc : TypeId × Value → H) :
    ReturnsInHanded {} Try.checked os 4 .any (Rows.sumNumbersSpec.pre6 enc Try.prog Try.f4 Rows.sumNumbersRow.domain false) (Rows.sumNumbersSpec.post enc Try.prog Try.f4 false true false false) := by
  refine returnsInHanded_of_change (C := Try.checked) own started (by kernel_rfl) Try.func4
    (ChangeSpec.witness6 (enc := enc) (C := Try.checked) false ⟨#[], #[.string ByteArray.empty, .agg #[.int .i64 0, .int .i64 0], .int .i64 0], []⟩ 8 (by kernel_rfl) (by kernel_rfl) (by kernel_rfl) (by kernel_rfl)) ?_
  intro W base args ds gs before hval0 hW hcnd _
  have hval : ∀ (j : Nat) t v, Try.f4.params[j]? = some t → args[j]? = some v → Value.okWide Try.prog W .any base t v := hval0
  have hW' := hW
  obtain ⟨p, q, hA0, hV, rfl, hfz, hnd⟩ := hW
  have hA : DataW.TrodAll enc Try.prog W 0 (fun _ => true) true Try.f4.params.toList args.toList ds p := hA0
  rw [Try.params4] at hA hval
  obtain ⟨v0, vs0, d0, ds0, p0, q0, hargs, rfl, rfl, h0, r0⟩ := trodAll_cons hA
  obtain ⟨v1, vs1, d1, ds1, p1, q1, rfl, rfl, rfl, h1, r1⟩ := trodAll_cons r0
  obtain ⟨v2, vs2, d2, ds2, p2, q2, rfl, rfl, rfl, h2, r2⟩ := trodAll_cons r1
  obtain ⟨rfl, rfl, rfl⟩ := trodAll_nil r2
  obtain rfl : args = #[v0, v1, v2] := by cases args; simp_all
  obtain ⟨rfl, rfl⟩ := trodVars_none hV
  obtain ⟨a0, rfl, rfl, rfl, w0⟩ := open_string Try.underlying9 (hval 0 9 v0 rfl rfl) h0
  obtain ⟨b1, c1, rfl, rfl, rfl, wb1, wc1⟩ := Go.WideMaps.open_pair pairKey Try.underlying3 (hval 1 30 v1 rfl rfl) h1
  obtain ⟨a2, rfl, rfl, rfl, w2⟩ := open_int Try.underlying3 (hval 2 3 v2 rfl rfl) h2
  clear hA0 hval0
  refine (walk a0 w0 b1 c1 a2 w2 W).mono fun e W' ⟨he, bel⟩ => ?_
  subst he
  exact ⟨_, rfl, _, _, _, [], _, [], hW', trodAll_mk1 (shut_bool Try.underlying4 _), (trodAll_cons_mk (shut_string Try.underlying9 w0) (trodAll_cons_mk (Go.WideMaps.shut_pair pairKey Try.underlying3 wb1 wc1) (trodAll_cons_mk (shut_int Try.underlying3 w2) trodAll_mk0))), rfl, bel.frame _, fun h => by cases h⟩

theorem over : Rows.sumNumbersRow.holds Try.pinned (OpenSpec.ofChange Rows.sumNumbersSpec) :=
  OpenClaim.holds_of_wide 4 Try.f4 rfl rfl rfl rfl rfl rfl rfl ⟨rfl, rfl, rfl, rfl, rfl⟩ rfl rfl rfl rfl rfl (by kernel_rfl) Try.func4 (by kernel_rfl)
    (of_decide_eq_true (by kernel_rfl)) (by unfold Func.isWrapper; first | (rw [if_pos (by decide +kernel)]; kernel_rfl) | (rw [if_neg (by decide +kernel)]; exact ⟨rfl, rfl⟩))
    (fun os started H enc _ => lifted os started H enc)

end Go.Proofs.Ytckfaohmjddkhaa.sumNumbers
namespace Go.Proofs.Ytckfaohmjddkhaa
theorem sumNumbers_holds : Rows.SumNumbersSaid := sumNumbers.over
end Go.Proofs.Ytckfaohmjddkhaa
