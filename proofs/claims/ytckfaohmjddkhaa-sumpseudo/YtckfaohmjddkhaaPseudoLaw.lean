/- Proved: for all numbers sum.Pseudo and sum.Turn answer as the document has it, and the chapter's example holds; no condition. -/
import Derived.Test.YtckfaohmjddkhaaRows
import Derived.Test.YtckfaohmjddkhaaTurns
import Derived.Lib.SmallJoins
import Derived.WalkKit
import Derived.ProofKit
import Derived.OpenShut
import Derived.ShutString
import Derived.ChangeOld
import Derived.Below
import Derived.SizedLaws
namespace Go.Proofs.Ytckfaohmjddkhaa.sumPseudo
open Go.ChangeShapes Go.WideShapes Go.ChangeAt Go.RowKit
open Go.ChangeMaps (open_string shut_string)
set_option linter.unusedVariables false

theorem cellsG : Try.prog.cellsOf 39 = 2 := by kernel_rfl
theorem shutG {H : Type} {enc : TypeId × Value → H} {w : World} {base : Nat} {spare : Nat → Bool} {held : Bool} {b c : Int} (wb : (Lit.int .i64 b).wf = true) (wc : (Lit.int .i64 c).wf = true) :
    DataW.Trod enc Try.prog w base spare held 39 (.agg #[.int .i64 b, .int .i64 c]) (.agg [.lit (.int .i64 b), .lit (.int .i64 c)]) [] :=
  Go.Joins.shut_agg2 (y0 := (.lit (.int .i64 b), [])) (y1 := (.lit (.int .i64 c), [])) Try.underlying39 (by kernel_rfl) cellsG ⟨1, by simp [DataW.trod, Try.underlying3, wb]⟩ ⟨1, by simp [DataW.trod, Try.underlying3, wc]⟩
theorem own : ownKnob Try.prog.godebug = none := by kernel_rfl

-- WALK
theorem walk (b0 c0 : Int) (a1 : Int) (w1 : (Lit.int .i64 a1).wf = true) (a2 : Int) (w2 : (Lit.int .i64 a2).wf = true) (w : World) :
    Calls Try.prog 6 #[.agg #[.int .i64 b0, .int .i64 c0], .int .i64 a1, .int .i64 a2] w fun e w' => e = .returned (.bool true) ∧ Below w.heap.size w w' := by
  have hx : (w.alloc (.cells #[.int .i64 b0, .int .i64 c0] 39)).cell? ⟨w.heap.size, 0, none⟩ = some (.int .i64 b0) := by simp
  have hy : (w.alloc (.cells #[.int .i64 b0, .int .i64 c0] 39)).cell? ⟨w.heap.size, 1, none⟩ = some (.int .i64 c0) := by simp
  have hb := (Below.refl w.heap.size w).alloc (Nat.le_refl _) (.cells #[.int .i64 b0, .int .i64 c0] 39)
  go_enter Try.func6, Try.ntmps6
  go_wp2_with fail
  refine (pseudo_any _ _ _ _ _).mono ?_
  rintro e u1 ⟨rfl, b1⟩
  have x1 := cell_later b1 hx
  have y1 := cell_later b1 hy
  go_wp2_with fail
  refine (rpseudo_any _ _ _ _ _).mono ?_
  rintro e u2 ⟨rfl, b2⟩
  have x2 := cell_later b2 x1
  go_wp2_with fail
  refine (turn_any _ _ _ _).mono ?_
  rintro e u3 ⟨rfl, rfl⟩
  go_wp2_with fail
  refine (rturn_any _ _ _ _).mono ?_
  rintro e u4 ⟨rfl, b4⟩
  go_wp2_with (go_at_call 12; refine (works_any _).mono ?_; rintro e u5 ⟨rfl, b5⟩)
  go_ret
  exact ⟨rfl, bt (bt (bt (bt hb b1) b2) b4) b5⟩


set_option maxRecDepth 100000 in
theorem lifted (os : Os) (started : os.Started) (H : Type) (enc : TypeId × Value → H) :
    ReturnsInHanded {} Try.checked os 6 .any (Rows.sumPseudoSpec.pre6 enc Try.prog Try.f6 Rows.sumPseudoRow.domain false) (Rows.sumPseudoSpec.post enc Try.prog Try.f6 false true false false) := by
  refine returnsInHanded_of_change (C := Try.checked) own started (by kernel_rfl) Try.func6
    (ChangeSpec.witness6 (enc := enc) (C := Try.checked) false ⟨#[], #[.agg #[.int .i64 0, .int .i64 0], .int .i64 0, .int .i64 0], []⟩ 8 (by kernel_rfl) (by kernel_rfl) (by kernel_rfl) (by kernel_rfl)) ?_
  intro W base args ds gs before hval0 hW hcnd _
  have hval : ∀ (j : Nat) t v, Try.f6.params[j]? = some t → args[j]? = some v → Value.okWide Try.prog W .any base t v := hval0
  have hW' := hW
  obtain ⟨p, q, hA0, hV, rfl, hfz, hnd⟩ := hW
  have hA : DataW.TrodAll enc Try.prog W 0 (fun _ => true) true Try.f6.params.toList args.toList ds p := hA0
  rw [Try.params6] at hA hval
  obtain ⟨v0, vs0, d0, ds0, p0, q0, hargs, rfl, rfl, h0, r0⟩ := trodAll_cons hA
  obtain ⟨v1, vs1, d1, ds1, p1, q1, rfl, rfl, rfl, h1, r1⟩ := trodAll_cons r0
  obtain ⟨v2, vs2, d2, ds2, p2, q2, rfl, rfl, rfl, h2, r2⟩ := trodAll_cons r1
  obtain ⟨rfl, rfl, rfl⟩ := trodAll_nil r2
  obtain rfl : args = #[v0, v1, v2] := by cases args; simp_all
  obtain ⟨rfl, rfl⟩ := trodVars_none hV
  obtain ⟨x0, y0, yb0, yc0, m, rfl, rfl, rfl, hyb0, hyc0⟩ := Go.Joins.open_agg2 Try.underlying39 (by kernel_rfl) cellsG (hval 0 39 v0 rfl rfl) h0
  obtain ⟨b0, eb0, rfl, wb0⟩ := DataW.trod_int Try.underlying3 hyb0
  obtain ⟨c0, ec0, rfl, wc0⟩ := DataW.trod_int Try.underlying3 hyc0
  simp at eb0 ec0
  subst eb0 ec0
  obtain ⟨a1, rfl, rfl, rfl, w1⟩ := open_int Try.underlying3 (hval 1 3 v1 rfl rfl) h1
  obtain ⟨a2, rfl, rfl, rfl, w2⟩ := open_int Try.underlying3 (hval 2 3 v2 rfl rfl) h2
  clear hA0 hval0
  refine (walk b0 c0 a1 w1 a2 w2 W).mono fun e W' ⟨he, bel⟩ => ?_
  subst he
  exact ⟨_, rfl, _, _, _, [], _, [], hW', trodAll_mk1 (shut_bool Try.underlying4 _), (trodAll_cons_mk (shutG wb0 wc0) (trodAll_cons_mk (shut_int Try.underlying3 w1) (trodAll_cons_mk (shut_int Try.underlying3 w2) trodAll_mk0))), rfl, bel.frame _, fun h => by cases h⟩

theorem over : Rows.sumPseudoRow.holds Try.pinned (OpenSpec.ofChange Rows.sumPseudoSpec) :=
  OpenClaim.holds_of_wide 6 Try.f6 rfl rfl rfl rfl rfl rfl rfl ⟨rfl, rfl, rfl, rfl, rfl⟩ rfl rfl rfl rfl rfl (by kernel_rfl) Try.func6 (by kernel_rfl)
    (of_decide_eq_true (by kernel_rfl)) (by unfold Func.isWrapper; first | (rw [if_pos (by decide +kernel)]; kernel_rfl) | (rw [if_neg (by decide +kernel)]; exact ⟨rfl, rfl⟩))
    (fun os started H enc _ => lifted os started H enc)

end Go.Proofs.Ytckfaohmjddkhaa.sumPseudo
namespace Go.Proofs.Ytckfaohmjddkhaa
theorem sumPseudo_holds : Rows.SumPseudoSaid := sumPseudo.over
end Go.Proofs.Ytckfaohmjddkhaa
