/- Proved: for all strings and numbers ether.Decode and ether.Group answer as the document has it, and the chapter's example holds; no condition. -/
import Derived.Test.YtbppijgceacepaaRows
import Derived.Test.YtbppijgceacepaaRdec
import Derived.WalkKit
import Derived.ProofKit
import Derived.OpenShut
import Derived.ShutString
import Derived.ChangeOld
import Derived.Below
import Derived.SizedLaws
namespace Go.Proofs.Ytbppijgceacepaa.etherReads
open Go.ChangeShapes Go.WideShapes Go.ChangeAt Go.RowKit
open Go.ChangeMaps (open_string shut_string)
set_option linter.unusedVariables false

theorem own : ownKnob Try.prog.godebug = none := by kernel_rfl

-- WALK
set_option maxHeartbeats 1000000 in
theorem walk (a0 : ByteArray) (w0 : a0.size ≤ maxLen) (a1 : Int) (w1 : (Lit.int .i64 a1).wf = true) (w : World) :
    Calls Try.prog 4 #[.string a0, .int .i64 a1] w fun e w' => e = .returned (.bool true) ∧ Below w.heap.size w w' := by
  go_enter Try.func4, Try.ntmps4
  go_wp2_with fail
  refine (dec_any _ _ w0).mono ?_
  rintro e u1 ⟨rfl, l1⟩
  go_wp2_with fail
  refine (rdec_any _ _ w0).mono ?_
  rintro e u2 ⟨rfl, l2⟩
  obtain ⟨⟨c0, c1, c2, c3⟩, -, -⟩ := (at_box u1 (.int .i64 (deT a0)) (.int .i64 (deF a0)) (.int .i64 (deK a0)) (.string (deD a0)) 23).later (bt l2 (bel1 u2 (.cells #[.int .i64 (deT a0), .int .i64 (deF a0), .int .i64 (deK a0), .string (deD a0)] 23)))
  go_wp2_with (first | (go_at_call 18; refine (pgroup_any _ _).mono ?_; rintro e u ⟨rfl, rfl⟩) | (go_at_call 19; refine (rpgroup_any _ _).mono ?_; rintro e u ⟨rfl, rfl⟩) | (go_at_call 15; refine (works_any _).mono ?_; rintro e u5 ⟨rfl, l5⟩))
  go_ret
  exact ⟨rfl, bt (bt (bt (bt l1 (bel1 u1 _)) l2) (bel1 u2 _)) l5⟩


set_option maxRecDepth 100000 in
theorem lifted (os : Os) (started : os.Started) (H : Type) (enc : TypeId × Value → H) :
    ReturnsInHanded {} Try.checked os 4 .any (Rows.etherReadsSpec.pre6 enc Try.prog Try.f4 Rows.etherReadsRow.domain false) (Rows.etherReadsSpec.post enc Try.prog Try.f4 false true false false) := by
  refine returnsInHanded_of_change (C := Try.checked) own started (by kernel_rfl) Try.func4
    (ChangeSpec.witness6 (enc := enc) (C := Try.checked) false ⟨#[], #[.string ByteArray.empty, .int .i64 0], []⟩ 8 (by kernel_rfl) (by kernel_rfl) (by kernel_rfl) (by kernel_rfl)) ?_
  intro W base args ds gs before hval0 hW hcnd _
  have hval : ∀ (j : Nat) t v, Try.f4.params[j]? = some t → args[j]? = some v → Value.okWide Try.prog W .any base t v := hval0
  have hW' := hW
  obtain ⟨p, q, hA0, hV, rfl, hfz, hnd⟩ := hW
  have hA : DataW.TrodAll enc Try.prog W 0 (fun _ => true) true Try.f4.params.toList args.toList ds p := hA0
  rw [Try.params4] at hA hval
  obtain ⟨v0, vs0, d0, ds0, p0, q0, hargs, rfl, rfl, h0, r0⟩ := trodAll_cons hA
  obtain ⟨v1, vs1, d1, ds1, p1, q1, rfl, rfl, rfl, h1, r1⟩ := trodAll_cons r0
  obtain ⟨rfl, rfl, rfl⟩ := trodAll_nil r1
  obtain rfl : args = #[v0, v1] := by cases args; simp_all
  obtain ⟨rfl, rfl⟩ := trodVars_none hV
  obtain ⟨a0, rfl, rfl, rfl, w0⟩ := open_string Try.underlying9 (hval 0 9 v0 rfl rfl) h0
  obtain ⟨a1, rfl, rfl, rfl, w1⟩ := open_int Try.underlying3 (hval 1 3 v1 rfl rfl) h1
  clear hA0 hval0
  refine (walk a0 w0 a1 w1 W).mono fun e W' ⟨he, bel⟩ => ?_
  subst he
  exact ⟨_, rfl, _, _, _, [], _, [], hW', trodAll_mk1 (shut_bool Try.underlying4 _), (trodAll_cons_mk (shut_string Try.underlying9 w0) (trodAll_cons_mk (shut_int Try.underlying3 w1) trodAll_mk0)), rfl, bel.frame _, fun h => by cases h⟩

theorem over : Rows.etherReadsRow.holds Try.pinned (OpenSpec.ofChange Rows.etherReadsSpec) :=
  OpenClaim.holds_of_wide 4 Try.f4 rfl rfl rfl rfl rfl rfl rfl ⟨rfl, rfl, rfl, rfl, rfl⟩ rfl rfl rfl rfl rfl (by kernel_rfl) Try.func4 (by kernel_rfl)
    (of_decide_eq_true (by kernel_rfl)) (by unfold Func.isWrapper; first | (rw [if_pos (by decide +kernel)]; kernel_rfl) | (rw [if_neg (by decide +kernel)]; exact ⟨rfl, rfl⟩))
    (fun os started H enc _ => lifted os started H enc)

end Go.Proofs.Ytbppijgceacepaa.etherReads
namespace Go.Proofs.Ytbppijgceacepaa
theorem etherReads_holds : Rows.EtherReadsSaid := etherReads.over
end Go.Proofs.Ytbppijgceacepaa
