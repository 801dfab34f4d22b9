/- Proved: pieces of even lengths have the same sum in either order, and cut at an even place; no condition. -/
import Derived.Test.YtckfaohmjddkhaaRows
import Derived.Test.YtckfaohmjddkhaaLists
import Derived.Test.YtckfaohmjddkhaaPlainB
import Derived.Deep.RegionWith
import Derived.WalkKit
import Derived.ProofKit
import Derived.OpenShut
import Derived.ShutString
import Derived.ChangeOld
import Derived.Below
import Derived.SizedLaws
namespace Go.Proofs.Ytckfaohmjddkhaa.sumOrder
open Go.ChangeShapes Go.WideShapes Go.ChangeAt Go.RowKit
open Go.ChangeMaps (open_string shut_string)
set_option linter.unusedVariables false

theorem own : ownKnob Try.prog.godebug = none := by kernel_rfl

-- WALK
theorem cells_two (W : World) (A B : ByteArray) : ∀ j, j < [A, B].length → (W.alloc (.cells #[.string A, .string B] 9)).cell? ⟨W.heap.size, 0 + j, none⟩ = some (.string ([A, B].getD j ByteArray.empty)) := by
  intro j hj
  simp at hj
  obtain rfl | rfl : j = 0 ∨ j = 1 := by omega
  · simp
  · simp

theorem even_size (a : ByteArray) : (a.extract 0 (a.size / 2 * 2)).size = a.size / 2 * 2 := by rw [ByteArray.size_extract]; omega

set_option maxRecDepth 100000 in
set_option maxHeartbeats 2000000 in
theorem walk (a0 : ByteArray) (w0 : a0.size ≤ maxLen) (a1 : ByteArray) (w1 : a1.size ≤ maxLen) (a2 : Int) (w2 : (Lit.int .i64 a2).wf = true) (w : World) :
    Calls Try.prog 8 #[.string a0, .string a1, .int .i64 a2] w fun e w' => e = .returned (.bool true) ∧ Below w.heap.size w w' := by
  unfold maxLen at w0 w1
  by_cases h0 : 2000 < a0.size
  · go_enter Try.func8, Try.ntmps8
    go_wp2_with (go_at_call 12; refine (works_any _).mono ?_; rintro e u5 ⟨rfl, b5⟩)
    go_ret
    exact ⟨rfl, b5⟩
  · by_cases h1 : 2000 < a1.size
    · go_enter Try.func8, Try.ntmps8
      go_wp2_with (go_at_call 12; refine (works_any _).mono ?_; rintro e u5 ⟨rfl, b5⟩)
      go_ret
      exact ⟨rfl, b5⟩
    · go_enter Try.func8, Try.ntmps8
      go_wp2_with (go_at_call 12; refine (works_any _).mono ?_; rintro e u5 ⟨rfl, b5⟩)
      go_quiet (fail)
      have bb : Below w.heap.size w (u5.drewN nq) := below_draws b5 nq
      clear b5
      generalize u5.drewN nq = v at *
      have eA := even_size a0
      have eB := even_size a1
      have hA : (a0.extract 0 (a0.size / 2 * 2)).size ≤ 2000 := by omega
      have hB : (a1.extract 0 (a1.size / 2 * 2)).size ≤ 2000 := by omega
      have vA : (a0.extract 0 (a0.size / 2 * 2)).size % 2 = 0 := by omega
      have vB : (a1.extract 0 (a1.size / 2 * 2)).size % 2 = 0 := by omega
      clear eA eB
      generalize a0.extract 0 (a0.size / 2 * 2) = A at *
      generalize a1.extract 0 (a1.size / 2 * 2) = B at *
      go_wp2_with fail
      refine (among_any _ _ _ (by omega) (by omega)).mono ?_
      rintro e u1 ⟨rfl, rfl⟩
      have n0 : 0 ≤ a2 % ((A.size : Int) / 2 + 1) := Int.emod_nonneg _ (by omega)
      have n1 : a2 % ((A.size : Int) / 2 + 1) < (A.size : Int) / 2 + 1 := Int.emod_lt_of_pos _ (by omega)
      generalize a2 % ((A.size : Int) / 2 + 1) = n at *
      obtain ⟨o1, c1⟩ := ofV_pair A B (by omega)
      obtain ⟨o2, c2⟩ := ofV_pair B A (by omega)
      rw [totS_swap A B vA vB] at o2
      clear h0 h1
      go_wp2_with fail
      refine (of_any u1.heap.size 0 2 [A, B] _ (by simp) (cells_two u1 A B) (pair_sizes A B (by omega) (by omega))).mono ?_
      rintro e u2 ⟨rfl, rfl⟩
      go_wp2_with fail
      refine (of_any (u1.heap.size + 1) 0 2 [B, A] _ (by simp) (by have := cells_two (u1.alloc (.cells #[.string A, .string B] 9)) B A; simpa using this) (pair_sizes B A (by omega) (by omega))).mono ?_
      rintro e u2 ⟨rfl, rfl⟩
      go_wp2_with fail
      have bb2 : Below w.heap.size w ((u1.alloc (.cells #[.string A, .string B] 9)).alloc (.cells #[.string B, .string A] 9)) := (bb.alloc bb.size _).alloc (by have := bb.size; simp; omega) _
      generalize (u1.alloc (.cells #[.string A, .string B] 9)).alloc (.cells #[.string B, .string A] 9) = v at *
      have m0 : 0 ≤ 2 * n := by omega
      have m1 : 2 * n ≤ (A.size : Int) := by omega
      generalize 2 * n = m at *
      have e1 : ∀ W, (Instr.slice 9 (.string A) none (some (.int .i64 m)) none).run Try.prog W = .ok (.string (A.extract 0 m.toNat)) W := fun W => by
        rw [run_slice_string_to_if W 9 A .i64 m Try.underlying9, if_pos ⟨m0, m1⟩]
      have e2 : ∀ W, (Instr.slice 9 (.string A) (some (.int .i64 m)) none none).run Try.prog W = .ok (.string (A.extract m.toNat A.size)) W := fun W => by
        rw [run_slice_string_from_if W 9 A .i64 m Try.underlying9, if_pos ⟨m0, m1⟩]
      have zP : (A.extract 0 m.toNat).size ≤ 2000 := by rw [ByteArray.size_extract]; omega
      have zQ : (A.extract m.toNat A.size).size ≤ 2000 := by rw [ByteArray.size_extract]; omega
      have zPQ : (A.extract 0 m.toNat).size + (A.extract m.toNat A.size ++ B).size ≤ 65536 := by rw [ByteArray.size_append]; omega
      obtain ⟨o3, c3⟩ := ofV_pair (A.extract 0 m.toNat) (A.extract m.toNat A.size ++ B) zPQ
      rw [totS_cut] at o3
      have e3 : ∀ W, (Op.stringOp .add (A.extract m.toNat A.size) B).run Try.prog W = .ok (.string (A.extract m.toNat A.size ++ B)) W := fun W => run_string_add_sum W _ _ (by omega)
      generalize A.extract m.toNat A.size = Q at *
      generalize Q ++ B = R at *
      generalize A.extract 0 m.toNat = P at *
      have hps := pair_sizes P R (by omega) (by omega)
      have HP : Hid (∀ s ∈ [P, R], s.size ≤ 140737488355328) := hps
      clear hps zPQ
      go_region_with (first | (go_at_call 9; refine (of_any _ 0 2 [P, R] _ (by simp) ?_ HP.out).mono ?_; exact cells_two v P R; rintro e w' ⟨rfl, rfl⟩))
      go_wp2
      go_ret
      refine ⟨rfl, ?_⟩
      first
        | exact (bb2.alloc bb2.size _).drew
        | exact (bb2.drew.alloc bb2.size _)


set_option maxRecDepth 100000 in
theorem lifted (os : Os) (started : os.Started) (H : Type) (enc : TypeId × Value → H) :
    ReturnsInHanded {} Try.checked os 8 .any (Rows.sumOrderSpec.pre6 enc Try.prog Try.f8 Rows.sumOrderRow.domain false) (Rows.sumOrderSpec.post enc Try.prog Try.f8 false true false false) := by
  refine returnsInHanded_of_change (C := Try.checked) own started (by kernel_rfl) Try.func8
    (ChangeSpec.witness6 (enc := enc) (C := Try.checked) false ⟨#[], #[.string ByteArray.empty, .string ByteArray.empty, .int .i64 0], []⟩ 8 (by kernel_rfl) (by kernel_rfl) (by kernel_rfl) (by kernel_rfl)) ?_
  intro W base args ds gs before hval0 hW hcnd _
  have hval : ∀ (j : Nat) t v, Try.f8.params[j]? = some t → args[j]? = some v → Value.okWide Try.prog W .any base t v := hval0
  have hW' := hW
  obtain ⟨p, q, hA0, hV, rfl, hfz, hnd⟩ := hW
  have hA : DataW.TrodAll enc Try.prog W 0 (fun _ => true) true Try.f8.params.toList args.toList ds p := hA0
  rw [Try.params8] at hA hval
  obtain ⟨v0, vs0, d0, ds0, p0, q0, hargs, rfl, rfl, h0, r0⟩ := trodAll_cons hA
  obtain ⟨v1, vs1, d1, ds1, p1, q1, rfl, rfl, rfl, h1, r1⟩ := trodAll_cons r0
  obtain ⟨v2, vs2, d2, ds2, p2, q2, rfl, rfl, rfl, h2, r2⟩ := trodAll_cons r1
  obtain ⟨rfl, rfl, rfl⟩ := trodAll_nil r2
  obtain rfl : args = #[v0, v1, v2] := by cases args; simp_all
  obtain ⟨rfl, rfl⟩ := trodVars_none hV
  obtain ⟨a0, rfl, rfl, rfl, w0⟩ := open_string Try.underlying9 (hval 0 9 v0 rfl rfl) h0
  obtain ⟨a1, rfl, rfl, rfl, w1⟩ := open_string Try.underlying9 (hval 1 9 v1 rfl rfl) h1
  obtain ⟨a2, rfl, rfl, rfl, w2⟩ := open_int Try.underlying3 (hval 2 3 v2 rfl rfl) h2
  clear hA0 hval0
  refine (walk a0 w0 a1 w1 a2 w2 W).mono fun e W' ⟨he, bel⟩ => ?_
  subst he
  exact ⟨_, rfl, _, _, _, [], _, [], hW', trodAll_mk1 (shut_bool Try.underlying4 _), (trodAll_cons_mk (shut_string Try.underlying9 w0) (trodAll_cons_mk (shut_string Try.underlying9 w1) (trodAll_cons_mk (shut_int Try.underlying3 w2) trodAll_mk0))), rfl, bel.frame _, fun h => by cases h⟩

theorem over : Rows.sumOrderRow.holds Try.pinned (OpenSpec.ofChange Rows.sumOrderSpec) :=
  OpenClaim.holds_of_wide 8 Try.f8 rfl rfl rfl rfl rfl rfl rfl ⟨rfl, rfl, rfl, rfl, rfl⟩ rfl rfl rfl rfl rfl (by kernel_rfl) Try.func8 (by kernel_rfl)
    (of_decide_eq_true (by kernel_rfl)) (by unfold Func.isWrapper; first | (rw [if_pos (by decide +kernel)]; kernel_rfl) | (rw [if_neg (by decide +kernel)]; exact ⟨rfl, rfl⟩))
    (fun os started H enc _ => lifted os started H enc)

end Go.Proofs.Ytckfaohmjddkhaa.sumOrder
namespace Go.Proofs.Ytckfaohmjddkhaa
theorem sumOrder_holds : Rows.SumOrderSaid := sumOrder.over
end Go.Proofs.Ytckfaohmjddkhaa
