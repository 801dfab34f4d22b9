/- Proved: a sum that is turned for a number of two bytes is that of the turned bytes, but that 0 and 65535 stand for one another; no condition. -/
import Derived.Test.YtckfaohmjddkhabRows
import Derived.Test.YtckfaohmjddkhabTurns
import Derived.Test.YtckfaohmjddkhabPlainD
import Derived.Deep.RegionHeld3
import Derived.WalkKit
import Derived.ProofKit
import Derived.OpenShut
import Derived.ShutString
import Derived.ChangeOld
import Derived.Below
import Derived.SizedLaws
namespace Go.Proofs.Ytckfaohmjddkhab.sumTurns
open Go.ChangeShapes Go.WideShapes Go.ChangeAt Go.RowKit
open Go.ChangeMaps (open_string shut_string)
set_option linter.unusedVariables false

theorem own : ownKnob Try.prog.godebug = none := by kernel_rfl

-- WALK
theorem cells_one (W : World) (A : ByteArray) : ∀ j, j < [A].length → (W.alloc (.cells #[.string A] 9)).cell? ⟨W.heap.size, 0 + j, none⟩ = some (.string ([A].getD j ByteArray.empty)) := by
  intro j hj
  have : j = 0 := by simp at hj; omega
  subst this
  simp
theorem one_size (A : ByteArray) (h : A.size ≤ 140737488355328) : ∀ s ∈ [A], s.size ≤ 140737488355328 := by
  intro s hs
  simp at hs
  subst hs
  exact h

set_option maxRecDepth 100000 in
set_option maxHeartbeats 2000000 in
theorem walk (a0 : ByteArray) (w0 : a0.size ≤ maxLen) (a1 : Int) (w1 : (Lit.int .i64 a1).wf = true) (a2 : Int) (w2 : (Lit.int .i64 a2).wf = true) (w : World) :
    Calls Try.prog 3 #[.string a0, .int .i64 a1, .int .i64 a2] w fun e w' => e = .returned (.bool true) ∧ Below w.heap.size w w' := by
  have hsm := w0
  unfold maxLen at w0
  by_cases h0 : a0.size < 2
  · go_enter Try.func3, Try.ntmps3
    go_wp2_with (go_at_call 4; refine (works_any _).mono ?_; rintro e u5 ⟨rfl, b5⟩)
    go_ret
    exact ⟨rfl, b5⟩
  · by_cases h1 : 2000 < a0.size
    · go_enter Try.func3, Try.ntmps3
      go_wp2_with (go_at_call 4; refine (works_any _).mono ?_; rintro e u5 ⟨rfl, b5⟩)
      go_ret
      exact ⟨rfl, b5⟩
    · have n0 : 0 ≤ a1 % ((a0.size : Int) / 2) := Int.emod_nonneg _ (by omega)
      have n1 : a1 % ((a0.size : Int) / 2) < (a0.size : Int) / 2 := Int.emod_lt_of_pos _ (by omega)
      have p0 : 0 ≤ a2 % 65536 := Int.emod_nonneg _ (by omega)
      have p1 : a2 % 65536 ≤ 65535 := by omega
      go_enter Try.func3, Try.ntmps3
      go_wp2_with (first | (go_at_call 4; refine (works_any _).mono ?_; rintro e u5 ⟨rfl, b5⟩) | (go_at_call 5; refine (among_any _ _ _ (by omega) (by omega)).mono ?_; rintro e u1 ⟨rfl, rfl⟩))
      generalize a2 % 65536 = now at *
      generalize a1 % ((a0.size : Int) / 2) = n at *
      have m0 : 0 ≤ 2 * n := by omega
      have m1 : 2 * n ≤ (a0.size : Int) - 2 := by omega
      have m2 : (2 * n) % 2 = 0 := by omega
      clear n0 n1
      generalize 2 * n = o at *
      have eG : getV a0 o 2 = numS (a0.extract o.toNat (o + 2).toNat) := by
        unfold getV
        rw [getB_t ⟨by omega, by omega, m0, m1⟩, if_pos rfl]
      have cG : codeB (getB a0.size o 2) = 0 := by rw [getB_t ⟨by omega, by omega, m0, m1⟩]; rfl
      have hpw : (2 : Int) ^ (8 * (2 : Int).toNat) = 65536 := by decide
      have hpb : putB now 2 = true := putB_t ⟨by omega, by omega, p0, by rw [hpw]; omega⟩
      clear hpw
      have eP : putV now 2 = txt now 2 := by unfold putV; rw [hpb, if_pos rfl]; rfl
      have cP : codeB (putB now 2) = 0 := by rw [hpb]; rfl
      obtain ⟨eO, cO⟩ := ofV_one a0 (by omega)
      have hz1 := headS_size a0 o m0 m1
      have hz2 := tailS_size a0 o m0 m1
      have hRz : (headS a0 o ++ txt now 2 ++ tailS a0 o).size ≤ 65536 := by rw [ByteArray.size_append, ByteArray.size_append, hz1, hz2, txt_size]; omega
      obtain ⟨eR, cR⟩ := ofV_one (headS a0 o ++ txt now 2 ++ tailS a0 o) hRz
      have hturn := turned a0 o now m0 m1 m2 p0 p1
      have hwas := num_mid_bd a0 o m0 m1
      have hold : 0 ≤ sumS a0 ∧ sumS a0 ≤ 65535 := missV_bd _
      have hwant : 0 ≤ sumS (headS a0 o ++ txt now 2 ++ tailS a0 o) ∧ sumS (headS a0 o ++ txt now 2 ++ tailS a0 o) ≤ 65535 := missV_bd _
      have r1 : ∀ W, (Instr.slice 9 (.string a0) none (some (.int .i64 o)) none).run Try.prog W = .ok (.string (headS a0 o)) W := fun W => by
        rw [run_slice_string_to_if W 9 a0 .i64 o Try.underlying9, if_pos ⟨m0, by omega⟩]; rfl
      have r2 : ∀ W, (Instr.slice 9 (.string a0) (some (.int .i64 (o + 2))) none none).run Try.prog W = .ok (.string (tailS a0 o)) W := fun W => by
        rw [run_slice_string_from_if W 9 a0 .i64 (o + 2) Try.underlying9, if_pos ⟨by omega, by omega⟩]; rfl
      have hwr : IntKind.i64.wrap (o + 2) = o + 2 := by rw [IntKind.wrap_i64]; omega
      have r3 : ∀ W, (Op.stringOp .add (headS a0 o) (txt now 2)).run Try.prog W = .ok (.string (headS a0 o ++ txt now 2)) W := fun W => run_string_add_sum W _ _ (by rw [hz1, txt_size]; omega)
      have r4 : ∀ W, (Op.stringOp .add (headS a0 o ++ txt now 2) (tailS a0 o)).run Try.prog W = .ok (.string (headS a0 o ++ txt now 2 ++ tailS a0 o)) W := fun W => run_string_add_sum W _ _ (by rw [ByteArray.size_append, hz1, hz2, txt_size]; omega)
      clear hz1 hz2
      generalize txt now 2 = X at *
      generalize headS a0 o = A at *
      generalize tailS a0 o = B at *
      generalize A ++ X ++ B = R at *
      generalize A ++ X = AX at *
      generalize numS (a0.extract o.toNat (o + 2).toNat) = was at *
      refine (get_any a0 o 2 _ hsm).mono ?_
      rw [eG, cG]
      rintro e u2 ⟨rfl, b2⟩
      clear eG cG
      go_wp2_with fail
      refine (pput_any now 2 _).mono ?_
      rw [eP, cP]
      rintro e u3 ⟨rfl, b3⟩
      clear eP cP
      go_wp2_with fail
      refine (of_any u3.heap.size 0 1 [a0] _ (by simp) (cells_one u3 a0) (one_size a0 (by omega))).mono ?_
      rw [eO, cO]
      rintro e u4 ⟨rfl, rfl⟩
      clear eO cO
      have b4 : Below w.heap.size w (u3.alloc (.cells #[.string a0] 9)) := (bt (bt b5 b2) b3).alloc (bt (bt b5 b2) b3).size _
      clear b5 b2 b3
      generalize u3.alloc (.cells #[.string a0] 9) = v at *
      have HP : Hid (∀ s ∈ [R], s.size ≤ 140737488355328) := one_size R (by omega)
      have HT : Hid (missV (65535 - sumS a0 + (65535 - was) + now) % 65535 = sumS R % 65535) := hturn
      have ER : Hid (ofV [R] = sumS R) := eR
      have CR : Hid (codeL (ofB [R]) = 0) := cR
      clear hturn eR cR
      generalize sumS a0 = old at *
      generalize sumS R = want at *
      go_wp2_with fail
      go_region_held3 (fun _ => True) (trivial) (first | (go_at_call 8; refine (of_any _ 0 1 [R] _ (by simp) ?_ HP.out).mono ?_; exact cells_one v R; rw [ER.out, CR.out]; rintro e w' ⟨rfl, rfl⟩))
      have hok : turnOk old was now = true := by
        unfold turnOk
        rw [outB_f ⟨hold.1, hold.2⟩, outB_f ⟨hwas.1, hwas.2⟩, outB_f ⟨p0, p1⟩]; rfl
      have eT : turnV old was now = missV (65535 - old + (65535 - was) + now) := by unfold turnV; rw [hok, if_pos rfl]
      have cT : codeB (turnOk old was now) = 0 := by rw [hok]; rfl
      clear hok
      have hgot := missV_bd (65535 - old + (65535 - was) + now)
      generalize missV (65535 - old + (65535 - was) + now) = got at *
      clear r1 r2 r3 r4 hwr
      go_wp2_with fail
      refine (turn_any old was now _).mono ?_
      rw [eT, cT]
      rintro e u6 ⟨rfl, rfl⟩
      clear eT cT
      have hfin : (got % 65535 == want % 65535) = true := beq_iff_eq.2 HT.out
      go_wp2
      go_ret
      refine ⟨rfl, ?_⟩
      first
        | exact (b4.alloc b4.size _).drew
        | exact (b4.drew.alloc b4.size _)
        | exact b4.alloc b4.size _


set_option maxRecDepth 100000 in
theorem lifted (os : Os) (started : os.Started) (H : Type) (enc : TypeId × Value → H) :
    ReturnsInHanded {} Try.checked os 3 .any (Rows.sumTurnsSpec.pre6 enc Try.prog Try.f3 Rows.sumTurnsRow.domain false) (Rows.sumTurnsSpec.post enc Try.prog Try.f3 false true false false) := by
  refine returnsInHanded_of_change (C := Try.checked) own started (by kernel_rfl) Try.func3
    (ChangeSpec.witness6 (enc := enc) (C := Try.checked) false ⟨#[], #[.string ByteArray.empty, .int .i64 0, .int .i64 0], []⟩ 8 (by kernel_rfl) (by kernel_rfl) (by kernel_rfl) (by kernel_rfl)) ?_
  intro W base args ds gs before hval0 hW hcnd _
  have hval : ∀ (j : Nat) t v, Try.f3.params[j]? = some t → args[j]? = some v → Value.okWide Try.prog W .any base t v := hval0
  have hW' := hW
  obtain ⟨p, q, hA0, hV, rfl, hfz, hnd⟩ := hW
  have hA : DataW.TrodAll enc Try.prog W 0 (fun _ => true) true Try.f3.params.toList args.toList ds p := hA0
  rw [Try.params3] at hA hval
  obtain ⟨v0, vs0, d0, ds0, p0, q0, hargs, rfl, rfl, h0, r0⟩ := trodAll_cons hA
  obtain ⟨v1, vs1, d1, ds1, p1, q1, rfl, rfl, rfl, h1, r1⟩ := trodAll_cons r0
  obtain ⟨v2, vs2, d2, ds2, p2, q2, rfl, rfl, rfl, h2, r2⟩ := trodAll_cons r1
  obtain ⟨rfl, rfl, rfl⟩ := trodAll_nil r2
  obtain rfl : args = #[v0, v1, v2] := by cases args; simp_all
  obtain ⟨rfl, rfl⟩ := trodVars_none hV
  obtain ⟨a0, rfl, rfl, rfl, w0⟩ := open_string Try.underlying9 (hval 0 9 v0 rfl rfl) h0
  obtain ⟨a1, rfl, rfl, rfl, w1⟩ := open_int Try.underlying3 (hval 1 3 v1 rfl rfl) h1
  obtain ⟨a2, rfl, rfl, rfl, w2⟩ := open_int Try.underlying3 (hval 2 3 v2 rfl rfl) h2
  clear hA0 hval0
  refine (walk a0 w0 a1 w1 a2 w2 W).mono fun e W' ⟨he, bel⟩ => ?_
  subst he
  exact ⟨_, rfl, _, _, _, [], _, [], hW', trodAll_mk1 (shut_bool Try.underlying4 _), (trodAll_cons_mk (shut_string Try.underlying9 w0) (trodAll_cons_mk (shut_int Try.underlying3 w1) (trodAll_cons_mk (shut_int Try.underlying3 w2) trodAll_mk0))), rfl, bel.frame _, fun h => by cases h⟩

theorem over : Rows.sumTurnsRow.holds Try.pinned (OpenSpec.ofChange Rows.sumTurnsSpec) :=
  OpenClaim.holds_of_wide 3 Try.f3 rfl rfl rfl rfl rfl rfl rfl ⟨rfl, rfl, rfl, rfl, rfl⟩ rfl rfl rfl rfl rfl (by kernel_rfl) Try.func3 (by kernel_rfl)
    (of_decide_eq_true (by kernel_rfl)) (by unfold Func.isWrapper; first | (rw [if_pos (by decide +kernel)]; kernel_rfl) | (rw [if_neg (by decide +kernel)]; exact ⟨rfl, rfl⟩))
    (fun os started H enc _ => lifted os started H enc)

end Go.Proofs.Ytckfaohmjddkhab.sumTurns
namespace Go.Proofs.Ytckfaohmjddkhab
theorem sumTurns_holds : Rows.SumTurnsSaid := sumTurns.over
end Go.Proofs.Ytckfaohmjddkhab
