/- A frame never goes back to where it came from, nor twice to a port; to an address that was heard at a port within the age it goes there alone, or nowhere, if it came from there; to others, and to groups, to all but where it came from: for every list of frames; no condition. -/
import Derived.Test.YtajknafmlghcgaaRows
import Derived.Test.YtajknafmlghcgaaBo
import Derived.Test.YtajknafmlghcgaaFlat
import Derived.WalkKit
import Derived.ProofKit
import Derived.OpenShut
import Derived.ShutString
import Derived.ChangeOld
import Derived.Below
import Derived.Carry
import Derived.SizedLaws
namespace Go.Proofs.Ytajknafmlghcgaa.bridgeRoads
open Go.ChangeShapes Go.WideShapes Go.ChangeAt Go.RowKit
open Go.ChangeMaps (open_string)
set_option linter.unusedVariables false

theorem own : ownKnob Try.prog.godebug = none := by kernel_rfl
theorem laidOut : laidOutB Try.prog = true := by kernel_rfl

-- WALK
theorem bytes36 : Try.prog.bytesOf 36 = 64 := by kernel_rfl
theorem walk (a : Option Addr) (n cap : Nat) (W : World) (g : Flat.Rows W a n 7 [.i, .i, .i, .i, .i, .i, .s]) (y : n * Try.prog.bytesOf 36 ≤ 140737488351232) :
    Calls Try.prog 4 #[.slice a n cap] W fun e w' => e = .returned (.bool true) ∧ Below W.heap.size W w' := by
  rw [bytes36] at y
  exact roads_law a n cap W g (by omega)


set_option maxRecDepth 100000 in
theorem lifted (os : Os) (started : os.Started) (H : Type) (enc : TypeId × Value → H) :
    ReturnsInHanded {} Try.checked os 4 .any (Rows.bridgeRoadsSpec.pre6 enc Try.prog Try.f4 Rows.bridgeRoadsRow.domain false) (Rows.bridgeRoadsSpec.post enc Try.prog Try.f4 false true false false) := by
  refine returnsInHanded_of_change_sized (C := Try.checked) own started (by kernel_rfl) Try.func4
    (ChangeSpec.witness6 (enc := enc) (C := Try.checked) false ⟨#[], #[.slice none 0 0], []⟩ 8 (by kernel_rfl) (by kernel_rfl) (by kernel_rfl) (by kernel_rfl)) ?_
  intro W base args ds gs before hval0 hW hcnd hsz0 _
  have hsz : (DataW.weightsEach Try.prog (Try.f4.params.toList ++ Rows.bridgeRoadsSpec.plain.varTypes Try.prog) (ds ++ gs)).all (· ≤ reachBytes) = true := hsz0
  have hval : ∀ (j : Nat) t v, Try.f4.params[j]? = some t → args[j]? = some v → Value.okWide Try.prog W .any base t v := hval0
  have hW' := hW
  obtain ⟨p, q, hA0, hV, rfl, hfz, hnd⟩ := hW
  have hA : DataW.TrodAll enc Try.prog W 0 (fun _ => true) true Try.f4.params.toList args.toList ds p := hA0
  rw [Try.params4] at hA hval hsz
  obtain ⟨v0, vs0, d0, ds0, p0, q0, hargs, rfl, rfl, h0, r0⟩ := trodAll_cons hA
  obtain ⟨rfl, rfl, rfl⟩ := trodAll_nil r0
  obtain rfl : args = #[v0] := by cases args; simp_all
  obtain ⟨rfl, rfl⟩ := trodVars_none hV
  have k0 := h0
  have lt0 : ∀ x ∈ p0, x.block < W.heap.size := by obtain ⟨m, hm⟩ := k0; exact DataW.trod_lt m _ _ _ hm
  obtain ⟨a0, len0, c0, rfl⟩ := okWide_slice Try.underlying24 (hval 0 24 v0 rfl rfl)
  obtain ⟨g0, y0⟩ : Flat.Rows W a0 len0 7 [.i, .i, .i, .i, .i, .i, .s] ∧ len0 * Try.prog.bytesOf 36 ≤ 140737488351232 := by
    obtain ⟨fuel, hf⟩ := h0
    exact Flat.rows_open (n := 6) (ks := [.i, .i, .i, .i, .i, .i, .s]) rfl Try.underlying24 (by kernel_rfl) (by simp) (by kernel_rfl) (by simpa [Value.cells] using hf) (List.all_eq_true.2 fun z hz => List.all_eq_true.1 hsz z (DataW.weights_mem_each (j := 0) (t := 24) rfl rfl z hz))
  clear hA0 hval0
  refine (walk a0 len0 c0 W g0 y0).mono fun e W' ⟨he, bel⟩ => ?_
  subst he
  exact ⟨_, rfl, _, _, _, [], _, [], hW', trodAll_mk1 (shut_bool Try.underlying4 _), (trodAll_cons_mk (Below.trod laidOut (by kernel_rfl) (of_decide_eq_true (by kernel_rfl)) k0 bel lt0) trodAll_mk0), rfl, bel.frame _, fun h => by cases h⟩

theorem over : Rows.bridgeRoadsRow.holds Try.pinned (OpenSpec.ofChange Rows.bridgeRoadsSpec) :=
  OpenClaim.holds_of_wide 4 Try.f4 rfl rfl rfl rfl rfl rfl rfl ⟨rfl, rfl, rfl, rfl, rfl⟩ rfl rfl rfl rfl rfl (by kernel_rfl) Try.func4 (by kernel_rfl)
    (of_decide_eq_true (by kernel_rfl)) (by unfold Func.isWrapper; first | (rw [if_pos (by decide +kernel)]; kernel_rfl) | (rw [if_neg (by decide +kernel)]; exact ⟨rfl, rfl⟩))
    (fun os started H enc _ => lifted os started H enc)

end Go.Proofs.Ytajknafmlghcgaa.bridgeRoads
namespace Go.Proofs.Ytajknafmlghcgaa
theorem bridgeRoads_holds : Rows.BridgeRoadsSaid := bridgeRoads.over
end Go.Proofs.Ytajknafmlghcgaa
