/- The statement FragPlays, proved for every input: no condition. -/
import Derived.Test.YtcjhniehbafhpaaProg
import Derived.Test.YtcjhniehbafhpaaRows
import Derived.WalkKit
import Derived.ProofKit
import Derived.OpenShut
import Derived.ShutString
import Derived.ChangeOld
import Derived.Below
import Derived.Carry
import Derived.SizedLaws
import Derived.WalkSpells
import Derived.Laws.OwnMore
import Derived.Deep.RegionWith
import Derived.Maps.RangeWalk
import Derived.Maps.OwnSet
import Derived.Maps.Ext
import Derived.Maps.Keyed
import Derived.DeepKeys4
import Derived.WalkSmall
import Derived.Deep.Cut
import Derived.Deep.CutRange
import Derived.Deep.MidRow
import Derived.Deep.QuietTactic
import Derived.BigQuiet
import Derived.OwnWalk
import Derived.Laws.CopyRow
import Derived.OrdersHeld
import Derived.Shelf.Spec.SlicesInsert
import Derived.Lib.AppendZerosOnto
import Derived.Maps.AppendAt
import Derived.Lib.Overlaps
import Derived.Shelf.Strings.BuilderK
import Derived.ChangeSlices
import Derived.Deep.Slices
import Derived.Laws.AppendOwn
import Derived.Laws.AppendOwnNone
import Derived.Shelf.SlSortCmp.WholeK
import Derived.Great.BuildSlice
import Derived.Shelf.SlSortCmp.NoneTotal
import Derived.Deep.RegionHeld3
import Derived.LoopN
import Derived.Test.YtcjhniehbafhpaaMA01
import Derived.Test.YtcjhniehbafhpaaMA02
import Derived.Test.YtcjhniehbafhpaaMA03
import Derived.Test.YtcjhniehbafhpaaMA04
import Derived.Test.YtcjhniehbafhpaaMA05
import Derived.Test.YtcjhniehbafhpaaMA06
import Derived.Test.YtcjhniehbafhpaaMA07
import Derived.Test.YtcjhniehbafhpaaMA08
import Derived.Test.YtcjhniehbafhpaaMA09
import Derived.Test.YtcjhniehbafhpaaMA10
import Derived.Test.YtcjhniehbafhpaaMA11
import Derived.Test.YtcjhniehbafhpaaMA12
import Derived.Test.YtcjhniehbafhpaaMA13
import Derived.Test.YtcjhniehbafhpaaMA14
import Derived.Test.YtcjhniehbafhpaaMA15
import Derived.Test.YtcjhniehbafhpaaMA16
import Derived.Test.YtcjhniehbafhpaaMA17
import Derived.Test.YtcjhniehbafhpaaMA18
import Derived.Test.YtcjhniehbafhpaaMA19
import Derived.Test.YtcjhniehbafhpaaMA20
import Derived.Test.YtcjhniehbafhpaaMA21
import Derived.Test.YtcjhniehbafhpaaMA22
import Derived.Test.YtcjhniehbafhpaaMA23
namespace Go.Proofs.Ytcjhniehbafhpaa.fragPlays
open Go.ChangeShapes Go.WideShapes Go.ChangeAt Go.RowKit
set_option maxRecDepth 100000
open Go.ChangeMaps (open_string)
set_option linter.unusedVariables false

theorem own : ownKnob Try.prog.godebug = none := by kernel_rfl
theorem laidOut : laidOutB Try.prog = true := by kernel_rfl

-- WALK
theorem bytes34 : Try.prog.bytesOf 34 = 104 := by kernel_rfl
theorem walk (ro : Int) (e0 : (Lit.int .i64 ro).wf = true) (pa : Int) (e1 : (Lit.int .i64 pa).wf = true) (a : Option Addr) (n cap : Nat) (W : World) (g : Flat.Rows W a n 12 [.i, .i, .i, .i, .i, .i, .i, .i, .b, .b, .s, .s]) (y : n * Try.prog.bytesOf 34 ≤ 140737488351232) :
    Calls Try.prog 3 #[.int .i64 ro, .int .i64 pa, .slice a n cap] W fun e w' => e = .returned (.bool true) ∧ Below W.heap.size W w' := by
  rw [bytes34] at y
  cases h : newB ro pa with
  | true => exact plays_t ro pa a n cap W h g (by omega)
  | false => exact plays_f ro pa a n cap W h

set_option maxRecDepth 100000 in
theorem lifted (os : Os) (started : os.Started) (H : Type) (enc : TypeId × Value → H) :
    ReturnsInHanded {} Try.checked os 3 .any (Rows.fragPlaysSpec.pre6 enc Try.prog Try.f3 Rows.fragPlaysRow.domain false) (Rows.fragPlaysSpec.post enc Try.prog Try.f3 false true false false) := by
  refine returnsInHanded_of_change_sized (C := Try.checked) own started (by kernel_rfl) Try.func3
    (ChangeSpec.witness6 (enc := enc) (C := Try.checked) false ⟨#[], #[.int .i64 0, .int .i64 0, .slice none 0 0], []⟩ 8 (by kernel_rfl) (by kernel_rfl) (by kernel_rfl) (by kernel_rfl)) ?_
  intro W base args ds gs before hval0 hW hcnd hsz0 _
  have hsz : (DataW.weightsEach Try.prog (Try.f3.params.toList ++ Rows.fragPlaysSpec.plain.varTypes Try.prog) (ds ++ gs)).all (· ≤ reachBytes) = true := hsz0
  have hval : ∀ (j : Nat) t v, Try.f3.params[j]? = some t → args[j]? = some v → Value.okWide Try.prog W .any base t v := hval0
  have hW' := hW
  obtain ⟨p, q, hA0, hV, rfl, hfz, hnd⟩ := hW
  have hA : DataW.TrodAll enc Try.prog W 0 (fun _ => true) true Try.f3.params.toList args.toList ds p := hA0
  rw [Try.params3] at hA hval hsz
  obtain ⟨v0, vs0, d0, ds0, p0, q0, hargs, rfl, rfl, h0, r0⟩ := trodAll_cons hA
  obtain ⟨v1, vs1, d1, ds1, p1, q1, rfl, rfl, rfl, h1, r1⟩ := trodAll_cons r0
  obtain ⟨v2, vs2, d2, ds2, p2, q2, rfl, rfl, rfl, h2, r2⟩ := trodAll_cons r1
  obtain ⟨rfl, rfl, rfl⟩ := trodAll_nil r2
  obtain rfl : args = #[v0, v1, v2] := by cases args; simp_all
  obtain ⟨rfl, rfl⟩ := trodVars_none hV
  have k0 := h0
  have lt0 : ∀ x ∈ p0, x.block < W.heap.size := by obtain ⟨m, hm⟩ := k0; exact DataW.trod_lt m _ _ _ hm
  have k1 := h1
  have lt1 : ∀ x ∈ p1, x.block < W.heap.size := by obtain ⟨m, hm⟩ := k1; exact DataW.trod_lt m _ _ _ hm
  have k2 := h2
  have lt2 : ∀ x ∈ p2, x.block < W.heap.size := by obtain ⟨m, hm⟩ := k2; exact DataW.trod_lt m _ _ _ hm
  obtain ⟨a0, rfl, -, -, w0⟩ := open_int Try.underlying3 (hval 0 3 v0 rfl rfl) h0
  obtain ⟨a1, rfl, -, -, w1⟩ := open_int Try.underlying3 (hval 1 3 v1 rfl rfl) h1
  obtain ⟨a2, len2, c2, rfl⟩ := okWide_slice Try.underlying22 (hval 2 22 v2 rfl rfl)
  obtain ⟨g2, y2⟩ : Flat.Rows W a2 len2 12 [.i, .i, .i, .i, .i, .i, .i, .i, .b, .b, .s, .s] ∧ len2 * Try.prog.bytesOf 34 ≤ 140737488351232 := by
    obtain ⟨fuel, hf⟩ := h2
    exact Flat.rows_open (n := 6) (ks := [.i, .i, .i, .i, .i, .i, .i, .i, .b, .b, .s, .s]) rfl Try.underlying22 (by kernel_rfl) (by simp) (by kernel_rfl) (by simpa [Value.cells] using hf) (List.all_eq_true.2 fun z hz => List.all_eq_true.1 hsz z (DataW.weights_mem_each (j := 2) (t := 22) rfl rfl z hz))
  clear hA0 hval0
  refine (walk a0 w0 a1 w1 a2 len2 c2 W g2 y2).mono fun e W' ⟨he, bel⟩ => ?_
  subst he
  exact ⟨_, rfl, _, _, _, [], _, [], hW', trodAll_mk1 (shut_bool Try.underlying4 _), (trodAll_cons_mk (Below.trod laidOut (by kernel_rfl) (of_decide_eq_true (by kernel_rfl)) k0 bel lt0) (trodAll_cons_mk (Below.trod laidOut (by kernel_rfl) (of_decide_eq_true (by kernel_rfl)) k1 bel lt1) (trodAll_cons_mk (Below.trod laidOut (by kernel_rfl) (of_decide_eq_true (by kernel_rfl)) k2 bel lt2) trodAll_mk0))), rfl, bel.frame _, fun h => by cases h⟩

theorem over : Rows.fragPlaysRow.holds Try.pinned (OpenSpec.ofChange Rows.fragPlaysSpec) :=
  OpenClaim.holds_of_wide 3 Try.f3 rfl rfl rfl rfl rfl rfl rfl ⟨rfl, rfl, rfl, rfl, rfl⟩ rfl rfl rfl rfl rfl (by kernel_rfl) Try.func3 (by kernel_rfl)
    (of_decide_eq_true (by kernel_rfl)) (by unfold Func.isWrapper; first | (rw [if_pos (by decide +kernel)]; kernel_rfl) | (rw [if_neg (by decide +kernel)]; exact ⟨rfl, rfl⟩))
    (fun os started H enc _ => lifted os started H enc)

end Go.Proofs.Ytcjhniehbafhpaa.fragPlays
namespace Go.Proofs.Ytcjhniehbafhpaa
theorem fragPlays_holds : Rows.FragPlaysSaid := fragPlays.over
end Go.Proofs.Ytcjhniehbafhpaa
