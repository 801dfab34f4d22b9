/- Promise 13.4, RtoBounds: for every input the law answers true, and its arguments read as before; no condition of our own. -/
import Derived.Test.YtlhfmkobmaafcaaRows
import Derived.Test.YtlhfmkobmaafcaaRg
import Derived.Test.YtlhfmkobmaafcaaFlat
import Derived.WalkKit
import Derived.ProofKit
import Derived.OpenShut
import Derived.ShutString
import Derived.ChangeOld
import Derived.Below
import Derived.Carry
import Derived.SizedLaws
import Derived.Deep.Fields
namespace Go.Proofs.Ytlhfmkobmaafcaa.rtoBounds
open Go.ChangeShapes Go.WideShapes Go.ChangeAt Go.RowKit
open Go.ChangeMaps (open_string)
set_option linter.unusedVariables false

theorem own : ownKnob Try.prog.godebug = none := by kernel_rfl
theorem laidOut : laidOutB Try.prog = true := by kernel_rfl

theorem open_fields {H : Type} {enc : TypeId × Value → H} {P : Program} {w : World} {base : Nat} {spare : Nat → Bool} {held : Bool} {r : Reach} {b0 : Nat} {t : TypeId} {fs : Array Field} {v : Value} {d : DataW H} {p : List MemPlace} (hs : P.underlying t = some (.struct fs)) (hone : Go.Deep.oneCellFields P fs = true) (hC : P.cellsOf t = fs.size)
    (hv : Value.okWide P w r b0 t v) (h : DataW.Trod enc P w base spare held t v d p) :
    ∃ (cs : Array Value) (parts : List (DataW H)), v = .agg cs ∧ d = .agg parts ∧ cs.size = fs.size ∧ ∀ (i : Nat) (f : Field), fs[i]? = some f → ∃ n x, DataW.trod enc P w base spare held n f.type ((cs.toList.drop i).take 1) = some x ∧ parts[i]? = some x.1 := by
  obtain ⟨cs, rfl, hsz⟩ := okWide_struct hs hv
  obtain ⟨fuel, hf⟩ := h
  obtain ⟨xs, n, _, hx, hl, hlen, hfs⟩ := DataW.trod_struct hs hf
  have hd : d = .agg (xs.map (·.1)) := congrArg Prod.fst hx
  refine ⟨cs, xs.map (·.1), rfl, hd, hsz.trans hC, fun i f hi => ?_⟩
  obtain ⟨o1, k1⟩ := Go.Deep.hone_of hone i f hi
  have := hfs i f hi
  have hlt : i < xs.length := by rw [hlen]; exact (Array.getElem?_eq_some_iff.1 hi).1
  rw [o1, k1, List.getElem?_eq_getElem hlt] at this
  exact ⟨n, _, by simpa [Value.cells] using this, by simp [List.getElem?_eq_getElem hlt]⟩
theorem sized_field {H : Type} {P : Program} {ts : List TypeId} {ds : List (DataW H)} (h : (DataW.weightsEach P ts ds).all (· ≤ reachBytes) = true) {j i : Nat} {t ft : TypeId} {fs : Array Field} {parts : List (DataW H)} {bytes : List UInt8} (ht : ts[j]? = some t) (hd : ds[j]? = some (.agg parts)) (hu : P.underlying t = some (.struct fs)) (hf : (fs.toList.map (·.type))[i]? = some ft) (hp : parts[i]? = some (.lit (.string bytes))) : bytes.length ≤ reachBytes := by
  have := List.all_eq_true.1 h _ (DataW.weights_mem_each ht hd bytes.length (by simp only [DataW.weights, hu]; exact DataW.weights_mem_each hf hp _ (by simp [DataW.weights])))
  simpa using this

theorem cells23 : Try.prog.cellsOf 23 = 3 := by kernel_rfl
theorem open23 {H : Type} {enc : TypeId × Value → H} {w : World} {base : Nat} {spare : Nat → Bool} {held : Bool} {r : Reach} {b0 : Nat} {v : Value} {d : DataW H} {p : List MemPlace} (hv : Value.okWide Try.prog w r b0 23 v) (h : DataW.Trod enc Try.prog w base spare held 23 v d p) :
    ∃ (f0 : Int) (f1 : Int) (f2 : Int) (parts : List (DataW H)), v = .agg #[.int .i64 f0, .int .i64 f1, .int .i64 f2] ∧ d = .agg parts ∧ (Lit.int .i64 f0).wf = true ∧ (Lit.int .i64 f1).wf = true ∧ (Lit.int .i64 f2).wf = true := by
  obtain ⟨⟨l⟩, parts, rfl, hdp, hz, hf⟩ := open_fields Try.underlying23 (by kernel_rfl) cells23 hv h
  have hz' : l.length = 3 := by simpa using hz
  match l, hz' with
  | [c0, c1, c2], _ =>
    obtain ⟨n0, x0, t0, m0⟩ := hf 0 _ rfl
    obtain ⟨f0, q0, -, e0⟩ := DataW.trod_int Try.underlying3 t0
    have p0 : c0 = .int .i64 f0 := by simpa using q0
    obtain ⟨n1, x1, t1, m1⟩ := hf 1 _ rfl
    obtain ⟨f1, q1, -, e1⟩ := DataW.trod_int Try.underlying3 t1
    have p1 : c1 = .int .i64 f1 := by simpa using q1
    obtain ⟨n2, x2, t2, m2⟩ := hf 2 _ rfl
    obtain ⟨f2, q2, -, e2⟩ := DataW.trod_int Try.underlying3 t2
    have p2 : c2 = .int .i64 f2 := by simpa using q2
    subst p0 p1 p2
    exact ⟨f0, f1, f2, parts, rfl, hdp, e0, e1, e2⟩

-- WALK
theorem bytes39 : Try.prog.bytesOf 39 = 16 := by kernel_rfl
theorem walk (fi : Int) (e0 : (Lit.int .i64 fi).wf = true) (le : Int) (e1 : (Lit.int .i64 le).wf = true) (gr : Int) (e2 : (Lit.int .i64 gr).wf = true) (a : Option Addr) (n cap : Nat) (W : World) (g : Flat.Rows W a n 2 [.i, .b]) (y : n * Try.prog.bytesOf 39 ≤ 140737488351232) :
    Calls Try.prog 4 #[.agg #[.int .i64 fi, .int .i64 le, .int .i64 gr], .slice a n cap] W fun e w' => e = .returned (.bool true) ∧ Below W.heap.size W w' := by
  rw [bytes39] at y
  cases h : newOk fi le gr with
  | true => exact bounds_t fi le gr a n cap W g (by omega) h
  | false => exact bounds_f fi le gr a n cap W h


set_option maxRecDepth 100000 in
theorem lifted (os : Os) (started : os.Started) (H : Type) (enc : TypeId × Value → H) :
    ReturnsInHanded {} Try.checked os 4 .any (Rows.rtoBoundsSpec.pre6 enc Try.prog Try.f4 Rows.rtoBoundsRow.domain false) (Rows.rtoBoundsSpec.post enc Try.prog Try.f4 false true false false) := by
  refine returnsInHanded_of_change_sized (C := Try.checked) own started (by kernel_rfl) Try.func4
    (ChangeSpec.witness6 (enc := enc) (C := Try.checked) false ⟨#[], #[.agg #[.int .i64 0, .int .i64 0, .int .i64 0], .slice none 0 0], []⟩ 8 (by kernel_rfl) (by kernel_rfl) (by kernel_rfl) (by kernel_rfl)) ?_
  intro W base args ds gs before hval0 hW hcnd hsz0 _
  have hsz : (DataW.weightsEach Try.prog (Try.f4.params.toList ++ Rows.rtoBoundsSpec.plain.varTypes Try.prog) (ds ++ gs)).all (· ≤ reachBytes) = true := hsz0
  have hval : ∀ (j : Nat) t v, Try.f4.params[j]? = some t → args[j]? = some v → Value.okWide Try.prog W .any base t v := hval0
  have hW' := hW
  obtain ⟨p, q, hA0, hV, rfl, hfz, hnd⟩ := hW
  have hA : DataW.TrodAll enc Try.prog W 0 (fun _ => true) true Try.f4.params.toList args.toList ds p := hA0
  rw [Try.params4] at hA hval hsz
  obtain ⟨v0, vs0, d0, ds0, p0, q0, hargs, rfl, rfl, h0, r0⟩ := trodAll_cons hA
  obtain ⟨v1, vs1, d1, ds1, p1, q1, rfl, rfl, rfl, h1, r1⟩ := trodAll_cons r0
  obtain ⟨rfl, rfl, rfl⟩ := trodAll_nil r1
  obtain rfl : args = #[v0, v1] := by cases args; simp_all
  obtain ⟨rfl, rfl⟩ := trodVars_none hV
  have k0 := h0
  have lt0 : ∀ x ∈ p0, x.block < W.heap.size := by obtain ⟨m, hm⟩ := k0; exact DataW.trod_lt m _ _ _ hm
  have k1 := h1
  have lt1 : ∀ x ∈ p1, x.block < W.heap.size := by obtain ⟨m, hm⟩ := k1; exact DataW.trod_lt m _ _ _ hm
  obtain ⟨f0_0, f0_1, f0_2, parts0, rfl, hdp0, e0_0, e0_1, e0_2⟩ := open23 (hval 0 23 v0 rfl rfl) h0
  obtain ⟨a1, len1, c1, rfl⟩ := okWide_slice Try.underlying24 (hval 1 24 v1 rfl rfl)
  obtain ⟨g1, y1⟩ : Flat.Rows W a1 len1 2 [.i, .b] ∧ len1 * Try.prog.bytesOf 39 ≤ 140737488351232 := by
    obtain ⟨fuel, hf⟩ := h1
    exact Flat.rows_open (n := 6) (ks := [.i, .b]) rfl Try.underlying24 (by kernel_rfl) (by simp) (by kernel_rfl) (by simpa [Value.cells] using hf) (List.all_eq_true.2 fun z hz => List.all_eq_true.1 hsz z (DataW.weights_mem_each (j := 1) (t := 24) rfl rfl z hz))
  clear hA0 hval0
  refine (walk f0_0 e0_0 f0_1 e0_1 f0_2 e0_2 a1 len1 c1 W g1 y1).mono fun e W' ⟨he, bel⟩ => ?_
  subst he
  exact ⟨_, rfl, _, _, _, [], _, [], hW', trodAll_mk1 (shut_bool Try.underlying4 _), (trodAll_cons_mk (Below.trod laidOut (by kernel_rfl) (of_decide_eq_true (by kernel_rfl)) k0 bel lt0) (trodAll_cons_mk (Below.trod laidOut (by kernel_rfl) (of_decide_eq_true (by kernel_rfl)) k1 bel lt1) trodAll_mk0)), rfl, bel.frame _, fun h => by cases h⟩

theorem over : Rows.rtoBoundsRow.holds Try.pinned (OpenSpec.ofChange Rows.rtoBoundsSpec) :=
  OpenClaim.holds_of_wide 4 Try.f4 rfl rfl rfl rfl rfl rfl rfl ⟨rfl, rfl, rfl, rfl, rfl⟩ rfl rfl rfl rfl rfl (by kernel_rfl) Try.func4 (by kernel_rfl)
    (of_decide_eq_true (by kernel_rfl)) (by unfold Func.isWrapper; first | (rw [if_pos (by decide +kernel)]; kernel_rfl) | (rw [if_neg (by decide +kernel)]; exact ⟨rfl, rfl⟩))
    (fun os started H enc _ => lifted os started H enc)

end Go.Proofs.Ytlhfmkobmaafcaa.rtoBounds
namespace Go.Proofs.Ytlhfmkobmaafcaa
theorem rtoBounds_holds : Rows.RtoBoundsSaid := rtoBounds.over
end Go.Proofs.Ytlhfmkobmaafcaa
