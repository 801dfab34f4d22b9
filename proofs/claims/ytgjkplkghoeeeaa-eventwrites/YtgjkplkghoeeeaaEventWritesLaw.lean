/- EventWrites: for every event and all bytes the law of that name answers true: which events may be, their bytes, and what any bytes are as one event or as many, is on both sides the same. -/
import Derived.Test.YtgjkplkghoeeeaaRows
import Derived.Test.YtgjkplkghoeeeaaEf
import Derived.WalkKit
import Derived.ProofKit
import Derived.OpenShut
import Derived.ShutString
import Derived.ChangeOld
import Derived.Below
import Derived.Carry
import Derived.SizedLaws
import Derived.Deep.Fields
namespace Go.Proofs.Ytgjkplkghoeeeaa.eventWrites
open Go.ChangeShapes Go.WideShapes Go.ChangeAt Go.RowKit
set_option maxRecDepth 100000
open Go.ChangeMaps (open_string)
set_option linter.unusedVariables false

theorem own : ownKnob Try.prog.godebug = none := by kernel_rfl
theorem laidOut : laidOutB Try.prog = true := by kernel_rfl

theorem open_fields {H : Type} {enc : TypeId × Value → H} {P : Program} {w : World} {base : Nat} {spare : Nat → Bool} {held : Bool} {r : Reach} {b0 : Nat} {t : TypeId} {fs : Array Field} {v : Value} {d : DataW H} {p : List MemPlace} (hs : P.underlying t = some (.struct fs)) (hone : Go.Deep.oneCellFields P fs = true) (hC : P.cellsOf t = fs.size)
    (hv : Value.okWide P w r b0 t v) (h : DataW.Trod enc P w base spare held t v d p) :
    ∃ (cs : Array Value) (parts : List (DataW H)), v = .agg cs ∧ d = .agg parts ∧ cs.size = fs.size ∧ ∀ (i : Nat) (f : Field), fs[i]? = some f → ∃ n x, DataW.trod enc P w base spare held n f.type ((cs.toList.drop i).take 1) = some x ∧ parts[i]? = some x.1 := by
  obtain ⟨cs, rfl, hsz⟩ := okWide_struct hs hv
  obtain ⟨fuel, hf⟩ := h
  obtain ⟨xs, n, _, hx, hl, hlen, hfs⟩ := DataW.trod_struct hs hf
  have hd : d = .agg (xs.map (·.1)) := congrArg Prod.fst hx
  refine ⟨cs, xs.map (·.1), rfl, hd, hsz.trans hC, fun i f hi => ?_⟩
  obtain ⟨o1, k1⟩ := Go.Deep.hone_of hone i f hi
  have := hfs i f hi
  have hlt : i < xs.length := by rw [hlen]; exact (Array.getElem?_eq_some_iff.1 hi).1
  rw [o1, k1, List.getElem?_eq_getElem hlt] at this
  exact ⟨n, _, by simpa [Value.cells] using this, by simp [List.getElem?_eq_getElem hlt]⟩
theorem sized_field {H : Type} {P : Program} {ts : List TypeId} {ds : List (DataW H)} (h : (DataW.weightsEach P ts ds).all (· ≤ reachBytes) = true) {j i : Nat} {t ft : TypeId} {fs : Array Field} {parts : List (DataW H)} {bytes : List UInt8} (ht : ts[j]? = some t) (hd : ds[j]? = some (.agg parts)) (hu : P.underlying t = some (.struct fs)) (hf : (fs.toList.map (·.type))[i]? = some ft) (hp : parts[i]? = some (.lit (.string bytes))) : bytes.length ≤ reachBytes := by
  have := List.all_eq_true.1 h _ (DataW.weights_mem_each ht hd bytes.length (by simp only [DataW.weights, hu]; exact DataW.weights_mem_each hf hp _ (by simp [DataW.weights])))
  simpa using this

theorem cells23 : Try.prog.cellsOf 23 = 3 := by kernel_rfl
theorem open23 {H : Type} {enc : TypeId × Value → H} {w : World} {base : Nat} {spare : Nat → Bool} {held : Bool} {r : Reach} {b0 : Nat} {v : Value} {d : DataW H} {p : List MemPlace} (hv : Value.okWide Try.prog w r b0 23 v) (h : DataW.Trod enc Try.prog w base spare held 23 v d p) :
    ∃ (f0 : Int) (f1 : Int) (f2 : ByteArray) (parts : List (DataW H)), v = .agg #[.int .i64 f0, .int .i64 f1, .string f2] ∧ d = .agg parts ∧ (Lit.int .i64 f0).wf = true ∧ (Lit.int .i64 f1).wf = true ∧ f2.size ≤ maxLen ∧ parts[2]? = some (.lit (.string f2.data.toList)) := by
  obtain ⟨⟨l⟩, parts, rfl, hdp, hz, hf⟩ := open_fields Try.underlying23 (by kernel_rfl) cells23 hv h
  have hz' : l.length = 3 := by simpa using hz
  match l, hz' with
  | [c0, c1, c2], _ =>
    obtain ⟨n0, x0, t0, m0⟩ := hf 0 _ rfl
    obtain ⟨f0, q0, -, e0⟩ := DataW.trod_int Try.underlying3 t0
    have p0 : c0 = .int .i64 f0 := by simpa using q0
    obtain ⟨n1, x1, t1, m1⟩ := hf 1 _ rfl
    obtain ⟨f1, q1, -, e1⟩ := DataW.trod_int Try.underlying3 t1
    have p1 : c1 = .int .i64 f1 := by simpa using q1
    obtain ⟨n2, x2, t2, m2⟩ := hf 2 _ rfl
    obtain ⟨f2, q2, y2, e2⟩ := DataW.trod_string Try.underlying9 t2
    rw [y2] at m2
    have p2 : c2 = .string f2 := by simpa using q2
    subst p0 p1 p2
    exact ⟨f0, f1, f2, parts, rfl, hdp, e0, e1, e2, m2⟩

-- WALK
theorem walk (k : Int) (e0 : (Lit.int .i64 k).wf = true) (t : Int) (e1 : (Lit.int .i64 t).wf = true) (d : ByteArray) (e2 : d.size ≤ maxLen) (s : ByteArray) (w1 : s.size ≤ maxLen) (W : World) :
    Calls Try.prog 3 #[.agg #[.int .i64 k, .int .i64 t, .string d], .string s] W fun e w' => e = .returned (.bool true) ∧ Below W.heap.size W w' :=
  writes_any k t d s W e2 w1

set_option maxRecDepth 100000 in
theorem lifted (os : Os) (started : os.Started) (H : Type) (enc : TypeId × Value → H) :
    ReturnsInHanded {} Try.checked os 3 .any (Rows.eventWritesSpec.pre6 enc Try.prog Try.f3 Rows.eventWritesRow.domain false) (Rows.eventWritesSpec.post enc Try.prog Try.f3 false true false false) := by
  refine returnsInHanded_of_change (C := Try.checked) own started (by kernel_rfl) Try.func3
    (ChangeSpec.witness6 (enc := enc) (C := Try.checked) false ⟨#[], #[.agg #[.int .i64 0, .int .i64 0, .string ByteArray.empty], .string ByteArray.empty], []⟩ 8 (by kernel_rfl) (by kernel_rfl) (by kernel_rfl) (by kernel_rfl)) ?_
  intro W base args ds gs before hval0 hW hcnd _
  have hval : ∀ (j : Nat) t v, Try.f3.params[j]? = some t → args[j]? = some v → Value.okWide Try.prog W .any base t v := hval0
  have hW' := hW
  obtain ⟨p, q, hA0, hV, rfl, hfz, hnd⟩ := hW
  have hA : DataW.TrodAll enc Try.prog W 0 (fun _ => true) true Try.f3.params.toList args.toList ds p := hA0
  rw [Try.params3] at hA hval
  obtain ⟨v0, vs0, d0, ds0, p0, q0, hargs, rfl, rfl, h0, r0⟩ := trodAll_cons hA
  obtain ⟨v1, vs1, d1, ds1, p1, q1, rfl, rfl, rfl, h1, r1⟩ := trodAll_cons r0
  obtain ⟨rfl, rfl, rfl⟩ := trodAll_nil r1
  obtain rfl : args = #[v0, v1] := by cases args; simp_all
  obtain ⟨rfl, rfl⟩ := trodVars_none hV
  have k0 := h0
  have lt0 : ∀ x ∈ p0, x.block < W.heap.size := by obtain ⟨m, hm⟩ := k0; exact DataW.trod_lt m _ _ _ hm
  have k1 := h1
  have lt1 : ∀ x ∈ p1, x.block < W.heap.size := by obtain ⟨m, hm⟩ := k1; exact DataW.trod_lt m _ _ _ hm
  obtain ⟨f0_0, f0_1, f0_2, parts0, rfl, hdp0, e0_0, e0_1, e0_2, m0_2⟩ := open23 (hval 0 23 v0 rfl rfl) h0
  obtain ⟨a1, rfl, e1, -, w1⟩ := open_string Try.underlying9 (hval 1 9 v1 rfl rfl) h1
  clear hA0 hval0
  refine (walk f0_0 e0_0 f0_1 e0_1 f0_2 e0_2 a1 w1 W ).mono fun e W' ⟨he, bel⟩ => ?_
  subst he
  exact ⟨_, rfl, _, _, _, [], _, [], hW', trodAll_mk1 (shut_bool Try.underlying4 _), (trodAll_cons_mk (Below.trod laidOut (by kernel_rfl) (of_decide_eq_true (by kernel_rfl)) k0 bel lt0) (trodAll_cons_mk (Below.trod laidOut (by kernel_rfl) (of_decide_eq_true (by kernel_rfl)) k1 bel lt1) trodAll_mk0)), rfl, bel.frame _, fun h => by cases h⟩

theorem over : Rows.eventWritesRow.holds Try.pinned (OpenSpec.ofChange Rows.eventWritesSpec) :=
  OpenClaim.holds_of_wide 3 Try.f3 rfl rfl rfl rfl rfl rfl rfl ⟨rfl, rfl, rfl, rfl, rfl⟩ rfl rfl rfl rfl rfl (by kernel_rfl) Try.func3 (by kernel_rfl)
    (of_decide_eq_true (by kernel_rfl)) (by unfold Func.isWrapper; first | (rw [if_pos (by decide +kernel)]; kernel_rfl) | (rw [if_neg (by decide +kernel)]; exact ⟨rfl, rfl⟩))
    (fun os started H enc _ => lifted os started H enc)

end Go.Proofs.Ytgjkplkghoeeeaa.eventWrites
namespace Go.Proofs.Ytgjkplkghoeeeaa
theorem eventWrites_holds : Rows.EventWritesSaid := eventWrites.over
end Go.Proofs.Ytgjkplkghoeeeaa
