/- For every packet, any size and any order the statement FragBack of layer 12 holds: of the pieces comes the packet. No condition. -/
import Derived.Test.YtcjhniehbafhpaaRows
import Derived.Test.YtcjhniehbafhpaaFz
import Derived.WalkKit
import Derived.ProofKit
import Derived.OpenShut
import Derived.ShutString
import Derived.ChangeOld
import Derived.Below
import Derived.Carry
import Derived.SizedLaws
import Derived.Deep.Fields
import Derived.ChangeSlices
import Derived.Laws.AppendOwnNone
import Derived.Laws.AppendOwn
namespace Go.Proofs.Ytcjhniehbafhpaa.fragBack
open Go.ChangeShapes Go.WideShapes Go.ChangeAt Go.RowKit
set_option maxRecDepth 100000
open Go.ChangeMaps (open_string)
set_option linter.unusedVariables false

theorem own : ownKnob Try.prog.godebug = none := by kernel_rfl
theorem laidOut : laidOutB Try.prog = true := by kernel_rfl

theorem open_fields {H : Type} {enc : TypeId × Value → H} {P : Program} {w : World} {base : Nat} {spare : Nat → Bool} {held : Bool} {r : Reach} {b0 : Nat} {t : TypeId} {fs : Array Field} {v : Value} {d : DataW H} {p : List MemPlace} (hs : P.underlying t = some (.struct fs)) (hone : Go.Deep.oneCellFields P fs = true) (hC : P.cellsOf t = fs.size)
    (hv : Value.okWide P w r b0 t v) (h : DataW.Trod enc P w base spare held t v d p) :
    ∃ (cs : Array Value) (parts : List (DataW H)), v = .agg cs ∧ d = .agg parts ∧ cs.size = fs.size ∧ ∀ (i : Nat) (f : Field), fs[i]? = some f → ∃ n x, DataW.trod enc P w base spare held n f.type ((cs.toList.drop i).take 1) = some x ∧ parts[i]? = some x.1 := by
  obtain ⟨cs, rfl, hsz⟩ := okWide_struct hs hv
  obtain ⟨fuel, hf⟩ := h
  obtain ⟨xs, n, _, hx, hl, hlen, hfs⟩ := DataW.trod_struct hs hf
  have hd : d = .agg (xs.map (·.1)) := congrArg Prod.fst hx
  refine ⟨cs, xs.map (·.1), rfl, hd, hsz.trans hC, fun i f hi => ?_⟩
  obtain ⟨o1, k1⟩ := Go.Deep.hone_of hone i f hi
  have := hfs i f hi
  have hlt : i < xs.length := by rw [hlen]; exact (Array.getElem?_eq_some_iff.1 hi).1
  rw [o1, k1, List.getElem?_eq_getElem hlt] at this
  exact ⟨n, _, by simpa [Value.cells] using this, by simp [List.getElem?_eq_getElem hlt]⟩
theorem sized_field {H : Type} {P : Program} {ts : List TypeId} {ds : List (DataW H)} (h : (DataW.weightsEach P ts ds).all (· ≤ reachBytes) = true) {j i : Nat} {t ft : TypeId} {fs : Array Field} {parts : List (DataW H)} {bytes : List UInt8} (ht : ts[j]? = some t) (hd : ds[j]? = some (.agg parts)) (hu : P.underlying t = some (.struct fs)) (hf : (fs.toList.map (·.type))[i]? = some ft) (hp : parts[i]? = some (.lit (.string bytes))) : bytes.length ≤ reachBytes := by
  have := List.all_eq_true.1 h _ (DataW.weights_mem_each ht hd bytes.length (by simp only [DataW.weights, hu]; exact DataW.weights_mem_each hf hp _ (by simp [DataW.weights])))
  simpa using this

theorem cells32 : Try.prog.cellsOf 32 = 10 := by kernel_rfl
theorem open32 {H : Type} {enc : TypeId × Value → H} {w : World} {base : Nat} {spare : Nat → Bool} {held : Bool} {r : Reach} {b0 : Nat} {v : Value} {d : DataW H} {p : List MemPlace} (hv : Value.okWide Try.prog w r b0 32 v) (h : DataW.Trod enc Try.prog w base spare held 32 v d p) :
    ∃ (f0 : Int) (f1 : Int) (f2 : Int) (f3 : Int) (f4 : Int) (f5 : Int) (f6 : Bool) (f7 : Bool) (f8 : ByteArray) (f9 : ByteArray) (parts : List (DataW H)), v = .agg #[.int .i64 f0, .int .i64 f1, .int .i64 f2, .int .i64 f3, .int .i64 f4, .int .i64 f5, .bool f6, .bool f7, .string f8, .string f9] ∧ d = .agg parts ∧ (Lit.int .i64 f0).wf = true ∧ (Lit.int .i64 f1).wf = true ∧ (Lit.int .i64 f2).wf = true ∧ (Lit.int .i64 f3).wf = true ∧ (Lit.int .i64 f4).wf = true ∧ (Lit.int .i64 f5).wf = true ∧ f8.size ≤ maxLen ∧ f9.size ≤ maxLen ∧ parts[8]? = some (.lit (.string f8.data.toList)) ∧ parts[9]? = some (.lit (.string f9.data.toList)) := by
  obtain ⟨⟨l⟩, parts, rfl, hdp, hz, hf⟩ := open_fields Try.underlying32 (by kernel_rfl) cells32 hv h
  have hz' : l.length = 10 := by simpa using hz
  match l, hz' with
  | [c0, c1, c2, c3, c4, c5, c6, c7, c8, c9], _ =>
    obtain ⟨n0, x0, t0, m0⟩ := hf 0 _ rfl
    obtain ⟨f0, q0, -, e0⟩ := DataW.trod_int Try.underlying3 t0
    have p0 : c0 = .int .i64 f0 := by simpa using q0
    obtain ⟨n1, x1, t1, m1⟩ := hf 1 _ rfl
    obtain ⟨f1, q1, -, e1⟩ := DataW.trod_int Try.underlying3 t1
    have p1 : c1 = .int .i64 f1 := by simpa using q1
    obtain ⟨n2, x2, t2, m2⟩ := hf 2 _ rfl
    obtain ⟨f2, q2, -, e2⟩ := DataW.trod_int Try.underlying3 t2
    have p2 : c2 = .int .i64 f2 := by simpa using q2
    obtain ⟨n3, x3, t3, m3⟩ := hf 3 _ rfl
    obtain ⟨f3, q3, -, e3⟩ := DataW.trod_int Try.underlying3 t3
    have p3 : c3 = .int .i64 f3 := by simpa using q3
    obtain ⟨n4, x4, t4, m4⟩ := hf 4 _ rfl
    obtain ⟨f4, q4, -, e4⟩ := DataW.trod_int Try.underlying3 t4
    have p4 : c4 = .int .i64 f4 := by simpa using q4
    obtain ⟨n5, x5, t5, m5⟩ := hf 5 _ rfl
    obtain ⟨f5, q5, -, e5⟩ := DataW.trod_int Try.underlying3 t5
    have p5 : c5 = .int .i64 f5 := by simpa using q5
    obtain ⟨n6, x6, t6, m6⟩ := hf 6 _ rfl
    obtain ⟨f6, q6, -⟩ := DataW.trod_bool Try.underlying4 t6
    have p6 : c6 = .bool f6 := by simpa using q6
    obtain ⟨n7, x7, t7, m7⟩ := hf 7 _ rfl
    obtain ⟨f7, q7, -⟩ := DataW.trod_bool Try.underlying4 t7
    have p7 : c7 = .bool f7 := by simpa using q7
    obtain ⟨n8, x8, t8, m8⟩ := hf 8 _ rfl
    obtain ⟨f8, q8, y8, e8⟩ := DataW.trod_string Try.underlying9 t8
    rw [y8] at m8
    have p8 : c8 = .string f8 := by simpa using q8
    obtain ⟨n9, x9, t9, m9⟩ := hf 9 _ rfl
    obtain ⟨f9, q9, y9, e9⟩ := DataW.trod_string Try.underlying9 t9
    rw [y9] at m9
    have p9 : c9 = .string f9 := by simpa using q9
    subst p0 p1 p2 p3 p4 p5 p6 p7 p8 p9
    exact ⟨f0, f1, f2, f3, f4, f5, f6, f7, f8, f9, parts, rfl, hdp, e0, e1, e2, e3, e4, e5, e8, e9, m8, m9⟩

/-- What the walk is told of a list of numbers that came in: it is nil, or it leads to a row of cells that hold the numbers. -/
def IsInts (w : World) (a : Option Addr) (cap : Nat) (zs : List Int) : Prop :=
  (a = none ∧ cap = 0 ∧ zs = []) ∨ ∃ x, a = some x ∧ (∀ i, i < zs.length → w.cell? (x.add i) = some (.int .i64 (zs.getD i 0))) ∧ ∀ z ∈ zs, (Lit.int .i64 z).wf = true
theorem bytes3 : Try.prog.bytesOf 3 = 8 := by kernel_rfl

-- WALK
theorem walk (f0_0 : Int) (e0_0 : (Lit.int .i64 f0_0).wf = true) (f0_1 : Int) (e0_1 : (Lit.int .i64 f0_1).wf = true) (f0_2 : Int) (e0_2 : (Lit.int .i64 f0_2).wf = true) (f0_3 : Int) (e0_3 : (Lit.int .i64 f0_3).wf = true) (f0_4 : Int) (e0_4 : (Lit.int .i64 f0_4).wf = true) (f0_5 : Int) (e0_5 : (Lit.int .i64 f0_5).wf = true) (f0_6 f0_7 : Bool) (f0_8 : ByteArray) (e0_8 : f0_8.size ≤ maxLen) (z0_8 : f0_8.size ≤ 140737488351232) (f0_9 : ByteArray) (e0_9 : f0_9.size ≤ maxLen) (z0_9 : f0_9.size ≤ 140737488351232) (a1 : Int) (w1 : (Lit.int .i64 a1).wf = true) (a : Option Addr) (cap : Nat) (zs : List Int) (w : World) (hi : IsInts w a cap zs) (hz : zs.length * 8 ≤ 140737488351232) :
    Calls Try.prog 4 #[.agg #[.int .i64 f0_0, .int .i64 f0_1, .int .i64 f0_2, .int .i64 f0_3, .int .i64 f0_4, .int .i64 f0_5, .bool f0_6, .bool f0_7, .string f0_8, .string f0_9], .int .i64 a1, .slice a zs.length cap] w fun e w' => e = .returned (.bool true) ∧ Below w.heap.size w w' :=
  back_any f0_0 f0_1 f0_2 f0_3 f0_4 f0_5 f0_6 f0_7 f0_8 f0_9 a1 a cap zs w z0_8 z0_9 (by
    rcases hi with ⟨_, _, h⟩ | ⟨x, h, hc, _⟩
    · exact Or.inl h
    · exact Or.inr ⟨x, h, hc⟩) hz

set_option maxRecDepth 100000 in
theorem lifted (os : Os) (started : os.Started) (H : Type) (enc : TypeId × Value → H) :
    ReturnsInHanded {} Try.checked os 4 .any (Rows.fragBackSpec.pre6 enc Try.prog Try.f4 Rows.fragBackRow.domain false) (Rows.fragBackSpec.post enc Try.prog Try.f4 false true false false) := by
  refine returnsInHanded_of_change_sized (C := Try.checked) own started (by kernel_rfl) Try.func4
    (ChangeSpec.witness6 (enc := enc) (C := Try.checked) false ⟨#[], #[.agg #[.int .i64 0, .int .i64 0, .int .i64 0, .int .i64 0, .int .i64 0, .int .i64 0, .bool false, .bool false, .string ByteArray.empty, .string ByteArray.empty], .int .i64 0, .slice none 0 0], []⟩ 8 (by kernel_rfl) (by kernel_rfl) (by kernel_rfl) (by kernel_rfl)) ?_
  intro W base args ds gs before hval0 hW hcnd hsz0 _
  have hsz : (DataW.weightsEach Try.prog (Try.f4.params.toList ++ Rows.fragBackSpec.plain.varTypes Try.prog) (ds ++ gs)).all (· ≤ reachBytes) = true := hsz0
  have hval : ∀ (j : Nat) t v, Try.f4.params[j]? = some t → args[j]? = some v → Value.okWide Try.prog W .any base t v := hval0
  have hW' := hW
  obtain ⟨p, q, hA0, hV, rfl, hfz, hnd⟩ := hW
  have hA : DataW.TrodAll enc Try.prog W 0 (fun _ => true) true Try.f4.params.toList args.toList ds p := hA0
  rw [Try.params4] at hA hval hsz
  obtain ⟨v0, vs0, d0, ds0, p0, q0, hargs, rfl, rfl, h0, r0⟩ := trodAll_cons hA
  obtain ⟨v1, vs1, d1, ds1, p1, q1, rfl, rfl, rfl, h1, r1⟩ := trodAll_cons r0
  obtain ⟨v2, vs2, d2, ds2, p2, q2, rfl, rfl, rfl, h2, r2⟩ := trodAll_cons r1
  obtain ⟨rfl, rfl, rfl⟩ := trodAll_nil r2
  obtain rfl : args = #[v0, v1, v2] := by cases args; simp_all
  obtain ⟨rfl, rfl⟩ := trodVars_none hV
  have k0 := h0
  have lt0 : ∀ x ∈ p0, x.block < W.heap.size := by obtain ⟨m, hm⟩ := k0; exact DataW.trod_lt m _ _ _ hm
  have k1 := h1
  have lt1 : ∀ x ∈ p1, x.block < W.heap.size := by obtain ⟨m, hm⟩ := k1; exact DataW.trod_lt m _ _ _ hm
  have k2 := h2
  have lt2 : ∀ x ∈ p2, x.block < W.heap.size := by obtain ⟨m, hm⟩ := k2; exact DataW.trod_lt m _ _ _ hm
  obtain ⟨f0_0, f0_1, f0_2, f0_3, f0_4, f0_5, f0_6, f0_7, f0_8, f0_9, parts0, rfl, hdp0, e0_0, e0_1, e0_2, e0_3, e0_4, e0_5, e0_8, e0_9, m0_8, m0_9⟩ := open32 (hval 0 32 v0 rfl rfl) h0
  have z0_8 : f0_8.size ≤ 140737488351232 := by
    have := sized_field hsz (j := 0) (i := 8) (t := 32) rfl (by rw [hdp0]; rfl) Try.underlying32 rfl m0_8
    simp only [reachBytes] at this
    simpa using this
  have z0_9 : f0_9.size ≤ 140737488351232 := by
    have := sized_field hsz (j := 0) (i := 9) (t := 32) rfl (by rw [hdp0]; rfl) Try.underlying32 rfl m0_9
    simp only [reachBytes] at this
    simpa using this
  obtain ⟨a1, rfl, -, -, w1⟩ := open_int Try.underlying3 (hval 1 3 v1 rfl rfl) h1
  obtain ⟨a2, len2, c2, rfl⟩ := okWide_slice Try.underlying46 (hval 2 46 v2 rfl rfl)
  obtain ⟨zs2, hlen2, g2, y2⟩ : ∃ zs : List Int, zs.length = len2 ∧ IsInts W a2 c2 zs ∧ zs.length * 8 ≤ 140737488351232 := by
    obtain ⟨fuel, hf⟩ := h2
    rcases open_ints Try.underlying46 Try.underlying3 (by kernel_rfl) hf with ⟨hcs, _⟩ | ⟨x, l, c, zs, hcs, _, hl, hm, hz, hx, hcell, hwz⟩
    · simp [Value.cells] at hcs
      obtain ⟨rfl, rfl, rfl⟩ := hcs
      exact ⟨[], rfl, .inl ⟨rfl, rfl, rfl⟩, by simp⟩
    · simp [Value.cells] at hcs
      obtain ⟨rfl, rfl, rfl⟩ := hcs
      simp only [if_true] at hz
      have hd : d2 = .slice (lits .i64 (zs.take len2)) (lits .i64 (zs.drop len2)) := congrArg Prod.fst hx
      have hsl := sized_slice hsz (j := 2) (t := 46) (e := 3) rfl (by rw [hd]; rfl) Try.underlying46
      rw [bytes3] at hsl
      simp only [lits, List.length_map, List.length_take, List.length_drop, reachBytes] at hsl
      have htl : (zs.take len2).length = len2 := by rw [List.length_take]; omega
      refine ⟨zs.take len2, htl, .inr ⟨x, rfl, ?_, fun z hzm => hwz z (List.mem_of_mem_take hzm)⟩, ?_⟩
      · intro i hi
        rw [htl] at hi
        have e : (zs.take len2).getD i 0 = zs.getD i 0 := by
          simp only [List.getD, List.getElem?_take, if_pos hi]
        rw [e]
        exact hcell i (by omega)
      · rw [htl]; omega
  subst hlen2
  clear hA0 hval0
  refine (walk f0_0 e0_0 f0_1 e0_1 f0_2 e0_2 f0_3 e0_3 f0_4 e0_4 f0_5 e0_5 f0_6 f0_7 f0_8 e0_8 z0_8 f0_9 e0_9 z0_9 a1 w1 a2 c2 zs2 W g2 y2).mono fun e W' ⟨he, bel⟩ => ?_
  subst he
  exact ⟨_, rfl, _, _, _, [], _, [], hW', trodAll_mk1 (shut_bool Try.underlying4 _), (trodAll_cons_mk (Below.trod laidOut (by kernel_rfl) (of_decide_eq_true (by kernel_rfl)) k0 bel lt0) (trodAll_cons_mk (Below.trod laidOut (by kernel_rfl) (of_decide_eq_true (by kernel_rfl)) k1 bel lt1) (trodAll_cons_mk (Below.trod laidOut (by kernel_rfl) (of_decide_eq_true (by kernel_rfl)) k2 bel lt2) trodAll_mk0))), rfl, bel.frame _, fun h => by cases h⟩

theorem over : Rows.fragBackRow.holds Try.pinned (OpenSpec.ofChange Rows.fragBackSpec) :=
  OpenClaim.holds_of_wide 4 Try.f4 rfl rfl rfl rfl rfl rfl rfl ⟨rfl, rfl, rfl, rfl, rfl⟩ rfl rfl rfl rfl rfl (by kernel_rfl) Try.func4 (by kernel_rfl)
    (of_decide_eq_true (by kernel_rfl)) (by unfold Func.isWrapper; first | (rw [if_pos (by decide +kernel)]; kernel_rfl) | (rw [if_neg (by decide +kernel)]; exact ⟨rfl, rfl⟩))
    (fun os started H enc _ => lifted os started H enc)

end Go.Proofs.Ytcjhniehbafhpaa.fragBack
namespace Go.Proofs.Ytcjhniehbafhpaa
theorem fragBack_holds : Rows.FragBackSaid := fragBack.over
end Go.Proofs.Ytcjhniehbafhpaa
