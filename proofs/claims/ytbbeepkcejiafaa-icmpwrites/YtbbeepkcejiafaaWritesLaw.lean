/- Proved: which ICMP packets may be, their bytes, and their answers, are those of the document; no condition. -/
import Derived.Test.YtbbeepkcejiafaaRows
import Derived.Test.YtbbeepkcejiafaaIcr
import Derived.WalkKit
import Derived.ProofKit
import Derived.OpenShut
import Derived.ShutString
import Derived.ChangeOld
import Derived.Below
import Derived.Carry
import Derived.SizedLaws
import Derived.Deep.Fields
namespace Go.Proofs.Ytbbeepkcejiafaa.icmpWrites
open Go.ChangeShapes Go.WideShapes Go.ChangeAt Go.RowKit
open Go.ChangeMaps (open_string)
set_option linter.unusedVariables false

theorem own : ownKnob Try.prog.godebug = none := by kernel_rfl
theorem laidOut : laidOutB Try.prog = true := by kernel_rfl

theorem open_fields {H : Type} {enc : TypeId × Value → H} {P : Program} {w : World} {base : Nat} {spare : Nat → Bool} {held : Bool} {r : Reach} {b0 : Nat} {t : TypeId} {fs : Array Field} {v : Value} {d : DataW H} {p : List MemPlace} (hs : P.underlying t = some (.struct fs)) (hone : Go.Deep.oneCellFields P fs = true) (hC : P.cellsOf t = fs.size)
    (hv : Value.okWide P w r b0 t v) (h : DataW.Trod enc P w base spare held t v d p) :
    ∃ (cs : Array Value) (parts : List (DataW H)), v = .agg cs ∧ d = .agg parts ∧ cs.size = fs.size ∧ ∀ (i : Nat) (f : Field), fs[i]? = some f → ∃ n x, DataW.trod enc P w base spare held n f.type ((cs.toList.drop i).take 1) = some x ∧ parts[i]? = some x.1 := by
  obtain ⟨cs, rfl, hsz⟩ := okWide_struct hs hv
  obtain ⟨fuel, hf⟩ := h
  obtain ⟨xs, n, _, hx, hl, hlen, hfs⟩ := DataW.trod_struct hs hf
  have hd : d = .agg (xs.map (·.1)) := congrArg Prod.fst hx
  refine ⟨cs, xs.map (·.1), rfl, hd, hsz.trans hC, fun i f hi => ?_⟩
  obtain ⟨o1, k1⟩ := Go.Deep.hone_of hone i f hi
  have := hfs i f hi
  have hlt : i < xs.length := by rw [hlen]; exact (Array.getElem?_eq_some_iff.1 hi).1
  rw [o1, k1, List.getElem?_eq_getElem hlt] at this
  exact ⟨n, _, by simpa [Value.cells] using this, by simp [List.getElem?_eq_getElem hlt]⟩
theorem sized_field {H : Type} {P : Program} {ts : List TypeId} {ds : List (DataW H)} (h : (DataW.weightsEach P ts ds).all (· ≤ reachBytes) = true) {j i : Nat} {t ft : TypeId} {fs : Array Field} {parts : List (DataW H)} {bytes : List UInt8} (ht : ts[j]? = some t) (hd : ds[j]? = some (.agg parts)) (hu : P.underlying t = some (.struct fs)) (hf : (fs.toList.map (·.type))[i]? = some ft) (hp : parts[i]? = some (.lit (.string bytes))) : bytes.length ≤ reachBytes := by
  have := List.all_eq_true.1 h _ (DataW.weights_mem_each ht hd bytes.length (by simp only [DataW.weights, hu]; exact DataW.weights_mem_each hf hp _ (by simp [DataW.weights])))
  simpa using this

theorem cells23 : Try.prog.cellsOf 23 = 5 := by kernel_rfl
theorem open23 {H : Type} {enc : TypeId × Value → H} {w : World} {base : Nat} {spare : Nat → Bool} {held : Bool} {r : Reach} {b0 : Nat} {v : Value} {d : DataW H} {p : List MemPlace} (hv : Value.okWide Try.prog w r b0 23 v) (h : DataW.Trod enc Try.prog w base spare held 23 v d p) :
    ∃ (f0 : Int) (f1 : Int) (f2 : Int) (f3 : Int) (f4 : ByteArray) (parts : List (DataW H)), v = .agg #[.int .i64 f0, .int .i64 f1, .int .i64 f2, .int .i64 f3, .string f4] ∧ d = .agg parts ∧ (Lit.int .i64 f0).wf = true ∧ (Lit.int .i64 f1).wf = true ∧ (Lit.int .i64 f2).wf = true ∧ (Lit.int .i64 f3).wf = true ∧ f4.size ≤ maxLen ∧ parts[4]? = some (.lit (.string f4.data.toList)) := by
  obtain ⟨⟨l⟩, parts, rfl, hdp, hz, hf⟩ := open_fields Try.underlying23 (by kernel_rfl) cells23 hv h
  have hz' : l.length = 5 := by simpa using hz
  match l, hz' with
  | [c0, c1, c2, c3, c4], _ =>
    obtain ⟨n0, x0, t0, m0⟩ := hf 0 _ rfl
    obtain ⟨f0, q0, -, e0⟩ := DataW.trod_int Try.underlying3 t0
    have p0 : c0 = .int .i64 f0 := by simpa using q0
    obtain ⟨n1, x1, t1, m1⟩ := hf 1 _ rfl
    obtain ⟨f1, q1, -, e1⟩ := DataW.trod_int Try.underlying3 t1
    have p1 : c1 = .int .i64 f1 := by simpa using q1
    obtain ⟨n2, x2, t2, m2⟩ := hf 2 _ rfl
    obtain ⟨f2, q2, -, e2⟩ := DataW.trod_int Try.underlying3 t2
    have p2 : c2 = .int .i64 f2 := by simpa using q2
    obtain ⟨n3, x3, t3, m3⟩ := hf 3 _ rfl
    obtain ⟨f3, q3, -, e3⟩ := DataW.trod_int Try.underlying3 t3
    have p3 : c3 = .int .i64 f3 := by simpa using q3
    obtain ⟨n4, x4, t4, m4⟩ := hf 4 _ rfl
    obtain ⟨f4, q4, y4, e4⟩ := DataW.trod_string Try.underlying9 t4
    rw [y4] at m4
    have p4 : c4 = .string f4 := by simpa using q4
    subst p0 p1 p2 p3 p4
    exact ⟨f0, f1, f2, f3, f4, parts, rfl, hdp, e0, e1, e2, e3, e4, m4⟩

-- WALK
theorem keep15 {w W x : World} {a0 a1 a2 a3 a4 a5 a6 a7 a8 a9 a10 a11 a12 a13 a14 : Addr} {v0 v1 v2 v3 v4 v5 v6 v7 v8 v9 v10 v11 v12 v13 v14 : Value} (hb : Below W.heap.size W x) (h : Below w.heap.size w W ∧ (W.cell? a0 = some v0 ∧ W.cell? a1 = some v1 ∧ W.cell? a2 = some v2 ∧ W.cell? a3 = some v3 ∧ W.cell? a4 = some v4) ∧ (W.cell? a5 = some v5 ∧ W.cell? a6 = some v6 ∧ W.cell? a7 = some v7 ∧ W.cell? a8 = some v8 ∧ W.cell? a9 = some v9) ∧ (W.cell? a10 = some v10 ∧ W.cell? a11 = some v11 ∧ W.cell? a12 = some v12 ∧ W.cell? a13 = some v13 ∧ W.cell? a14 = some v14)) :
    Below w.heap.size w x ∧ (x.cell? a0 = some v0 ∧ x.cell? a1 = some v1 ∧ x.cell? a2 = some v2 ∧ x.cell? a3 = some v3 ∧ x.cell? a4 = some v4) ∧ (x.cell? a5 = some v5 ∧ x.cell? a6 = some v6 ∧ x.cell? a7 = some v7 ∧ x.cell? a8 = some v8 ∧ x.cell? a9 = some v9) ∧ (x.cell? a10 = some v10 ∧ x.cell? a11 = some v11 ∧ x.cell? a12 = some v12 ∧ x.cell? a13 = some v13 ∧ x.cell? a14 = some v14) :=
  ⟨bt h.1 hb, ⟨later hb h.2.1.1, later hb h.2.1.2.1, later hb h.2.1.2.2.1, later hb h.2.1.2.2.2.1, later hb h.2.1.2.2.2.2⟩, ⟨later hb h.2.2.1.1, later hb h.2.2.1.2.1, later hb h.2.2.1.2.2.1, later hb h.2.2.1.2.2.2.1, later hb h.2.2.1.2.2.2.2⟩, ⟨later hb h.2.2.2.1, later hb h.2.2.2.2.1, later hb h.2.2.2.2.2.1, later hb h.2.2.2.2.2.2.1, later hb h.2.2.2.2.2.2.2⟩⟩

set_option maxRecDepth 100000 in
set_option maxHeartbeats 4000000 in
theorem walk_n {ty co x y : Int} {da : ByteArray} (w : World) (hd : da.size ≤ 1125899906842624) (hm : mayI ty co x y da.size = false) (ha : askB ty co x y da.size = false) :
    Calls Try.prog 3 #[.agg #[.int .i64 ty, .int .i64 co, .int .i64 x, .int .i64 y, .string da]] w fun e w' => e = .returned (.bool true) ∧ Below w.heap.size w w' := by
  have hA := At.box w #[.int .i64 ty, .int .i64 co, .int .i64 x, .int .i64 y, .string da] 23
  have hl := bel1 w (.cells #[.int .i64 ty, .int .i64 co, .int .i64 x, .int .i64 y, .string da] 23)
  go_enter Try.func3, Try.ntmps3
  go_wp2_with fail
  refine (ienc_n hm _ hd).mono ?_
  rintro e w1 ⟨rfl, hb⟩
  replace hl := bt hl hb
  replace hA := hA.later hb
  clear hb 
  obtain ⟨⟨c0, c1, c2, c3, c4⟩, -, -⟩ := hA.five
  go_wp2_with fail
  refine (irenc_n hm _ hd).mono ?_
  rintro e w2 ⟨rfl, hb⟩
  replace hl := bt hl hb
  replace hA := hA.later hb
  clear hb c0 c1 c2 c3 c4
  obtain ⟨⟨c0, c1, c2, c3, c4⟩, -, -⟩ := hA.five
  go_wp2_with fail
  refine (ans_f ha _ hd).mono ?_
  rintro e w3 ⟨rfl, hb⟩
  replace hl := bt (bt hl hb) (bel1 w3 (.cells #[.int .i64 0, .int .i64 0, .int .i64 0, .int .i64 0, .string ⟨#[]⟩] 23))
  replace hA := (hA.later hb).later (bel1 w3 (.cells #[.int .i64 0, .int .i64 0, .int .i64 0, .int .i64 0, .string ⟨#[]⟩] 23))
  have hX := At.box w3 #[.int .i64 0, .int .i64 0, .int .i64 0, .int .i64 0, .string ⟨#[]⟩] 23
  clear hb c0 c1 c2 c3 c4
  obtain ⟨⟨c0, c1, c2, c3, c4⟩, -, -⟩ := hA.five
  go_wp2_with fail
  refine (rans_f ha _ hd).mono ?_
  rintro e w4 ⟨rfl, hb⟩
  replace hl := bt (bt hl hb) (bel1 w4 (.cells #[.int .i64 0, .int .i64 0, .int .i64 0, .int .i64 0, .string ⟨#[]⟩] 23))
  replace hA := (hA.later hb).later (bel1 w4 (.cells #[.int .i64 0, .int .i64 0, .int .i64 0, .int .i64 0, .string ⟨#[]⟩] 23))
  replace hX := (hX.later hb).later (bel1 w4 (.cells #[.int .i64 0, .int .i64 0, .int .i64 0, .int .i64 0, .string ⟨#[]⟩] 23))
  have hY := At.box w4 #[.int .i64 0, .int .i64 0, .int .i64 0, .int .i64 0, .string ⟨#[]⟩] 23
  clear hb c0 c1 c2 c3 c4
  obtain ⟨⟨c0, c1, c2, c3, c4⟩, -, -⟩ := hA.five
  obtain ⟨⟨d0, d1, d2, d3, d4⟩, -, -⟩ := hX.five
  obtain ⟨⟨y0, y1, y2, y3, y4⟩, -, -⟩ := hY.five
  clear hX hY
  have hx5 : Below w.heap.size w (w4.alloc (.cells #[.int .i64 0, .int .i64 0, .int .i64 0, .int .i64 0, .string ⟨#[]⟩] 23)).drew ∧ ((w4.alloc (.cells #[.int .i64 0, .int .i64 0, .int .i64 0, .int .i64 0, .string ⟨#[]⟩] 23)).drew.cell? ⟨w.heap.size, 0, none⟩ = some (.int .i64 ty) ∧ (w4.alloc (.cells #[.int .i64 0, .int .i64 0, .int .i64 0, .int .i64 0, .string ⟨#[]⟩] 23)).drew.cell? ⟨w.heap.size, 1, none⟩ = some (.int .i64 co) ∧ (w4.alloc (.cells #[.int .i64 0, .int .i64 0, .int .i64 0, .int .i64 0, .string ⟨#[]⟩] 23)).drew.cell? ⟨w.heap.size, 2, none⟩ = some (.int .i64 x) ∧ (w4.alloc (.cells #[.int .i64 0, .int .i64 0, .int .i64 0, .int .i64 0, .string ⟨#[]⟩] 23)).drew.cell? ⟨w.heap.size, 3, none⟩ = some (.int .i64 y) ∧ (w4.alloc (.cells #[.int .i64 0, .int .i64 0, .int .i64 0, .int .i64 0, .string ⟨#[]⟩] 23)).drew.cell? ⟨w.heap.size, 4, none⟩ = some (.string da)) ∧ ((w4.alloc (.cells #[.int .i64 0, .int .i64 0, .int .i64 0, .int .i64 0, .string ⟨#[]⟩] 23)).drew.cell? ⟨w3.heap.size, 0, none⟩ = some (.int .i64 0) ∧ (w4.alloc (.cells #[.int .i64 0, .int .i64 0, .int .i64 0, .int .i64 0, .string ⟨#[]⟩] 23)).drew.cell? ⟨w3.heap.size, 1, none⟩ = some (.int .i64 0) ∧ (w4.alloc (.cells #[.int .i64 0, .int .i64 0, .int .i64 0, .int .i64 0, .string ⟨#[]⟩] 23)).drew.cell? ⟨w3.heap.size, 2, none⟩ = some (.int .i64 0) ∧ (w4.alloc (.cells #[.int .i64 0, .int .i64 0, .int .i64 0, .int .i64 0, .string ⟨#[]⟩] 23)).drew.cell? ⟨w3.heap.size, 3, none⟩ = some (.int .i64 0) ∧ (w4.alloc (.cells #[.int .i64 0, .int .i64 0, .int .i64 0, .int .i64 0, .string ⟨#[]⟩] 23)).drew.cell? ⟨w3.heap.size, 4, none⟩ = some (.string ⟨#[]⟩)) ∧ ((w4.alloc (.cells #[.int .i64 0, .int .i64 0, .int .i64 0, .int .i64 0, .string ⟨#[]⟩] 23)).drew.cell? ⟨w4.heap.size, 0, none⟩ = some (.int .i64 0) ∧ (w4.alloc (.cells #[.int .i64 0, .int .i64 0, .int .i64 0, .int .i64 0, .string ⟨#[]⟩] 23)).drew.cell? ⟨w4.heap.size, 1, none⟩ = some (.int .i64 0) ∧ (w4.alloc (.cells #[.int .i64 0, .int .i64 0, .int .i64 0, .int .i64 0, .string ⟨#[]⟩] 23)).drew.cell? ⟨w4.heap.size, 2, none⟩ = some (.int .i64 0) ∧ (w4.alloc (.cells #[.int .i64 0, .int .i64 0, .int .i64 0, .int .i64 0, .string ⟨#[]⟩] 23)).drew.cell? ⟨w4.heap.size, 3, none⟩ = some (.int .i64 0) ∧ (w4.alloc (.cells #[.int .i64 0, .int .i64 0, .int .i64 0, .int .i64 0, .string ⟨#[]⟩] 23)).drew.cell? ⟨w4.heap.size, 4, none⟩ = some (.string ⟨#[]⟩)) := ⟨hl.drew, ⟨c0, c1, c2, c3, c4⟩, ⟨d0, d1, d2, d3, d4⟩, ⟨y0, y1, y2, y3, y4⟩⟩
  have chk := fun W => ichk_f hm W hd
  have rchk := fun W => richk_f hm W hd
  go_wp2
  go_region_held3 (fun W => Below w.heap.size w W ∧ (W.cell? ⟨w.heap.size, 0, none⟩ = some (.int .i64 ty) ∧ W.cell? ⟨w.heap.size, 1, none⟩ = some (.int .i64 co) ∧ W.cell? ⟨w.heap.size, 2, none⟩ = some (.int .i64 x) ∧ W.cell? ⟨w.heap.size, 3, none⟩ = some (.int .i64 y) ∧ W.cell? ⟨w.heap.size, 4, none⟩ = some (.string da)) ∧ (W.cell? ⟨w3.heap.size, 0, none⟩ = some (.int .i64 0) ∧ W.cell? ⟨w3.heap.size, 1, none⟩ = some (.int .i64 0) ∧ W.cell? ⟨w3.heap.size, 2, none⟩ = some (.int .i64 0) ∧ W.cell? ⟨w3.heap.size, 3, none⟩ = some (.int .i64 0) ∧ W.cell? ⟨w3.heap.size, 4, none⟩ = some (.string ⟨#[]⟩)) ∧ (W.cell? ⟨w4.heap.size, 0, none⟩ = some (.int .i64 0) ∧ W.cell? ⟨w4.heap.size, 1, none⟩ = some (.int .i64 0) ∧ W.cell? ⟨w4.heap.size, 2, none⟩ = some (.int .i64 0) ∧ W.cell? ⟨w4.heap.size, 3, none⟩ = some (.int .i64 0) ∧ W.cell? ⟨w4.heap.size, 4, none⟩ = some (.string ⟨#[]⟩))) (first | exact hx5 | (refine keep15 hb ?_; assumption)) (first | (go_at_call 13; refine (chk _).mono ?_; rintro e w' ⟨rfl, hb⟩) | (go_at_call 14; refine (rchk _).mono ?_; rintro e w' ⟨rfl, hb⟩) | (go_at_call 15; refine (iworks_any _).mono ?_; rintro e w' ⟨rfl, hb⟩))
  all_goals
    rename_i hq
    go_wp2
    go_ret
    exact ⟨rfl, hq.1⟩

set_option maxRecDepth 100000 in
set_option maxHeartbeats 4000000 in
theorem walk_m {ty co x y : Int} {da : ByteArray} (w : World) (hd : da.size ≤ 1125899906842624) (hm : mayI ty co x y da.size = true) (ha : askB ty co x y da.size = false) :
    Calls Try.prog 3 #[.agg #[.int .i64 ty, .int .i64 co, .int .i64 x, .int .i64 y, .string da]] w fun e w' => e = .returned (.bool true) ∧ Below w.heap.size w w' := by
  have hA := At.box w #[.int .i64 ty, .int .i64 co, .int .i64 x, .int .i64 y, .string da] 23
  have hl := bel1 w (.cells #[.int .i64 ty, .int .i64 co, .int .i64 x, .int .i64 y, .string da] 23)
  go_enter Try.func3, Try.ntmps3
  go_wp2_with fail
  refine (ienc_y hm _).mono ?_
  rintro e w1 ⟨rfl, hb⟩
  replace hl := bt hl hb
  replace hA := hA.later hb
  clear hb 
  obtain ⟨⟨c0, c1, c2, c3, c4⟩, -, -⟩ := hA.five
  go_wp2_with fail
  refine (irenc_y hm _).mono ?_
  rintro e w2 ⟨rfl, hb⟩
  replace hl := bt hl hb
  replace hA := hA.later hb
  clear hb c0 c1 c2 c3 c4
  obtain ⟨⟨c0, c1, c2, c3, c4⟩, -, -⟩ := hA.five
  go_wp2_with fail
  refine (ans_f ha _ hd).mono ?_
  rintro e w3 ⟨rfl, hb⟩
  replace hl := bt (bt hl hb) (bel1 w3 (.cells #[.int .i64 0, .int .i64 0, .int .i64 0, .int .i64 0, .string ⟨#[]⟩] 23))
  replace hA := (hA.later hb).later (bel1 w3 (.cells #[.int .i64 0, .int .i64 0, .int .i64 0, .int .i64 0, .string ⟨#[]⟩] 23))
  have hX := At.box w3 #[.int .i64 0, .int .i64 0, .int .i64 0, .int .i64 0, .string ⟨#[]⟩] 23
  clear hb c0 c1 c2 c3 c4
  obtain ⟨⟨c0, c1, c2, c3, c4⟩, -, -⟩ := hA.five
  go_wp2_with fail
  refine (rans_f ha _ hd).mono ?_
  rintro e w4 ⟨rfl, hb⟩
  replace hl := bt (bt hl hb) (bel1 w4 (.cells #[.int .i64 0, .int .i64 0, .int .i64 0, .int .i64 0, .string ⟨#[]⟩] 23))
  replace hA := (hA.later hb).later (bel1 w4 (.cells #[.int .i64 0, .int .i64 0, .int .i64 0, .int .i64 0, .string ⟨#[]⟩] 23))
  replace hX := (hX.later hb).later (bel1 w4 (.cells #[.int .i64 0, .int .i64 0, .int .i64 0, .int .i64 0, .string ⟨#[]⟩] 23))
  have hY := At.box w4 #[.int .i64 0, .int .i64 0, .int .i64 0, .int .i64 0, .string ⟨#[]⟩] 23
  clear hb c0 c1 c2 c3 c4
  obtain ⟨⟨c0, c1, c2, c3, c4⟩, -, -⟩ := hA.five
  obtain ⟨⟨d0, d1, d2, d3, d4⟩, -, -⟩ := hX.five
  obtain ⟨⟨y0, y1, y2, y3, y4⟩, -, -⟩ := hY.five
  clear hX hY
  have hx5 : Below w.heap.size w (w4.alloc (.cells #[.int .i64 0, .int .i64 0, .int .i64 0, .int .i64 0, .string ⟨#[]⟩] 23)).drew ∧ ((w4.alloc (.cells #[.int .i64 0, .int .i64 0, .int .i64 0, .int .i64 0, .string ⟨#[]⟩] 23)).drew.cell? ⟨w.heap.size, 0, none⟩ = some (.int .i64 ty) ∧ (w4.alloc (.cells #[.int .i64 0, .int .i64 0, .int .i64 0, .int .i64 0, .string ⟨#[]⟩] 23)).drew.cell? ⟨w.heap.size, 1, none⟩ = some (.int .i64 co) ∧ (w4.alloc (.cells #[.int .i64 0, .int .i64 0, .int .i64 0, .int .i64 0, .string ⟨#[]⟩] 23)).drew.cell? ⟨w.heap.size, 2, none⟩ = some (.int .i64 x) ∧ (w4.alloc (.cells #[.int .i64 0, .int .i64 0, .int .i64 0, .int .i64 0, .string ⟨#[]⟩] 23)).drew.cell? ⟨w.heap.size, 3, none⟩ = some (.int .i64 y) ∧ (w4.alloc (.cells #[.int .i64 0, .int .i64 0, .int .i64 0, .int .i64 0, .string ⟨#[]⟩] 23)).drew.cell? ⟨w.heap.size, 4, none⟩ = some (.string da)) ∧ ((w4.alloc (.cells #[.int .i64 0, .int .i64 0, .int .i64 0, .int .i64 0, .string ⟨#[]⟩] 23)).drew.cell? ⟨w3.heap.size, 0, none⟩ = some (.int .i64 0) ∧ (w4.alloc (.cells #[.int .i64 0, .int .i64 0, .int .i64 0, .int .i64 0, .string ⟨#[]⟩] 23)).drew.cell? ⟨w3.heap.size, 1, none⟩ = some (.int .i64 0) ∧ (w4.alloc (.cells #[.int .i64 0, .int .i64 0, .int .i64 0, .int .i64 0, .string ⟨#[]⟩] 23)).drew.cell? ⟨w3.heap.size, 2, none⟩ = some (.int .i64 0) ∧ (w4.alloc (.cells #[.int .i64 0, .int .i64 0, .int .i64 0, .int .i64 0, .string ⟨#[]⟩] 23)).drew.cell? ⟨w3.heap.size, 3, none⟩ = some (.int .i64 0) ∧ (w4.alloc (.cells #[.int .i64 0, .int .i64 0, .int .i64 0, .int .i64 0, .string ⟨#[]⟩] 23)).drew.cell? ⟨w3.heap.size, 4, none⟩ = some (.string ⟨#[]⟩)) ∧ ((w4.alloc (.cells #[.int .i64 0, .int .i64 0, .int .i64 0, .int .i64 0, .string ⟨#[]⟩] 23)).drew.cell? ⟨w4.heap.size, 0, none⟩ = some (.int .i64 0) ∧ (w4.alloc (.cells #[.int .i64 0, .int .i64 0, .int .i64 0, .int .i64 0, .string ⟨#[]⟩] 23)).drew.cell? ⟨w4.heap.size, 1, none⟩ = some (.int .i64 0) ∧ (w4.alloc (.cells #[.int .i64 0, .int .i64 0, .int .i64 0, .int .i64 0, .string ⟨#[]⟩] 23)).drew.cell? ⟨w4.heap.size, 2, none⟩ = some (.int .i64 0) ∧ (w4.alloc (.cells #[.int .i64 0, .int .i64 0, .int .i64 0, .int .i64 0, .string ⟨#[]⟩] 23)).drew.cell? ⟨w4.heap.size, 3, none⟩ = some (.int .i64 0) ∧ (w4.alloc (.cells #[.int .i64 0, .int .i64 0, .int .i64 0, .int .i64 0, .string ⟨#[]⟩] 23)).drew.cell? ⟨w4.heap.size, 4, none⟩ = some (.string ⟨#[]⟩)) := ⟨hl.drew, ⟨c0, c1, c2, c3, c4⟩, ⟨d0, d1, d2, d3, d4⟩, ⟨y0, y1, y2, y3, y4⟩⟩
  have chk := fun W => ichk_t hm W hd
  have rchk := fun W => richk_t hm W hd
  go_wp2
  go_region_held3 (fun W => Below w.heap.size w W ∧ (W.cell? ⟨w.heap.size, 0, none⟩ = some (.int .i64 ty) ∧ W.cell? ⟨w.heap.size, 1, none⟩ = some (.int .i64 co) ∧ W.cell? ⟨w.heap.size, 2, none⟩ = some (.int .i64 x) ∧ W.cell? ⟨w.heap.size, 3, none⟩ = some (.int .i64 y) ∧ W.cell? ⟨w.heap.size, 4, none⟩ = some (.string da)) ∧ (W.cell? ⟨w3.heap.size, 0, none⟩ = some (.int .i64 0) ∧ W.cell? ⟨w3.heap.size, 1, none⟩ = some (.int .i64 0) ∧ W.cell? ⟨w3.heap.size, 2, none⟩ = some (.int .i64 0) ∧ W.cell? ⟨w3.heap.size, 3, none⟩ = some (.int .i64 0) ∧ W.cell? ⟨w3.heap.size, 4, none⟩ = some (.string ⟨#[]⟩)) ∧ (W.cell? ⟨w4.heap.size, 0, none⟩ = some (.int .i64 0) ∧ W.cell? ⟨w4.heap.size, 1, none⟩ = some (.int .i64 0) ∧ W.cell? ⟨w4.heap.size, 2, none⟩ = some (.int .i64 0) ∧ W.cell? ⟨w4.heap.size, 3, none⟩ = some (.int .i64 0) ∧ W.cell? ⟨w4.heap.size, 4, none⟩ = some (.string ⟨#[]⟩))) (first | exact hx5 | (refine keep15 hb ?_; assumption)) (first | (go_at_call 13; refine (chk _).mono ?_; rintro e w' ⟨rfl, hb⟩) | (go_at_call 14; refine (rchk _).mono ?_; rintro e w' ⟨rfl, hb⟩) | (go_at_call 15; refine (iworks_any _).mono ?_; rintro e w' ⟨rfl, hb⟩))
  all_goals
    rename_i hq
    go_wp2
    go_ret
    exact ⟨rfl, hq.1⟩

set_option maxRecDepth 100000 in
set_option maxHeartbeats 4000000 in
theorem walk_q {x y : Int} {da : ByteArray} (w : World) (hd : da.size ≤ 1125899906842624) (hm : mayI 8 0 x y da.size = true) :
    Calls Try.prog 3 #[.agg #[.int .i64 8, .int .i64 0, .int .i64 x, .int .i64 y, .string da]] w fun e w' => e = .returned (.bool true) ∧ Below w.heap.size w w' := by
  have hA := At.box w #[.int .i64 8, .int .i64 0, .int .i64 x, .int .i64 y, .string da] 23
  have hl := bel1 w (.cells #[.int .i64 8, .int .i64 0, .int .i64 x, .int .i64 y, .string da] 23)
  go_enter Try.func3, Try.ntmps3
  go_wp2_with fail
  refine (ienc_y hm _).mono ?_
  rintro e w1 ⟨rfl, hb⟩
  replace hl := bt hl hb
  replace hA := hA.later hb
  clear hb 
  obtain ⟨⟨c0, c1, c2, c3, c4⟩, -, -⟩ := hA.five
  go_wp2_with fail
  refine (irenc_y hm _).mono ?_
  rintro e w2 ⟨rfl, hb⟩
  replace hl := bt hl hb
  replace hA := hA.later hb
  clear hb c0 c1 c2 c3 c4
  obtain ⟨⟨c0, c1, c2, c3, c4⟩, -, -⟩ := hA.five
  go_wp2_with fail
  refine (ans_t hm _ hd).mono ?_
  rintro e w3 ⟨rfl, hb⟩
  replace hl := bt (bt hl hb) (bel1 w3 (.cells #[.int .i64 0, .int .i64 0, .int .i64 x, .int .i64 y, .string da] 23))
  replace hA := (hA.later hb).later (bel1 w3 (.cells #[.int .i64 0, .int .i64 0, .int .i64 x, .int .i64 y, .string da] 23))
  have hX := At.box w3 #[.int .i64 0, .int .i64 0, .int .i64 x, .int .i64 y, .string da] 23
  clear hb c0 c1 c2 c3 c4
  obtain ⟨⟨c0, c1, c2, c3, c4⟩, -, -⟩ := hA.five
  go_wp2_with fail
  refine (rans_t hm _ hd).mono ?_
  rintro e w4 ⟨rfl, hb⟩
  replace hl := bt (bt hl hb) (bel1 w4 (.cells #[.int .i64 0, .int .i64 0, .int .i64 x, .int .i64 y, .string da] 23))
  replace hA := (hA.later hb).later (bel1 w4 (.cells #[.int .i64 0, .int .i64 0, .int .i64 x, .int .i64 y, .string da] 23))
  replace hX := (hX.later hb).later (bel1 w4 (.cells #[.int .i64 0, .int .i64 0, .int .i64 x, .int .i64 y, .string da] 23))
  have hY := At.box w4 #[.int .i64 0, .int .i64 0, .int .i64 x, .int .i64 y, .string da] 23
  clear hb c0 c1 c2 c3 c4
  obtain ⟨⟨c0, c1, c2, c3, c4⟩, -, -⟩ := hA.five
  obtain ⟨⟨d0, d1, d2, d3, d4⟩, -, -⟩ := hX.five
  obtain ⟨⟨y0, y1, y2, y3, y4⟩, -, -⟩ := hY.five
  clear hX hY
  have hx5 : Below w.heap.size w (w4.alloc (.cells #[.int .i64 0, .int .i64 0, .int .i64 x, .int .i64 y, .string da] 23)).drew ∧ ((w4.alloc (.cells #[.int .i64 0, .int .i64 0, .int .i64 x, .int .i64 y, .string da] 23)).drew.cell? ⟨w.heap.size, 0, none⟩ = some (.int .i64 8) ∧ (w4.alloc (.cells #[.int .i64 0, .int .i64 0, .int .i64 x, .int .i64 y, .string da] 23)).drew.cell? ⟨w.heap.size, 1, none⟩ = some (.int .i64 0) ∧ (w4.alloc (.cells #[.int .i64 0, .int .i64 0, .int .i64 x, .int .i64 y, .string da] 23)).drew.cell? ⟨w.heap.size, 2, none⟩ = some (.int .i64 x) ∧ (w4.alloc (.cells #[.int .i64 0, .int .i64 0, .int .i64 x, .int .i64 y, .string da] 23)).drew.cell? ⟨w.heap.size, 3, none⟩ = some (.int .i64 y) ∧ (w4.alloc (.cells #[.int .i64 0, .int .i64 0, .int .i64 x, .int .i64 y, .string da] 23)).drew.cell? ⟨w.heap.size, 4, none⟩ = some (.string da)) ∧ ((w4.alloc (.cells #[.int .i64 0, .int .i64 0, .int .i64 x, .int .i64 y, .string da] 23)).drew.cell? ⟨w3.heap.size, 0, none⟩ = some (.int .i64 0) ∧ (w4.alloc (.cells #[.int .i64 0, .int .i64 0, .int .i64 x, .int .i64 y, .string da] 23)).drew.cell? ⟨w3.heap.size, 1, none⟩ = some (.int .i64 0) ∧ (w4.alloc (.cells #[.int .i64 0, .int .i64 0, .int .i64 x, .int .i64 y, .string da] 23)).drew.cell? ⟨w3.heap.size, 2, none⟩ = some (.int .i64 x) ∧ (w4.alloc (.cells #[.int .i64 0, .int .i64 0, .int .i64 x, .int .i64 y, .string da] 23)).drew.cell? ⟨w3.heap.size, 3, none⟩ = some (.int .i64 y) ∧ (w4.alloc (.cells #[.int .i64 0, .int .i64 0, .int .i64 x, .int .i64 y, .string da] 23)).drew.cell? ⟨w3.heap.size, 4, none⟩ = some (.string da)) ∧ ((w4.alloc (.cells #[.int .i64 0, .int .i64 0, .int .i64 x, .int .i64 y, .string da] 23)).drew.cell? ⟨w4.heap.size, 0, none⟩ = some (.int .i64 0) ∧ (w4.alloc (.cells #[.int .i64 0, .int .i64 0, .int .i64 x, .int .i64 y, .string da] 23)).drew.cell? ⟨w4.heap.size, 1, none⟩ = some (.int .i64 0) ∧ (w4.alloc (.cells #[.int .i64 0, .int .i64 0, .int .i64 x, .int .i64 y, .string da] 23)).drew.cell? ⟨w4.heap.size, 2, none⟩ = some (.int .i64 x) ∧ (w4.alloc (.cells #[.int .i64 0, .int .i64 0, .int .i64 x, .int .i64 y, .string da] 23)).drew.cell? ⟨w4.heap.size, 3, none⟩ = some (.int .i64 y) ∧ (w4.alloc (.cells #[.int .i64 0, .int .i64 0, .int .i64 x, .int .i64 y, .string da] 23)).drew.cell? ⟨w4.heap.size, 4, none⟩ = some (.string da)) := ⟨hl.drew, ⟨c0, c1, c2, c3, c4⟩, ⟨d0, d1, d2, d3, d4⟩, ⟨y0, y1, y2, y3, y4⟩⟩
  have chk := fun W => ichk_t hm W hd
  have rchk := fun W => richk_t hm W hd
  go_wp2
  go_region_held3 (fun W => Below w.heap.size w W ∧ (W.cell? ⟨w.heap.size, 0, none⟩ = some (.int .i64 8) ∧ W.cell? ⟨w.heap.size, 1, none⟩ = some (.int .i64 0) ∧ W.cell? ⟨w.heap.size, 2, none⟩ = some (.int .i64 x) ∧ W.cell? ⟨w.heap.size, 3, none⟩ = some (.int .i64 y) ∧ W.cell? ⟨w.heap.size, 4, none⟩ = some (.string da)) ∧ (W.cell? ⟨w3.heap.size, 0, none⟩ = some (.int .i64 0) ∧ W.cell? ⟨w3.heap.size, 1, none⟩ = some (.int .i64 0) ∧ W.cell? ⟨w3.heap.size, 2, none⟩ = some (.int .i64 x) ∧ W.cell? ⟨w3.heap.size, 3, none⟩ = some (.int .i64 y) ∧ W.cell? ⟨w3.heap.size, 4, none⟩ = some (.string da)) ∧ (W.cell? ⟨w4.heap.size, 0, none⟩ = some (.int .i64 0) ∧ W.cell? ⟨w4.heap.size, 1, none⟩ = some (.int .i64 0) ∧ W.cell? ⟨w4.heap.size, 2, none⟩ = some (.int .i64 x) ∧ W.cell? ⟨w4.heap.size, 3, none⟩ = some (.int .i64 y) ∧ W.cell? ⟨w4.heap.size, 4, none⟩ = some (.string da))) (first | exact hx5 | (refine keep15 hb ?_; assumption)) (first | (go_at_call 13; refine (chk _).mono ?_; rintro e w' ⟨rfl, hb⟩) | (go_at_call 14; refine (rchk _).mono ?_; rintro e w' ⟨rfl, hb⟩) | (go_at_call 15; refine (iworks_any _).mono ?_; rintro e w' ⟨rfl, hb⟩))
  all_goals
    rename_i hq
    go_wp2
    go_ret
    exact ⟨rfl, hq.1⟩

theorem walk (ty : Int) (_ : (Lit.int .i64 ty).wf = true) (co : Int) (_ : (Lit.int .i64 co).wf = true) (x : Int) (_ : (Lit.int .i64 x).wf = true) (y : Int) (_ : (Lit.int .i64 y).wf = true) (da : ByteArray) (_ : da.size ≤ maxLen) (hd0 : da.size ≤ 140737488351232) (w : World) :
    Calls Try.prog 3 #[.agg #[.int .i64 ty, .int .i64 co, .int .i64 x, .int .i64 y, .string da]] w fun e w' => e = .returned (.bool true) ∧ Below w.heap.size w w' := by
  have hd : da.size ≤ 1125899906842624 := by omega
  rcases ask_ways ty co x y da.size with ⟨ha, rfl, rfl, hm⟩ | ⟨ha, hm⟩ | ⟨ha, hm, -⟩ | ⟨ha, hm, -, -⟩
  · exact walk_q w hd hm
  · exact walk_n w hd hm ha
  · exact walk_m w hd hm ha
  · exact walk_m w hd hm ha

set_option maxRecDepth 100000 in
theorem lifted (os : Os) (started : os.Started) (H : Type) (enc : TypeId × Value → H) :
    ReturnsInHanded {} Try.checked os 3 .any (Rows.icmpWritesSpec.pre6 enc Try.prog Try.f3 Rows.icmpWritesRow.domain false) (Rows.icmpWritesSpec.post enc Try.prog Try.f3 false true false false) := by
  refine returnsInHanded_of_change_sized (C := Try.checked) own started (by kernel_rfl) Try.func3
    (ChangeSpec.witness6 (enc := enc) (C := Try.checked) false ⟨#[], #[.agg #[.int .i64 0, .int .i64 0, .int .i64 0, .int .i64 0, .string ByteArray.empty]], []⟩ 8 (by kernel_rfl) (by kernel_rfl) (by kernel_rfl) (by kernel_rfl)) ?_
  intro W base args ds gs before hval0 hW hcnd hsz0 _
  have hsz : (DataW.weightsEach Try.prog (Try.f3.params.toList ++ Rows.icmpWritesSpec.plain.varTypes Try.prog) (ds ++ gs)).all (· ≤ reachBytes) = true := hsz0
  have hval : ∀ (j : Nat) t v, Try.f3.params[j]? = some t → args[j]? = some v → Value.okWide Try.prog W .any base t v := hval0
  have hW' := hW
  obtain ⟨p, q, hA0, hV, rfl, hfz, hnd⟩ := hW
  have hA : DataW.TrodAll enc Try.prog W 0 (fun _ => true) true Try.f3.params.toList args.toList ds p := hA0
  rw [Try.params3] at hA hval hsz
  obtain ⟨v0, vs0, d0, ds0, p0, q0, hargs, rfl, rfl, h0, r0⟩ := trodAll_cons hA
  obtain ⟨rfl, rfl, rfl⟩ := trodAll_nil r0
  obtain rfl : args = #[v0] := by cases args; simp_all
  obtain ⟨rfl, rfl⟩ := trodVars_none hV
  have k0 := h0
  have lt0 : ∀ x ∈ p0, x.block < W.heap.size := by obtain ⟨m, hm⟩ := k0; exact DataW.trod_lt m _ _ _ hm
  obtain ⟨f0_0, f0_1, f0_2, f0_3, f0_4, parts0, rfl, hdp0, e0_0, e0_1, e0_2, e0_3, e0_4, m0_4⟩ := open23 (hval 0 23 v0 rfl rfl) h0
  have z0_4 : f0_4.size ≤ 140737488351232 := by
    have := sized_field hsz (j := 0) (i := 4) (t := 23) rfl (by rw [hdp0]; rfl) Try.underlying23 rfl m0_4
    simp only [reachBytes] at this
    simpa using this
  clear hA0 hval0
  refine (walk f0_0 e0_0 f0_1 e0_1 f0_2 e0_2 f0_3 e0_3 f0_4 e0_4 z0_4 W ).mono fun e W' ⟨he, bel⟩ => ?_
  subst he
  exact ⟨_, rfl, _, _, _, [], _, [], hW', trodAll_mk1 (shut_bool Try.underlying4 _), (trodAll_cons_mk (Below.trod laidOut (by kernel_rfl) (of_decide_eq_true (by kernel_rfl)) k0 bel lt0) trodAll_mk0), rfl, bel.frame _, fun h => by cases h⟩

theorem over : Rows.icmpWritesRow.holds Try.pinned (OpenSpec.ofChange Rows.icmpWritesSpec) :=
  OpenClaim.holds_of_wide 3 Try.f3 rfl rfl rfl rfl rfl rfl rfl ⟨rfl, rfl, rfl, rfl, rfl⟩ rfl rfl rfl rfl rfl (by kernel_rfl) Try.func3 (by kernel_rfl)
    (of_decide_eq_true (by kernel_rfl)) (by unfold Func.isWrapper; first | (rw [if_pos (by decide +kernel)]; kernel_rfl) | (rw [if_neg (by decide +kernel)]; exact ⟨rfl, rfl⟩))
    (fun os started H enc _ => lifted os started H enc)

end Go.Proofs.Ytbbeepkcejiafaa.icmpWrites
namespace Go.Proofs.Ytbbeepkcejiafaa
theorem icmpWrites_holds : Rows.IcmpWritesSaid := icmpWrites.over
end Go.Proofs.Ytbbeepkcejiafaa
