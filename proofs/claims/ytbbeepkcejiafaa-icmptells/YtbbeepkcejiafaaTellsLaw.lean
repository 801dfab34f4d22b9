/- Proved: what is told about any packet, and about which it may be told, is as the document has it; no condition. -/
import Derived.Test.YtbbeepkcejiafaaRows
import Derived.Test.YtbbeepkcejiafaaIca
import Derived.Test.YtbbeepkcejiafaaIce
import Derived.WalkKit
import Derived.ProofKit
import Derived.OpenShut
import Derived.ShutString
import Derived.ChangeOld
import Derived.Below
import Derived.Carry
import Derived.SizedLaws
import Derived.Deep.Fields
namespace Go.Proofs.Ytbbeepkcejiafaa.icmpTells
open Go.ChangeShapes Go.WideShapes Go.ChangeAt Go.RowKit
open Go.ChangeMaps (open_string)
set_option linter.unusedVariables false

theorem own : ownKnob Try.prog.godebug = none := by kernel_rfl
theorem laidOut : laidOutB Try.prog = true := by kernel_rfl

theorem open_fields {H : Type} {enc : TypeId × Value → H} {P : Program} {w : World} {base : Nat} {spare : Nat → Bool} {held : Bool} {r : Reach} {b0 : Nat} {t : TypeId} {fs : Array Field} {v : Value} {d : DataW H} {p : List MemPlace} (hs : P.underlying t = some (.struct fs)) (hone : Go.Deep.oneCellFields P fs = true) (hC : P.cellsOf t = fs.size)
    (hv : Value.okWide P w r b0 t v) (h : DataW.Trod enc P w base spare held t v d p) :
    ∃ (cs : Array Value) (parts : List (DataW H)), v = .agg cs ∧ d = .agg parts ∧ cs.size = fs.size ∧ ∀ (i : Nat) (f : Field), fs[i]? = some f → ∃ n x, DataW.trod enc P w base spare held n f.type ((cs.toList.drop i).take 1) = some x ∧ parts[i]? = some x.1 := by
  obtain ⟨cs, rfl, hsz⟩ := okWide_struct hs hv
  obtain ⟨fuel, hf⟩ := h
  obtain ⟨xs, n, _, hx, hl, hlen, hfs⟩ := DataW.trod_struct hs hf
  have hd : d = .agg (xs.map (·.1)) := congrArg Prod.fst hx
  refine ⟨cs, xs.map (·.1), rfl, hd, hsz.trans hC, fun i f hi => ?_⟩
  obtain ⟨o1, k1⟩ := Go.Deep.hone_of hone i f hi
  have := hfs i f hi
  have hlt : i < xs.length := by rw [hlen]; exact (Array.getElem?_eq_some_iff.1 hi).1
  rw [o1, k1, List.getElem?_eq_getElem hlt] at this
  exact ⟨n, _, by simpa [Value.cells] using this, by simp [List.getElem?_eq_getElem hlt]⟩
theorem sized_field {H : Type} {P : Program} {ts : List TypeId} {ds : List (DataW H)} (h : (DataW.weightsEach P ts ds).all (· ≤ reachBytes) = true) {j i : Nat} {t ft : TypeId} {fs : Array Field} {parts : List (DataW H)} {bytes : List UInt8} (ht : ts[j]? = some t) (hd : ds[j]? = some (.agg parts)) (hu : P.underlying t = some (.struct fs)) (hf : (fs.toList.map (·.type))[i]? = some ft) (hp : parts[i]? = some (.lit (.string bytes))) : bytes.length ≤ reachBytes := by
  have := List.all_eq_true.1 h _ (DataW.weights_mem_each ht hd bytes.length (by simp only [DataW.weights, hu]; exact DataW.weights_mem_each hf hp _ (by simp [DataW.weights])))
  simpa using this

theorem cells35 : Try.prog.cellsOf 35 = 10 := by kernel_rfl
theorem open35 {H : Type} {enc : TypeId × Value → H} {w : World} {base : Nat} {spare : Nat → Bool} {held : Bool} {r : Reach} {b0 : Nat} {v : Value} {d : DataW H} {p : List MemPlace} (hv : Value.okWide Try.prog w r b0 35 v) (h : DataW.Trod enc Try.prog w base spare held 35 v d p) :
    ∃ (f0 : Int) (f1 : Int) (f2 : Int) (f3 : Int) (f4 : Int) (f5 : Int) (f6 : Bool) (f7 : Bool) (f8 : ByteArray) (f9 : ByteArray) (parts : List (DataW H)), v = .agg #[.int .i64 f0, .int .i64 f1, .int .i64 f2, .int .i64 f3, .int .i64 f4, .int .i64 f5, .bool f6, .bool f7, .string f8, .string f9] ∧ d = .agg parts ∧ (Lit.int .i64 f0).wf = true ∧ (Lit.int .i64 f1).wf = true ∧ (Lit.int .i64 f2).wf = true ∧ (Lit.int .i64 f3).wf = true ∧ (Lit.int .i64 f4).wf = true ∧ (Lit.int .i64 f5).wf = true ∧ f8.size ≤ maxLen ∧ f9.size ≤ maxLen ∧ parts[8]? = some (.lit (.string f8.data.toList)) ∧ parts[9]? = some (.lit (.string f9.data.toList)) := by
  obtain ⟨⟨l⟩, parts, rfl, hdp, hz, hf⟩ := open_fields Try.underlying35 (by kernel_rfl) cells35 hv h
  have hz' : l.length = 10 := by simpa using hz
  match l, hz' with
  | [c0, c1, c2, c3, c4, c5, c6, c7, c8, c9], _ =>
    obtain ⟨n0, x0, t0, m0⟩ := hf 0 _ rfl
    obtain ⟨f0, q0, -, e0⟩ := DataW.trod_int Try.underlying3 t0
    have p0 : c0 = .int .i64 f0 := by simpa using q0
    obtain ⟨n1, x1, t1, m1⟩ := hf 1 _ rfl
    obtain ⟨f1, q1, -, e1⟩ := DataW.trod_int Try.underlying3 t1
    have p1 : c1 = .int .i64 f1 := by simpa using q1
    obtain ⟨n2, x2, t2, m2⟩ := hf 2 _ rfl
    obtain ⟨f2, q2, -, e2⟩ := DataW.trod_int Try.underlying3 t2
    have p2 : c2 = .int .i64 f2 := by simpa using q2
    obtain ⟨n3, x3, t3, m3⟩ := hf 3 _ rfl
    obtain ⟨f3, q3, -, e3⟩ := DataW.trod_int Try.underlying3 t3
    have p3 : c3 = .int .i64 f3 := by simpa using q3
    obtain ⟨n4, x4, t4, m4⟩ := hf 4 _ rfl
    obtain ⟨f4, q4, -, e4⟩ := DataW.trod_int Try.underlying3 t4
    have p4 : c4 = .int .i64 f4 := by simpa using q4
    obtain ⟨n5, x5, t5, m5⟩ := hf 5 _ rfl
    obtain ⟨f5, q5, -, e5⟩ := DataW.trod_int Try.underlying3 t5
    have p5 : c5 = .int .i64 f5 := by simpa using q5
    obtain ⟨n6, x6, t6, m6⟩ := hf 6 _ rfl
    obtain ⟨f6, q6, -⟩ := DataW.trod_bool Try.underlying4 t6
    have p6 : c6 = .bool f6 := by simpa using q6
    obtain ⟨n7, x7, t7, m7⟩ := hf 7 _ rfl
    obtain ⟨f7, q7, -⟩ := DataW.trod_bool Try.underlying4 t7
    have p7 : c7 = .bool f7 := by simpa using q7
    obtain ⟨n8, x8, t8, m8⟩ := hf 8 _ rfl
    obtain ⟨f8, q8, y8, e8⟩ := DataW.trod_string Try.underlying9 t8
    rw [y8] at m8
    have p8 : c8 = .string f8 := by simpa using q8
    obtain ⟨n9, x9, t9, m9⟩ := hf 9 _ rfl
    obtain ⟨f9, q9, y9, e9⟩ := DataW.trod_string Try.underlying9 t9
    rw [y9] at m9
    have p9 : c9 = .string f9 := by simpa using q9
    subst p0 p1 p2 p3 p4 p5 p6 p7 p8 p9
    exact ⟨f0, f1, f2, f3, f4, f5, f6, f7, f8, f9, parts, rfl, hdp, e0, e1, e2, e3, e4, e5, e8, e9, m8, m9⟩

-- WALK
theorem keep20 {w W x : World} {a0 a1 a2 a3 a4 a5 a6 a7 a8 a9 a10 a11 a12 a13 a14 a15 a16 a17 a18 a19 : Addr} {v0 v1 v2 v3 v4 v5 v6 v7 v8 v9 v10 v11 v12 v13 v14 v15 v16 v17 v18 v19 : Value} (hb : Below W.heap.size W x) (h : Below w.heap.size w W ∧ (W.cell? a0 = some v0 ∧ W.cell? a1 = some v1 ∧ W.cell? a2 = some v2 ∧ W.cell? a3 = some v3 ∧ W.cell? a4 = some v4 ∧ W.cell? a5 = some v5 ∧ W.cell? a6 = some v6 ∧ W.cell? a7 = some v7 ∧ W.cell? a8 = some v8 ∧ W.cell? a9 = some v9) ∧ (W.cell? a10 = some v10 ∧ W.cell? a11 = some v11 ∧ W.cell? a12 = some v12 ∧ W.cell? a13 = some v13 ∧ W.cell? a14 = some v14) ∧ (W.cell? a15 = some v15 ∧ W.cell? a16 = some v16 ∧ W.cell? a17 = some v17 ∧ W.cell? a18 = some v18 ∧ W.cell? a19 = some v19)) :
    Below w.heap.size w x ∧ (x.cell? a0 = some v0 ∧ x.cell? a1 = some v1 ∧ x.cell? a2 = some v2 ∧ x.cell? a3 = some v3 ∧ x.cell? a4 = some v4 ∧ x.cell? a5 = some v5 ∧ x.cell? a6 = some v6 ∧ x.cell? a7 = some v7 ∧ x.cell? a8 = some v8 ∧ x.cell? a9 = some v9) ∧ (x.cell? a10 = some v10 ∧ x.cell? a11 = some v11 ∧ x.cell? a12 = some v12 ∧ x.cell? a13 = some v13 ∧ x.cell? a14 = some v14) ∧ (x.cell? a15 = some v15 ∧ x.cell? a16 = some v16 ∧ x.cell? a17 = some v17 ∧ x.cell? a18 = some v18 ∧ x.cell? a19 = some v19) :=
  ⟨bt h.1 hb, ⟨later hb h.2.1.1, later hb h.2.1.2.1, later hb h.2.1.2.2.1, later hb h.2.1.2.2.2.1, later hb h.2.1.2.2.2.2.1, later hb h.2.1.2.2.2.2.2.1, later hb h.2.1.2.2.2.2.2.2.1, later hb h.2.1.2.2.2.2.2.2.2.1, later hb h.2.1.2.2.2.2.2.2.2.2.1, later hb h.2.1.2.2.2.2.2.2.2.2.2⟩, ⟨later hb h.2.2.1.1, later hb h.2.2.1.2.1, later hb h.2.2.1.2.2.1, later hb h.2.2.1.2.2.2.1, later hb h.2.2.1.2.2.2.2⟩, ⟨later hb h.2.2.2.1, later hb h.2.2.2.2.1, later hb h.2.2.2.2.2.1, later hb h.2.2.2.2.2.2.1, later hb h.2.2.2.2.2.2.2⟩⟩

set_option maxRecDepth 100000 in
set_option maxHeartbeats 4000000 in
theorem walk_r {k c : Int} {f t tl pr id fr : Int} {mo dn : Bool} {op da : ByteArray} (w : World) (ho : op.size ≤ 1125899906842624) (hd : da.size ≤ 1125899906842624) (hk : kindB k c = false) :
    Calls Try.prog 5 #[.agg #[.int .i64 f, .int .i64 t, .int .i64 tl, .int .i64 pr, .int .i64 id, .int .i64 fr, .bool mo, .bool dn, .string op, .string da], .int .i64 k, .int .i64 c] w fun e w' => e = .returned (.bool true) ∧ Below w.heap.size w w' := by
  have hA := At.box w #[.int .i64 f, .int .i64 t, .int .i64 tl, .int .i64 pr, .int .i64 id, .int .i64 fr, .bool mo, .bool dn, .string op, .string da] 35
  have hl := bel1 w (.cells #[.int .i64 f, .int .i64 t, .int .i64 tl, .int .i64 pr, .int .i64 id, .int .i64 fr, .bool mo, .bool dn, .string op, .string da] 35)
  have ht := fun W => tell_any f t tl pr id fr mo dn op da W ho hd
  have hr := fun W => rtell_any f t tl pr id fr mo dn op da W ho hd
  generalize tellB f t pr fr da (mayP f t tl pr id fr mo op.size da.size) = B at ht hr
  go_enter Try.func5, Try.ntmps5
  go_wp2_with fail
  refine (abo_r f t tl pr id fr mo dn op da hk _).mono ?_
  rintro e w3 ⟨rfl, hb⟩
  replace hl := bt (bt hl hb) (bel1 w3 (.cells #[.int .i64 0, .int .i64 0, .int .i64 0, .int .i64 0, .string ⟨#[]⟩] 23))
  replace hA := (hA.later hb).later (bel1 w3 (.cells #[.int .i64 0, .int .i64 0, .int .i64 0, .int .i64 0, .string ⟨#[]⟩] 23))
  have hX := At.box w3 #[.int .i64 0, .int .i64 0, .int .i64 0, .int .i64 0, .string ⟨#[]⟩] 23
  clear hb
  obtain ⟨⟨c0, c1, c2, c3, c4, c5, c6, c7, c8, c9⟩, -, -⟩ := hA.ten
  go_wp2_with fail
  refine (rabo_r f t tl pr id fr mo dn op da hk _).mono ?_
  rintro e w4 ⟨rfl, hb⟩
  replace hl := bt (bt hl hb) (bel1 w4 (.cells #[.int .i64 0, .int .i64 0, .int .i64 0, .int .i64 0, .string ⟨#[]⟩] 23))
  replace hA := (hA.later hb).later (bel1 w4 (.cells #[.int .i64 0, .int .i64 0, .int .i64 0, .int .i64 0, .string ⟨#[]⟩] 23))
  replace hX := (hX.later hb).later (bel1 w4 (.cells #[.int .i64 0, .int .i64 0, .int .i64 0, .int .i64 0, .string ⟨#[]⟩] 23))
  have hY := At.box w4 #[.int .i64 0, .int .i64 0, .int .i64 0, .int .i64 0, .string ⟨#[]⟩] 23
  clear hb c0 c1 c2 c3 c4 c5 c6 c7 c8 c9
  obtain ⟨⟨c0, c1, c2, c3, c4, c5, c6, c7, c8, c9⟩, -, -⟩ := hA.ten
  obtain ⟨⟨d0, d1, d2, d3, d4⟩, -, -⟩ := hX.five
  obtain ⟨⟨y0, y1, y2, y3, y4⟩, -, -⟩ := hY.five
  clear hX hY
  have hx5 : Below w.heap.size w (w4.alloc (.cells #[.int .i64 0, .int .i64 0, .int .i64 0, .int .i64 0, .string ⟨#[]⟩] 23)).drew ∧ ((w4.alloc (.cells #[.int .i64 0, .int .i64 0, .int .i64 0, .int .i64 0, .string ⟨#[]⟩] 23)).drew.cell? ⟨w.heap.size, 0, none⟩ = some (.int .i64 f) ∧ (w4.alloc (.cells #[.int .i64 0, .int .i64 0, .int .i64 0, .int .i64 0, .string ⟨#[]⟩] 23)).drew.cell? ⟨w.heap.size, 1, none⟩ = some (.int .i64 t) ∧ (w4.alloc (.cells #[.int .i64 0, .int .i64 0, .int .i64 0, .int .i64 0, .string ⟨#[]⟩] 23)).drew.cell? ⟨w.heap.size, 2, none⟩ = some (.int .i64 tl) ∧ (w4.alloc (.cells #[.int .i64 0, .int .i64 0, .int .i64 0, .int .i64 0, .string ⟨#[]⟩] 23)).drew.cell? ⟨w.heap.size, 3, none⟩ = some (.int .i64 pr) ∧ (w4.alloc (.cells #[.int .i64 0, .int .i64 0, .int .i64 0, .int .i64 0, .string ⟨#[]⟩] 23)).drew.cell? ⟨w.heap.size, 4, none⟩ = some (.int .i64 id) ∧ (w4.alloc (.cells #[.int .i64 0, .int .i64 0, .int .i64 0, .int .i64 0, .string ⟨#[]⟩] 23)).drew.cell? ⟨w.heap.size, 5, none⟩ = some (.int .i64 fr) ∧ (w4.alloc (.cells #[.int .i64 0, .int .i64 0, .int .i64 0, .int .i64 0, .string ⟨#[]⟩] 23)).drew.cell? ⟨w.heap.size, 6, none⟩ = some (.bool mo) ∧ (w4.alloc (.cells #[.int .i64 0, .int .i64 0, .int .i64 0, .int .i64 0, .string ⟨#[]⟩] 23)).drew.cell? ⟨w.heap.size, 7, none⟩ = some (.bool dn) ∧ (w4.alloc (.cells #[.int .i64 0, .int .i64 0, .int .i64 0, .int .i64 0, .string ⟨#[]⟩] 23)).drew.cell? ⟨w.heap.size, 8, none⟩ = some (.string op) ∧ (w4.alloc (.cells #[.int .i64 0, .int .i64 0, .int .i64 0, .int .i64 0, .string ⟨#[]⟩] 23)).drew.cell? ⟨w.heap.size, 9, none⟩ = some (.string da)) ∧ ((w4.alloc (.cells #[.int .i64 0, .int .i64 0, .int .i64 0, .int .i64 0, .string ⟨#[]⟩] 23)).drew.cell? ⟨w3.heap.size, 0, none⟩ = some (.int .i64 0) ∧ (w4.alloc (.cells #[.int .i64 0, .int .i64 0, .int .i64 0, .int .i64 0, .string ⟨#[]⟩] 23)).drew.cell? ⟨w3.heap.size, 1, none⟩ = some (.int .i64 0) ∧ (w4.alloc (.cells #[.int .i64 0, .int .i64 0, .int .i64 0, .int .i64 0, .string ⟨#[]⟩] 23)).drew.cell? ⟨w3.heap.size, 2, none⟩ = some (.int .i64 0) ∧ (w4.alloc (.cells #[.int .i64 0, .int .i64 0, .int .i64 0, .int .i64 0, .string ⟨#[]⟩] 23)).drew.cell? ⟨w3.heap.size, 3, none⟩ = some (.int .i64 0) ∧ (w4.alloc (.cells #[.int .i64 0, .int .i64 0, .int .i64 0, .int .i64 0, .string ⟨#[]⟩] 23)).drew.cell? ⟨w3.heap.size, 4, none⟩ = some (.string ⟨#[]⟩)) ∧ ((w4.alloc (.cells #[.int .i64 0, .int .i64 0, .int .i64 0, .int .i64 0, .string ⟨#[]⟩] 23)).drew.cell? ⟨w4.heap.size, 0, none⟩ = some (.int .i64 0) ∧ (w4.alloc (.cells #[.int .i64 0, .int .i64 0, .int .i64 0, .int .i64 0, .string ⟨#[]⟩] 23)).drew.cell? ⟨w4.heap.size, 1, none⟩ = some (.int .i64 0) ∧ (w4.alloc (.cells #[.int .i64 0, .int .i64 0, .int .i64 0, .int .i64 0, .string ⟨#[]⟩] 23)).drew.cell? ⟨w4.heap.size, 2, none⟩ = some (.int .i64 0) ∧ (w4.alloc (.cells #[.int .i64 0, .int .i64 0, .int .i64 0, .int .i64 0, .string ⟨#[]⟩] 23)).drew.cell? ⟨w4.heap.size, 3, none⟩ = some (.int .i64 0) ∧ (w4.alloc (.cells #[.int .i64 0, .int .i64 0, .int .i64 0, .int .i64 0, .string ⟨#[]⟩] 23)).drew.cell? ⟨w4.heap.size, 4, none⟩ = some (.string ⟨#[]⟩)) := ⟨hl.drew, ⟨c0, c1, c2, c3, c4, c5, c6, c7, c8, c9⟩, ⟨d0, d1, d2, d3, d4⟩, ⟨y0, y1, y2, y3, y4⟩⟩
  go_wp2
  go_region_held3 (fun W => Below w.heap.size w W ∧ (W.cell? ⟨w.heap.size, 0, none⟩ = some (.int .i64 f) ∧ W.cell? ⟨w.heap.size, 1, none⟩ = some (.int .i64 t) ∧ W.cell? ⟨w.heap.size, 2, none⟩ = some (.int .i64 tl) ∧ W.cell? ⟨w.heap.size, 3, none⟩ = some (.int .i64 pr) ∧ W.cell? ⟨w.heap.size, 4, none⟩ = some (.int .i64 id) ∧ W.cell? ⟨w.heap.size, 5, none⟩ = some (.int .i64 fr) ∧ W.cell? ⟨w.heap.size, 6, none⟩ = some (.bool mo) ∧ W.cell? ⟨w.heap.size, 7, none⟩ = some (.bool dn) ∧ W.cell? ⟨w.heap.size, 8, none⟩ = some (.string op) ∧ W.cell? ⟨w.heap.size, 9, none⟩ = some (.string da)) ∧ (W.cell? ⟨w3.heap.size, 0, none⟩ = some (.int .i64 0) ∧ W.cell? ⟨w3.heap.size, 1, none⟩ = some (.int .i64 0) ∧ W.cell? ⟨w3.heap.size, 2, none⟩ = some (.int .i64 0) ∧ W.cell? ⟨w3.heap.size, 3, none⟩ = some (.int .i64 0) ∧ W.cell? ⟨w3.heap.size, 4, none⟩ = some (.string ⟨#[]⟩)) ∧ (W.cell? ⟨w4.heap.size, 0, none⟩ = some (.int .i64 0) ∧ W.cell? ⟨w4.heap.size, 1, none⟩ = some (.int .i64 0) ∧ W.cell? ⟨w4.heap.size, 2, none⟩ = some (.int .i64 0) ∧ W.cell? ⟨w4.heap.size, 3, none⟩ = some (.int .i64 0) ∧ W.cell? ⟨w4.heap.size, 4, none⟩ = some (.string ⟨#[]⟩))) (first | exact hx5 | (refine keep20 hb ?_; assumption)) (first | (go_at_call 20; refine (ht _).mono ?_; rintro e w' ⟨rfl, hb⟩) | (go_at_call 21; refine (hr _).mono ?_; rintro e w' ⟨rfl, hb⟩) | (go_at_call 15; refine (iworks_any _).mono ?_; rintro e w' ⟨rfl, hb⟩))
  all_goals
    rename_i hq
    go_wp2
    go_ret
    exact ⟨rfl, hq.1⟩

set_option maxRecDepth 100000 in
set_option maxHeartbeats 4000000 in
theorem walk_n {k c : Int} {f t tl pr id fr : Int} {mo dn : Bool} {op da : ByteArray} (w : World) (ho : op.size ≤ 1125899906842624) (hd : da.size ≤ 1125899906842624) (hk : kindB k c = true) (hm : mayP f t tl pr id fr mo op.size da.size = false) :
    Calls Try.prog 5 #[.agg #[.int .i64 f, .int .i64 t, .int .i64 tl, .int .i64 pr, .int .i64 id, .int .i64 fr, .bool mo, .bool dn, .string op, .string da], .int .i64 k, .int .i64 c] w fun e w' => e = .returned (.bool true) ∧ Below w.heap.size w w' := by
  have hA := At.box w #[.int .i64 f, .int .i64 t, .int .i64 tl, .int .i64 pr, .int .i64 id, .int .i64 fr, .bool mo, .bool dn, .string op, .string da] 35
  have hl := bel1 w (.cells #[.int .i64 f, .int .i64 t, .int .i64 tl, .int .i64 pr, .int .i64 id, .int .i64 fr, .bool mo, .bool dn, .string op, .string da] 35)
  have ht := fun W => tell_any f t tl pr id fr mo dn op da W ho hd
  have hr := fun W => rtell_any f t tl pr id fr mo dn op da W ho hd
  generalize tellB f t pr fr da (mayP f t tl pr id fr mo op.size da.size) = B at ht hr
  go_enter Try.func5, Try.ntmps5
  go_wp2_with fail
  refine (abo_n hk hm ho hd _).mono ?_
  rintro e w3 ⟨rfl, hb⟩
  replace hl := bt (bt hl hb) (bel1 w3 (.cells #[.int .i64 0, .int .i64 0, .int .i64 0, .int .i64 0, .string ⟨#[]⟩] 23))
  replace hA := (hA.later hb).later (bel1 w3 (.cells #[.int .i64 0, .int .i64 0, .int .i64 0, .int .i64 0, .string ⟨#[]⟩] 23))
  have hX := At.box w3 #[.int .i64 0, .int .i64 0, .int .i64 0, .int .i64 0, .string ⟨#[]⟩] 23
  clear hb
  obtain ⟨⟨c0, c1, c2, c3, c4, c5, c6, c7, c8, c9⟩, -, -⟩ := hA.ten
  go_wp2_with fail
  refine (rabo_n hk hm ho hd _).mono ?_
  rintro e w4 ⟨rfl, hb⟩
  replace hl := bt (bt hl hb) (bel1 w4 (.cells #[.int .i64 0, .int .i64 0, .int .i64 0, .int .i64 0, .string ⟨#[]⟩] 23))
  replace hA := (hA.later hb).later (bel1 w4 (.cells #[.int .i64 0, .int .i64 0, .int .i64 0, .int .i64 0, .string ⟨#[]⟩] 23))
  replace hX := (hX.later hb).later (bel1 w4 (.cells #[.int .i64 0, .int .i64 0, .int .i64 0, .int .i64 0, .string ⟨#[]⟩] 23))
  have hY := At.box w4 #[.int .i64 0, .int .i64 0, .int .i64 0, .int .i64 0, .string ⟨#[]⟩] 23
  clear hb c0 c1 c2 c3 c4 c5 c6 c7 c8 c9
  obtain ⟨⟨c0, c1, c2, c3, c4, c5, c6, c7, c8, c9⟩, -, -⟩ := hA.ten
  obtain ⟨⟨d0, d1, d2, d3, d4⟩, -, -⟩ := hX.five
  obtain ⟨⟨y0, y1, y2, y3, y4⟩, -, -⟩ := hY.five
  clear hX hY
  have hx5 : Below w.heap.size w (w4.alloc (.cells #[.int .i64 0, .int .i64 0, .int .i64 0, .int .i64 0, .string ⟨#[]⟩] 23)).drew ∧ ((w4.alloc (.cells #[.int .i64 0, .int .i64 0, .int .i64 0, .int .i64 0, .string ⟨#[]⟩] 23)).drew.cell? ⟨w.heap.size, 0, none⟩ = some (.int .i64 f) ∧ (w4.alloc (.cells #[.int .i64 0, .int .i64 0, .int .i64 0, .int .i64 0, .string ⟨#[]⟩] 23)).drew.cell? ⟨w.heap.size, 1, none⟩ = some (.int .i64 t) ∧ (w4.alloc (.cells #[.int .i64 0, .int .i64 0, .int .i64 0, .int .i64 0, .string ⟨#[]⟩] 23)).drew.cell? ⟨w.heap.size, 2, none⟩ = some (.int .i64 tl) ∧ (w4.alloc (.cells #[.int .i64 0, .int .i64 0, .int .i64 0, .int .i64 0, .string ⟨#[]⟩] 23)).drew.cell? ⟨w.heap.size, 3, none⟩ = some (.int .i64 pr) ∧ (w4.alloc (.cells #[.int .i64 0, .int .i64 0, .int .i64 0, .int .i64 0, .string ⟨#[]⟩] 23)).drew.cell? ⟨w.heap.size, 4, none⟩ = some (.int .i64 id) ∧ (w4.alloc (.cells #[.int .i64 0, .int .i64 0, .int .i64 0, .int .i64 0, .string ⟨#[]⟩] 23)).drew.cell? ⟨w.heap.size, 5, none⟩ = some (.int .i64 fr) ∧ (w4.alloc (.cells #[.int .i64 0, .int .i64 0, .int .i64 0, .int .i64 0, .string ⟨#[]⟩] 23)).drew.cell? ⟨w.heap.size, 6, none⟩ = some (.bool mo) ∧ (w4.alloc (.cells #[.int .i64 0, .int .i64 0, .int .i64 0, .int .i64 0, .string ⟨#[]⟩] 23)).drew.cell? ⟨w.heap.size, 7, none⟩ = some (.bool dn) ∧ (w4.alloc (.cells #[.int .i64 0, .int .i64 0, .int .i64 0, .int .i64 0, .string ⟨#[]⟩] 23)).drew.cell? ⟨w.heap.size, 8, none⟩ = some (.string op) ∧ (w4.alloc (.cells #[.int .i64 0, .int .i64 0, .int .i64 0, .int .i64 0, .string ⟨#[]⟩] 23)).drew.cell? ⟨w.heap.size, 9, none⟩ = some (.string da)) ∧ ((w4.alloc (.cells #[.int .i64 0, .int .i64 0, .int .i64 0, .int .i64 0, .string ⟨#[]⟩] 23)).drew.cell? ⟨w3.heap.size, 0, none⟩ = some (.int .i64 0) ∧ (w4.alloc (.cells #[.int .i64 0, .int .i64 0, .int .i64 0, .int .i64 0, .string ⟨#[]⟩] 23)).drew.cell? ⟨w3.heap.size, 1, none⟩ = some (.int .i64 0) ∧ (w4.alloc (.cells #[.int .i64 0, .int .i64 0, .int .i64 0, .int .i64 0, .string ⟨#[]⟩] 23)).drew.cell? ⟨w3.heap.size, 2, none⟩ = some (.int .i64 0) ∧ (w4.alloc (.cells #[.int .i64 0, .int .i64 0, .int .i64 0, .int .i64 0, .string ⟨#[]⟩] 23)).drew.cell? ⟨w3.heap.size, 3, none⟩ = some (.int .i64 0) ∧ (w4.alloc (.cells #[.int .i64 0, .int .i64 0, .int .i64 0, .int .i64 0, .string ⟨#[]⟩] 23)).drew.cell? ⟨w3.heap.size, 4, none⟩ = some (.string ⟨#[]⟩)) ∧ ((w4.alloc (.cells #[.int .i64 0, .int .i64 0, .int .i64 0, .int .i64 0, .string ⟨#[]⟩] 23)).drew.cell? ⟨w4.heap.size, 0, none⟩ = some (.int .i64 0) ∧ (w4.alloc (.cells #[.int .i64 0, .int .i64 0, .int .i64 0, .int .i64 0, .string ⟨#[]⟩] 23)).drew.cell? ⟨w4.heap.size, 1, none⟩ = some (.int .i64 0) ∧ (w4.alloc (.cells #[.int .i64 0, .int .i64 0, .int .i64 0, .int .i64 0, .string ⟨#[]⟩] 23)).drew.cell? ⟨w4.heap.size, 2, none⟩ = some (.int .i64 0) ∧ (w4.alloc (.cells #[.int .i64 0, .int .i64 0, .int .i64 0, .int .i64 0, .string ⟨#[]⟩] 23)).drew.cell? ⟨w4.heap.size, 3, none⟩ = some (.int .i64 0) ∧ (w4.alloc (.cells #[.int .i64 0, .int .i64 0, .int .i64 0, .int .i64 0, .string ⟨#[]⟩] 23)).drew.cell? ⟨w4.heap.size, 4, none⟩ = some (.string ⟨#[]⟩)) := ⟨hl.drew, ⟨c0, c1, c2, c3, c4, c5, c6, c7, c8, c9⟩, ⟨d0, d1, d2, d3, d4⟩, ⟨y0, y1, y2, y3, y4⟩⟩
  go_wp2
  go_region_held3 (fun W => Below w.heap.size w W ∧ (W.cell? ⟨w.heap.size, 0, none⟩ = some (.int .i64 f) ∧ W.cell? ⟨w.heap.size, 1, none⟩ = some (.int .i64 t) ∧ W.cell? ⟨w.heap.size, 2, none⟩ = some (.int .i64 tl) ∧ W.cell? ⟨w.heap.size, 3, none⟩ = some (.int .i64 pr) ∧ W.cell? ⟨w.heap.size, 4, none⟩ = some (.int .i64 id) ∧ W.cell? ⟨w.heap.size, 5, none⟩ = some (.int .i64 fr) ∧ W.cell? ⟨w.heap.size, 6, none⟩ = some (.bool mo) ∧ W.cell? ⟨w.heap.size, 7, none⟩ = some (.bool dn) ∧ W.cell? ⟨w.heap.size, 8, none⟩ = some (.string op) ∧ W.cell? ⟨w.heap.size, 9, none⟩ = some (.string da)) ∧ (W.cell? ⟨w3.heap.size, 0, none⟩ = some (.int .i64 0) ∧ W.cell? ⟨w3.heap.size, 1, none⟩ = some (.int .i64 0) ∧ W.cell? ⟨w3.heap.size, 2, none⟩ = some (.int .i64 0) ∧ W.cell? ⟨w3.heap.size, 3, none⟩ = some (.int .i64 0) ∧ W.cell? ⟨w3.heap.size, 4, none⟩ = some (.string ⟨#[]⟩)) ∧ (W.cell? ⟨w4.heap.size, 0, none⟩ = some (.int .i64 0) ∧ W.cell? ⟨w4.heap.size, 1, none⟩ = some (.int .i64 0) ∧ W.cell? ⟨w4.heap.size, 2, none⟩ = some (.int .i64 0) ∧ W.cell? ⟨w4.heap.size, 3, none⟩ = some (.int .i64 0) ∧ W.cell? ⟨w4.heap.size, 4, none⟩ = some (.string ⟨#[]⟩))) (first | exact hx5 | (refine keep20 hb ?_; assumption)) (first | (go_at_call 20; refine (ht _).mono ?_; rintro e w' ⟨rfl, hb⟩) | (go_at_call 21; refine (hr _).mono ?_; rintro e w' ⟨rfl, hb⟩) | (go_at_call 15; refine (iworks_any _).mono ?_; rintro e w' ⟨rfl, hb⟩))
  all_goals
    rename_i hq
    go_wp2
    go_ret
    exact ⟨rfl, hq.1⟩

set_option maxRecDepth 100000 in
set_option maxHeartbeats 4000000 in
theorem walk_y {k c : Int} {f t tl pr id fr : Int} {mo dn : Bool} {op da : ByteArray} (w : World) (ho : op.size ≤ 1125899906842624) (hd : da.size ≤ 1125899906842624) (hk : kindB k c = true) (hm : mayP f t tl pr id fr mo op.size da.size = true) :
    Calls Try.prog 5 #[.agg #[.int .i64 f, .int .i64 t, .int .i64 tl, .int .i64 pr, .int .i64 id, .int .i64 fr, .bool mo, .bool dn, .string op, .string da], .int .i64 k, .int .i64 c] w fun e w' => e = .returned (.bool true) ∧ Below w.heap.size w w' := by
  have hA := At.box w #[.int .i64 f, .int .i64 t, .int .i64 tl, .int .i64 pr, .int .i64 id, .int .i64 fr, .bool mo, .bool dn, .string op, .string da] 35
  have hl := bel1 w (.cells #[.int .i64 f, .int .i64 t, .int .i64 tl, .int .i64 pr, .int .i64 id, .int .i64 fr, .bool mo, .bool dn, .string op, .string da] 35)
  have ht := fun W => tell_any f t tl pr id fr mo dn op da W ho hd
  have hr := fun W => rtell_any f t tl pr id fr mo dn op da W ho hd
  generalize tellB f t pr fr da (mayP f t tl pr id fr mo op.size da.size) = B at ht hr
  have h1 := fun W => abo_y (dn := dn) hk hm W
  have h2 := fun W => rabo_y (dn := dn) hk hm W
  generalize (encP f t tl pr id fr mo dn op da).extract 0 (aboN op da) = D at h1 h2
  go_enter Try.func5, Try.ntmps5
  go_wp2_with fail
  refine (h1 _).mono ?_
  rintro e w3 ⟨rfl, hb⟩
  replace hl := bt (bt hl hb) (bel1 w3 (.cells #[.int .i64 k, .int .i64 c, .int .i64 0, .int .i64 0, .string D] 23))
  replace hA := (hA.later hb).later (bel1 w3 (.cells #[.int .i64 k, .int .i64 c, .int .i64 0, .int .i64 0, .string D] 23))
  have hX := At.box w3 #[.int .i64 k, .int .i64 c, .int .i64 0, .int .i64 0, .string D] 23
  clear hb
  obtain ⟨⟨c0, c1, c2, c3, c4, c5, c6, c7, c8, c9⟩, -, -⟩ := hA.ten
  go_wp2_with fail
  refine (h2 _).mono ?_
  rintro e w4 ⟨rfl, hb⟩
  replace hl := bt (bt hl hb) (bel1 w4 (.cells #[.int .i64 k, .int .i64 c, .int .i64 0, .int .i64 0, .string D] 23))
  replace hA := (hA.later hb).later (bel1 w4 (.cells #[.int .i64 k, .int .i64 c, .int .i64 0, .int .i64 0, .string D] 23))
  replace hX := (hX.later hb).later (bel1 w4 (.cells #[.int .i64 k, .int .i64 c, .int .i64 0, .int .i64 0, .string D] 23))
  have hY := At.box w4 #[.int .i64 k, .int .i64 c, .int .i64 0, .int .i64 0, .string D] 23
  clear hb c0 c1 c2 c3 c4 c5 c6 c7 c8 c9
  obtain ⟨⟨c0, c1, c2, c3, c4, c5, c6, c7, c8, c9⟩, -, -⟩ := hA.ten
  obtain ⟨⟨d0, d1, d2, d3, d4⟩, -, -⟩ := hX.five
  obtain ⟨⟨y0, y1, y2, y3, y4⟩, -, -⟩ := hY.five
  clear hX hY
  have hx5 : Below w.heap.size w (w4.alloc (.cells #[.int .i64 k, .int .i64 c, .int .i64 0, .int .i64 0, .string D] 23)).drew ∧ ((w4.alloc (.cells #[.int .i64 k, .int .i64 c, .int .i64 0, .int .i64 0, .string D] 23)).drew.cell? ⟨w.heap.size, 0, none⟩ = some (.int .i64 f) ∧ (w4.alloc (.cells #[.int .i64 k, .int .i64 c, .int .i64 0, .int .i64 0, .string D] 23)).drew.cell? ⟨w.heap.size, 1, none⟩ = some (.int .i64 t) ∧ (w4.alloc (.cells #[.int .i64 k, .int .i64 c, .int .i64 0, .int .i64 0, .string D] 23)).drew.cell? ⟨w.heap.size, 2, none⟩ = some (.int .i64 tl) ∧ (w4.alloc (.cells #[.int .i64 k, .int .i64 c, .int .i64 0, .int .i64 0, .string D] 23)).drew.cell? ⟨w.heap.size, 3, none⟩ = some (.int .i64 pr) ∧ (w4.alloc (.cells #[.int .i64 k, .int .i64 c, .int .i64 0, .int .i64 0, .string D] 23)).drew.cell? ⟨w.heap.size, 4, none⟩ = some (.int .i64 id) ∧ (w4.alloc (.cells #[.int .i64 k, .int .i64 c, .int .i64 0, .int .i64 0, .string D] 23)).drew.cell? ⟨w.heap.size, 5, none⟩ = some (.int .i64 fr) ∧ (w4.alloc (.cells #[.int .i64 k, .int .i64 c, .int .i64 0, .int .i64 0, .string D] 23)).drew.cell? ⟨w.heap.size, 6, none⟩ = some (.bool mo) ∧ (w4.alloc (.cells #[.int .i64 k, .int .i64 c, .int .i64 0, .int .i64 0, .string D] 23)).drew.cell? ⟨w.heap.size, 7, none⟩ = some (.bool dn) ∧ (w4.alloc (.cells #[.int .i64 k, .int .i64 c, .int .i64 0, .int .i64 0, .string D] 23)).drew.cell? ⟨w.heap.size, 8, none⟩ = some (.string op) ∧ (w4.alloc (.cells #[.int .i64 k, .int .i64 c, .int .i64 0, .int .i64 0, .string D] 23)).drew.cell? ⟨w.heap.size, 9, none⟩ = some (.string da)) ∧ ((w4.alloc (.cells #[.int .i64 k, .int .i64 c, .int .i64 0, .int .i64 0, .string D] 23)).drew.cell? ⟨w3.heap.size, 0, none⟩ = some (.int .i64 k) ∧ (w4.alloc (.cells #[.int .i64 k, .int .i64 c, .int .i64 0, .int .i64 0, .string D] 23)).drew.cell? ⟨w3.heap.size, 1, none⟩ = some (.int .i64 c) ∧ (w4.alloc (.cells #[.int .i64 k, .int .i64 c, .int .i64 0, .int .i64 0, .string D] 23)).drew.cell? ⟨w3.heap.size, 2, none⟩ = some (.int .i64 0) ∧ (w4.alloc (.cells #[.int .i64 k, .int .i64 c, .int .i64 0, .int .i64 0, .string D] 23)).drew.cell? ⟨w3.heap.size, 3, none⟩ = some (.int .i64 0) ∧ (w4.alloc (.cells #[.int .i64 k, .int .i64 c, .int .i64 0, .int .i64 0, .string D] 23)).drew.cell? ⟨w3.heap.size, 4, none⟩ = some (.string D)) ∧ ((w4.alloc (.cells #[.int .i64 k, .int .i64 c, .int .i64 0, .int .i64 0, .string D] 23)).drew.cell? ⟨w4.heap.size, 0, none⟩ = some (.int .i64 k) ∧ (w4.alloc (.cells #[.int .i64 k, .int .i64 c, .int .i64 0, .int .i64 0, .string D] 23)).drew.cell? ⟨w4.heap.size, 1, none⟩ = some (.int .i64 c) ∧ (w4.alloc (.cells #[.int .i64 k, .int .i64 c, .int .i64 0, .int .i64 0, .string D] 23)).drew.cell? ⟨w4.heap.size, 2, none⟩ = some (.int .i64 0) ∧ (w4.alloc (.cells #[.int .i64 k, .int .i64 c, .int .i64 0, .int .i64 0, .string D] 23)).drew.cell? ⟨w4.heap.size, 3, none⟩ = some (.int .i64 0) ∧ (w4.alloc (.cells #[.int .i64 k, .int .i64 c, .int .i64 0, .int .i64 0, .string D] 23)).drew.cell? ⟨w4.heap.size, 4, none⟩ = some (.string D)) := ⟨hl.drew, ⟨c0, c1, c2, c3, c4, c5, c6, c7, c8, c9⟩, ⟨d0, d1, d2, d3, d4⟩, ⟨y0, y1, y2, y3, y4⟩⟩
  go_wp2
  go_region_held3 (fun W => Below w.heap.size w W ∧ (W.cell? ⟨w.heap.size, 0, none⟩ = some (.int .i64 f) ∧ W.cell? ⟨w.heap.size, 1, none⟩ = some (.int .i64 t) ∧ W.cell? ⟨w.heap.size, 2, none⟩ = some (.int .i64 tl) ∧ W.cell? ⟨w.heap.size, 3, none⟩ = some (.int .i64 pr) ∧ W.cell? ⟨w.heap.size, 4, none⟩ = some (.int .i64 id) ∧ W.cell? ⟨w.heap.size, 5, none⟩ = some (.int .i64 fr) ∧ W.cell? ⟨w.heap.size, 6, none⟩ = some (.bool mo) ∧ W.cell? ⟨w.heap.size, 7, none⟩ = some (.bool dn) ∧ W.cell? ⟨w.heap.size, 8, none⟩ = some (.string op) ∧ W.cell? ⟨w.heap.size, 9, none⟩ = some (.string da)) ∧ (W.cell? ⟨w3.heap.size, 0, none⟩ = some (.int .i64 k) ∧ W.cell? ⟨w3.heap.size, 1, none⟩ = some (.int .i64 c) ∧ W.cell? ⟨w3.heap.size, 2, none⟩ = some (.int .i64 0) ∧ W.cell? ⟨w3.heap.size, 3, none⟩ = some (.int .i64 0) ∧ W.cell? ⟨w3.heap.size, 4, none⟩ = some (.string D)) ∧ (W.cell? ⟨w4.heap.size, 0, none⟩ = some (.int .i64 k) ∧ W.cell? ⟨w4.heap.size, 1, none⟩ = some (.int .i64 c) ∧ W.cell? ⟨w4.heap.size, 2, none⟩ = some (.int .i64 0) ∧ W.cell? ⟨w4.heap.size, 3, none⟩ = some (.int .i64 0) ∧ W.cell? ⟨w4.heap.size, 4, none⟩ = some (.string D))) (first | exact hx5 | (refine keep20 hb ?_; assumption)) (first | (go_at_call 20; refine (ht _).mono ?_; rintro e w' ⟨rfl, hb⟩) | (go_at_call 21; refine (hr _).mono ?_; rintro e w' ⟨rfl, hb⟩) | (go_at_call 15; refine (iworks_any _).mono ?_; rintro e w' ⟨rfl, hb⟩))
  all_goals
    rename_i hq
    go_wp2
    go_ret
    exact ⟨rfl, hq.1⟩

theorem walk (f : Int) (_ : (Lit.int .i64 f).wf = true) (t : Int) (_ : (Lit.int .i64 t).wf = true) (tl : Int) (_ : (Lit.int .i64 tl).wf = true) (pr : Int) (_ : (Lit.int .i64 pr).wf = true) (id : Int) (_ : (Lit.int .i64 id).wf = true) (fr : Int) (_ : (Lit.int .i64 fr).wf = true) (mo : Bool) (dn : Bool) (op : ByteArray) (_ : op.size ≤ maxLen) (zop : op.size ≤ 140737488351232) (da : ByteArray) (_ : da.size ≤ maxLen) (zda : da.size ≤ 140737488351232) (k : Int) (_ : (Lit.int .i64 k).wf = true) (c : Int) (_ : (Lit.int .i64 c).wf = true) (w : World) :
    Calls Try.prog 5 #[.agg #[.int .i64 f, .int .i64 t, .int .i64 tl, .int .i64 pr, .int .i64 id, .int .i64 fr, .bool mo, .bool dn, .string op, .string da], .int .i64 k, .int .i64 c] w fun e w' => e = .returned (.bool true) ∧ Below w.heap.size w w' := by
  have ho : op.size ≤ 1125899906842624 := by omega
  have hd : da.size ≤ 1125899906842624 := by omega
  cases hk : kindB k c
  · exact walk_r w ho hd hk
  · cases hm : mayP f t tl pr id fr mo op.size da.size
    · exact walk_n w ho hd hk hm
    · exact walk_y w ho hd hk hm

set_option maxRecDepth 100000 in
theorem lifted (os : Os) (started : os.Started) (H : Type) (enc : TypeId × Value → H) :
    ReturnsInHanded {} Try.checked os 5 .any (Rows.icmpTellsSpec.pre6 enc Try.prog Try.f5 Rows.icmpTellsRow.domain false) (Rows.icmpTellsSpec.post enc Try.prog Try.f5 false true false false) := by
  refine returnsInHanded_of_change_sized (C := Try.checked) own started (by kernel_rfl) Try.func5
    (ChangeSpec.witness6 (enc := enc) (C := Try.checked) false ⟨#[], #[.agg #[.int .i64 0, .int .i64 0, .int .i64 0, .int .i64 0, .int .i64 0, .int .i64 0, .bool false, .bool false, .string ByteArray.empty, .string ByteArray.empty], .int .i64 0, .int .i64 0], []⟩ 8 (by kernel_rfl) (by kernel_rfl) (by kernel_rfl) (by kernel_rfl)) ?_
  intro W base args ds gs before hval0 hW hcnd hsz0 _
  have hsz : (DataW.weightsEach Try.prog (Try.f5.params.toList ++ Rows.icmpTellsSpec.plain.varTypes Try.prog) (ds ++ gs)).all (· ≤ reachBytes) = true := hsz0
  have hval : ∀ (j : Nat) t v, Try.f5.params[j]? = some t → args[j]? = some v → Value.okWide Try.prog W .any base t v := hval0
  have hW' := hW
  obtain ⟨p, q, hA0, hV, rfl, hfz, hnd⟩ := hW
  have hA : DataW.TrodAll enc Try.prog W 0 (fun _ => true) true Try.f5.params.toList args.toList ds p := hA0
  rw [Try.params5] at hA hval hsz
  obtain ⟨v0, vs0, d0, ds0, p0, q0, hargs, rfl, rfl, h0, r0⟩ := trodAll_cons hA
  obtain ⟨v1, vs1, d1, ds1, p1, q1, rfl, rfl, rfl, h1, r1⟩ := trodAll_cons r0
  obtain ⟨v2, vs2, d2, ds2, p2, q2, rfl, rfl, rfl, h2, r2⟩ := trodAll_cons r1
  obtain ⟨rfl, rfl, rfl⟩ := trodAll_nil r2
  obtain rfl : args = #[v0, v1, v2] := by cases args; simp_all
  obtain ⟨rfl, rfl⟩ := trodVars_none hV
  have k0 := h0
  have lt0 : ∀ x ∈ p0, x.block < W.heap.size := by obtain ⟨m, hm⟩ := k0; exact DataW.trod_lt m _ _ _ hm
  have k1 := h1
  have lt1 : ∀ x ∈ p1, x.block < W.heap.size := by obtain ⟨m, hm⟩ := k1; exact DataW.trod_lt m _ _ _ hm
  have k2 := h2
  have lt2 : ∀ x ∈ p2, x.block < W.heap.size := by obtain ⟨m, hm⟩ := k2; exact DataW.trod_lt m _ _ _ hm
  obtain ⟨f0_0, f0_1, f0_2, f0_3, f0_4, f0_5, f0_6, f0_7, f0_8, f0_9, parts0, rfl, hdp0, e0_0, e0_1, e0_2, e0_3, e0_4, e0_5, e0_8, e0_9, m0_8, m0_9⟩ := open35 (hval 0 35 v0 rfl rfl) h0
  have z0_8 : f0_8.size ≤ 140737488351232 := by
    have := sized_field hsz (j := 0) (i := 8) (t := 35) rfl (by rw [hdp0]; rfl) Try.underlying35 rfl m0_8
    simp only [reachBytes] at this
    simpa using this
  have z0_9 : f0_9.size ≤ 140737488351232 := by
    have := sized_field hsz (j := 0) (i := 9) (t := 35) rfl (by rw [hdp0]; rfl) Try.underlying35 rfl m0_9
    simp only [reachBytes] at this
    simpa using this
  obtain ⟨a1, rfl, -, -, w1⟩ := open_int Try.underlying3 (hval 1 3 v1 rfl rfl) h1
  obtain ⟨a2, rfl, -, -, w2⟩ := open_int Try.underlying3 (hval 2 3 v2 rfl rfl) h2
  clear hA0 hval0
  refine (walk f0_0 e0_0 f0_1 e0_1 f0_2 e0_2 f0_3 e0_3 f0_4 e0_4 f0_5 e0_5 f0_6 f0_7 f0_8 e0_8 z0_8 f0_9 e0_9 z0_9 a1 w1 a2 w2 W ).mono fun e W' ⟨he, bel⟩ => ?_
  subst he
  exact ⟨_, rfl, _, _, _, [], _, [], hW', trodAll_mk1 (shut_bool Try.underlying4 _), (trodAll_cons_mk (Below.trod laidOut (by kernel_rfl) (of_decide_eq_true (by kernel_rfl)) k0 bel lt0) (trodAll_cons_mk (Below.trod laidOut (by kernel_rfl) (of_decide_eq_true (by kernel_rfl)) k1 bel lt1) (trodAll_cons_mk (Below.trod laidOut (by kernel_rfl) (of_decide_eq_true (by kernel_rfl)) k2 bel lt2) trodAll_mk0))), rfl, bel.frame _, fun h => by cases h⟩

theorem over : Rows.icmpTellsRow.holds Try.pinned (OpenSpec.ofChange Rows.icmpTellsSpec) :=
  OpenClaim.holds_of_wide 5 Try.f5 rfl rfl rfl rfl rfl rfl rfl ⟨rfl, rfl, rfl, rfl, rfl⟩ rfl rfl rfl rfl rfl (by kernel_rfl) Try.func5 (by kernel_rfl)
    (of_decide_eq_true (by kernel_rfl)) (by unfold Func.isWrapper; first | (rw [if_pos (by decide +kernel)]; kernel_rfl) | (rw [if_neg (by decide +kernel)]; exact ⟨rfl, rfl⟩))
    (fun os started H enc _ => lifted os started H enc)

end Go.Proofs.Ytbbeepkcejiafaa.icmpTells
namespace Go.Proofs.Ytbbeepkcejiafaa
theorem icmpTells_holds : Rows.IcmpTellsSaid := icmpTells.over
end Go.Proofs.Ytbbeepkcejiafaa
