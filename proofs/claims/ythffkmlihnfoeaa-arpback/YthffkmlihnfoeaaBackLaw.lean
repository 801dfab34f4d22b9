/- What is encoded as an ARP packet is decoded as the packet, with anything behind it that may stand there; what is decoded is encoded as the first of these bytes: for every packet and all strings. -/
import Derived.Test.YthffkmlihnfoeaaRows
import Derived.Test.YthffkmlihnfoeaaAbacks
import Derived.Test.YthffkmlihnfoeaaAenc
import Derived.WalkKit
import Derived.ProofKit
import Derived.OpenShut
import Derived.ShutString
import Derived.ChangeOld
import Derived.Below
import Derived.Carry
import Derived.SizedLaws
import Derived.Deep.Fields
namespace Go.Proofs.Ythffkmlihnfoeaa.arpBack
open Go.ChangeShapes Go.WideShapes Go.ChangeAt Go.RowKit
open Go.ChangeMaps (open_string)
set_option linter.unusedVariables false

theorem own : ownKnob Try.prog.godebug = none := by kernel_rfl
theorem laidOut : laidOutB Try.prog = true := by kernel_rfl

theorem open_fields {H : Type} {enc : TypeId × Value → H} {P : Program} {w : World} {base : Nat} {spare : Nat → Bool} {held : Bool} {r : Reach} {b0 : Nat} {t : TypeId} {fs : Array Field} {v : Value} {d : DataW H} {p : List MemPlace} (hs : P.underlying t = some (.struct fs)) (hone : Go.Deep.oneCellFields P fs = true) (hC : P.cellsOf t = fs.size)
    (hv : Value.okWide P w r b0 t v) (h : DataW.Trod enc P w base spare held t v d p) :
    ∃ cs : Array Value, v = .agg cs ∧ cs.size = fs.size ∧ ∀ (i : Nat) (f : Field), fs[i]? = some f → ∃ n x, DataW.trod enc P w base spare held n f.type ((cs.toList.drop i).take 1) = some x := by
  obtain ⟨cs, rfl, hsz⟩ := okWide_struct hs hv
  obtain ⟨fuel, hf⟩ := h
  obtain ⟨xs, n, _, hx, hl, hlen, hfs⟩ := DataW.trod_struct hs hf
  refine ⟨cs, rfl, hsz.trans hC, fun i f hi => ?_⟩
  obtain ⟨o1, k1⟩ := Go.Deep.hone_of hone i f hi
  have := hfs i f hi
  have hlt : i < xs.length := by rw [hlen]; exact (Array.getElem?_eq_some_iff.1 hi).1
  rw [o1, k1, List.getElem?_eq_getElem hlt] at this
  exact ⟨n, _, by simpa [Value.cells] using this⟩

theorem cells23 : Try.prog.cellsOf 23 = 5 := by kernel_rfl
theorem open23 {H : Type} {enc : TypeId × Value → H} {w : World} {base : Nat} {spare : Nat → Bool} {held : Bool} {r : Reach} {b0 : Nat} {v : Value} {d : DataW H} {p : List MemPlace} (hv : Value.okWide Try.prog w r b0 23 v) (h : DataW.Trod enc Try.prog w base spare held 23 v d p) :
    ∃ (f0 : Int) (f1 : Int) (f2 : Int) (f3 : Int) (f4 : Int), v = .agg #[.int .i64 f0, .int .i64 f1, .int .i64 f2, .int .i64 f3, .int .i64 f4] ∧ (Lit.int .i64 f0).wf = true ∧ (Lit.int .i64 f1).wf = true ∧ (Lit.int .i64 f2).wf = true ∧ (Lit.int .i64 f3).wf = true ∧ (Lit.int .i64 f4).wf = true := by
  obtain ⟨⟨l⟩, rfl, hz, hf⟩ := open_fields Try.underlying23 (by kernel_rfl) cells23 hv h
  have hz' : l.length = 5 := by simpa using hz
  match l, hz' with
  | [c0, c1, c2, c3, c4], _ =>
    obtain ⟨n0, x0, t0⟩ := hf 0 _ rfl
    obtain ⟨f0, q0, -, e0⟩ := DataW.trod_int Try.underlying3 t0
    have p0 : c0 = .int .i64 f0 := by simpa using q0
    obtain ⟨n1, x1, t1⟩ := hf 1 _ rfl
    obtain ⟨f1, q1, -, e1⟩ := DataW.trod_int Try.underlying3 t1
    have p1 : c1 = .int .i64 f1 := by simpa using q1
    obtain ⟨n2, x2, t2⟩ := hf 2 _ rfl
    obtain ⟨f2, q2, -, e2⟩ := DataW.trod_int Try.underlying3 t2
    have p2 : c2 = .int .i64 f2 := by simpa using q2
    obtain ⟨n3, x3, t3⟩ := hf 3 _ rfl
    obtain ⟨f3, q3, -, e3⟩ := DataW.trod_int Try.underlying3 t3
    have p3 : c3 = .int .i64 f3 := by simpa using q3
    obtain ⟨n4, x4, t4⟩ := hf 4 _ rfl
    obtain ⟨f4, q4, -, e4⟩ := DataW.trod_int Try.underlying3 t4
    have p4 : c4 = .int .i64 f4 := by simpa using q4
    subst p0 p1 p2 p3 p4
    exact ⟨f0, f1, f2, f3, f4, rfl, e0, e1, e2, e3, e4⟩

-- WALK
theorem dec_em {o fm fi tm ti : Int} (h : mayA o fm fi tm ti = true) {m : ByteArray} (hm : m.size ≤ 18) (w : World) :
    Calls Try.prog 16 #[.string (encA o fm fi tm ti ++ m)] w fun e w' => e = .returned (.tuple #[.agg #[.int .i64 o, .int .i64 fm, .int .i64 fi, .int .i64 tm, .int .i64 ti], .int .i64 0]) ∧ Below w.heap.size w w' := by
  have := dec_y (decA_more_t h m hm) w
  obtain ⟨e1, e2, e3, e4, e5, -, -⟩ := enc_more h m
  rw [e1, e2, e3, e4, e5] at this
  exact this
theorem dec_e {o fm fi tm ti : Int} (h : mayA o fm fi tm ti = true) (w : World) :
    Calls Try.prog 16 #[.string (encA o fm fi tm ti)] w fun e w' => e = .returned (.tuple #[.agg #[.int .i64 o, .int .i64 fm, .int .i64 fi, .int .i64 tm, .int .i64 ti], .int .i64 0]) ∧ Below w.heap.size w w' := by
  have := dec_em h (m := ⟨#[]⟩) (by decide) w
  rw [app_nil] at this
  exact this
theorem dec_en {o fm fi tm ti : Int} (h : mayA o fm fi tm ti = true) {m : ByteArray} (hm : 18 < m.size) (hz : m.size ≤ 140737488351232) (w : World) :
    Calls Try.prog 16 #[.string (encA o fm fi tm ti ++ m)] w fun e w' => e = .returned (.tuple #[.agg #[.int .i64 0, .int .i64 0, .int .i64 0, .int .i64 0, .int .i64 0], .int .i64 40]) ∧ Below w.heap.size w w' :=
  dec_n (decA_more_f h m hm) w (by rw [ByteArray.size_append, encA_size]; unfold maxLen; omega)
theorem enc_s {s : ByteArray} (h : decA s = true) (w : World) :
    Calls Try.prog 9 #[.agg #[.int .i64 (aO s), .int .i64 (aFm s), .int .i64 (aFi s), .int .i64 (aTm s), .int .i64 (aTi s)]] w fun e w' => e = .returned (.tuple #[.string (s.extract 0 28), .int .i64 0]) ∧ Below w.heap.size w w' := by
  have := enc_y (decA_parts h).2.2.2 w
  rw [enc_dec h] at this
  exact this
set_option maxRecDepth 100000 in
set_option maxHeartbeats 4000000 in
theorem walk_fy (o fm fi tm ti : Int) (m : ByteArray) (zm : m.size ≤ 140737488351232) (s : ByteArray) (hs : s.size ≤ maxLen) (w : World) (h : mayA o fm fi tm ti = false) (g : decA s = true) :
    Calls Try.prog 6 #[.agg #[.int .i64 o, .int .i64 fm, .int .i64 fi, .int .i64 tm, .int .i64 ti], .string m, .string s] w fun e w' => e = .returned (.bool true) ∧ Below w.heap.size w w' := by
  have hA := At.box w #[.int .i64 o, .int .i64 fm, .int .i64 fi, .int .i64 tm, .int .i64 ti] 23
  have hl := bel1 w (.cells #[.int .i64 o, .int .i64 fm, .int .i64 fi, .int .i64 tm, .int .i64 ti] 23)
  have hsm := hs
  unfold maxLen at hsm
  go_enter Try.func6, Try.ntmps6
  go_wp2_with fail
  refine (works_any _).mono ?_
  rintro e w1 ⟨rfl, l⟩
  have hl := bt hl l
  have hA := hA.later l
  obtain ⟨⟨a0, a1, a2, a3, a4⟩, -, -⟩ := hA.five
  clear l
  go_wp2_with fail
  refine (enc_n h _).mono ?_
  rintro e w2 ⟨rfl, l⟩
  clear a0 a1 a2 a3 a4
  have hl := bt hl l
  have hz := (decA_parts g).1
  go_wp2_with fail
  refine (dec_y g _).mono ?_
  rintro e w8 ⟨rfl, l⟩
  have hl := bt (bt hl l) (bel1 w8 (.cells #[.int .i64 (aO s), .int .i64 (aFm s), .int .i64 (aFi s), .int .i64 (aTm s), .int .i64 (aTi s)] 23))
  go_wp2_with fail
  refine (enc_s g _).mono ?_
  rintro e w9 ⟨rfl, l⟩
  have hl := bt hl l
  go_wp2
  go_ret
  exact ⟨rfl, hl⟩
set_option maxRecDepth 100000 in
set_option maxHeartbeats 4000000 in
theorem walk_tley (o fm fi tm ti : Int) (m : ByteArray) (zm : m.size ≤ 140737488351232) (s : ByteArray) (hs : s.size ≤ maxLen) (w : World) (h : mayA o fm fi tm ti = true) (q : m.size ≤ 18) (g : decA s = true) :
    Calls Try.prog 6 #[.agg #[.int .i64 o, .int .i64 fm, .int .i64 fi, .int .i64 tm, .int .i64 ti], .string m, .string s] w fun e w' => e = .returned (.bool true) ∧ Below w.heap.size w w' := by
  have hA := At.box w #[.int .i64 o, .int .i64 fm, .int .i64 fi, .int .i64 tm, .int .i64 ti] 23
  have hl := bel1 w (.cells #[.int .i64 o, .int .i64 fm, .int .i64 fi, .int .i64 tm, .int .i64 ti] 23)
  have hsm := hs
  unfold maxLen at hsm
  go_enter Try.func6, Try.ntmps6
  go_wp2_with fail
  refine (works_any _).mono ?_
  rintro e w1 ⟨rfl, l⟩
  have hl := bt hl l
  have hA := hA.later l
  obtain ⟨⟨a0, a1, a2, a3, a4⟩, -, -⟩ := hA.five
  clear l
  go_wp2_with fail
  refine (enc_y h _).mono ?_
  rintro e w2 ⟨rfl, l⟩
  clear a0 a1 a2 a3 a4
  have hl := bt hl l
  have hA := hA.later l
  have ze := encA_size o fm fi tm ti
  go_wp2_with fail
  refine (dec_e h _).mono ?_
  rintro e w3 ⟨rfl, l⟩
  have hl := bt (bt hl l) (bel1 w3 (.cells #[.int .i64 o, .int .i64 fm, .int .i64 fi, .int .i64 tm, .int .i64 ti] 23))
  have hA := (hA.later l).later (bel1 w3 (.cells #[.int .i64 o, .int .i64 fm, .int .i64 fi, .int .i64 tm, .int .i64 ti] 23))
  have hx := At.box w3 #[.int .i64 o, .int .i64 fm, .int .i64 fi, .int .i64 tm, .int .i64 ti] 23
  go_wp2_with fail
  refine (dec_em h q _).mono ?_
  rintro e w4 ⟨rfl, l⟩
  have hl := bt (bt hl l) (bel1 w4 (.cells #[.int .i64 o, .int .i64 fm, .int .i64 fi, .int .i64 tm, .int .i64 ti] 23))
  obtain ⟨⟨a0, a1, a2, a3, a4⟩, -, -⟩ := ((hA.later l).later (bel1 w4 (.cells #[.int .i64 o, .int .i64 fm, .int .i64 fi, .int .i64 tm, .int .i64 ti] 23))).five
  obtain ⟨⟨x0, x1, x2, x3, x4⟩, -, -⟩ := ((hx.later l).later (bel1 w4 (.cells #[.int .i64 o, .int .i64 fm, .int .i64 fi, .int .i64 tm, .int .i64 ti] 23))).five
  clear hA hx l
  generalize w3.heap.size = b3 at *
  have hz := (decA_parts g).1
  go_wp2_with fail
  refine (dec_y g _).mono ?_
  rintro e w8 ⟨rfl, l⟩
  have hl := bt (bt hl l) (bel1 w8 (.cells #[.int .i64 (aO s), .int .i64 (aFm s), .int .i64 (aFi s), .int .i64 (aTm s), .int .i64 (aTi s)] 23))
  go_wp2_with fail
  refine (enc_s g _).mono ?_
  rintro e w9 ⟨rfl, l⟩
  have hl := bt hl l
  go_wp2
  go_ret
  exact ⟨rfl, hl⟩
set_option maxRecDepth 100000 in
set_option maxHeartbeats 4000000 in
theorem walk_tgty (o fm fi tm ti : Int) (m : ByteArray) (zm : m.size ≤ 140737488351232) (s : ByteArray) (hs : s.size ≤ maxLen) (w : World) (h : mayA o fm fi tm ti = true) (q : 18 < m.size) (g : decA s = true) :
    Calls Try.prog 6 #[.agg #[.int .i64 o, .int .i64 fm, .int .i64 fi, .int .i64 tm, .int .i64 ti], .string m, .string s] w fun e w' => e = .returned (.bool true) ∧ Below w.heap.size w w' := by
  have hA := At.box w #[.int .i64 o, .int .i64 fm, .int .i64 fi, .int .i64 tm, .int .i64 ti] 23
  have hl := bel1 w (.cells #[.int .i64 o, .int .i64 fm, .int .i64 fi, .int .i64 tm, .int .i64 ti] 23)
  have hsm := hs
  unfold maxLen at hsm
  go_enter Try.func6, Try.ntmps6
  go_wp2_with fail
  refine (works_any _).mono ?_
  rintro e w1 ⟨rfl, l⟩
  have hl := bt hl l
  have hA := hA.later l
  obtain ⟨⟨a0, a1, a2, a3, a4⟩, -, -⟩ := hA.five
  clear l
  go_wp2_with fail
  refine (enc_y h _).mono ?_
  rintro e w2 ⟨rfl, l⟩
  clear a0 a1 a2 a3 a4
  have hl := bt hl l
  have hA := hA.later l
  have ze := encA_size o fm fi tm ti
  go_wp2_with fail
  refine (dec_e h _).mono ?_
  rintro e w3 ⟨rfl, l⟩
  have hl := bt (bt hl l) (bel1 w3 (.cells #[.int .i64 o, .int .i64 fm, .int .i64 fi, .int .i64 tm, .int .i64 ti] 23))
  have hA := (hA.later l).later (bel1 w3 (.cells #[.int .i64 o, .int .i64 fm, .int .i64 fi, .int .i64 tm, .int .i64 ti] 23))
  have hx := At.box w3 #[.int .i64 o, .int .i64 fm, .int .i64 fi, .int .i64 tm, .int .i64 ti] 23
  go_wp2_with fail
  refine (dec_en h q zm _).mono ?_
  rintro e w4 ⟨rfl, l⟩
  have hl := bt (bt hl l) (bel1 w4 (.cells #[.int .i64 0, .int .i64 0, .int .i64 0, .int .i64 0, .int .i64 0] 23))
  obtain ⟨⟨a0, a1, a2, a3, a4⟩, -, -⟩ := ((hA.later l).later (bel1 w4 (.cells #[.int .i64 0, .int .i64 0, .int .i64 0, .int .i64 0, .int .i64 0] 23))).five
  obtain ⟨⟨x0, x1, x2, x3, x4⟩, -, -⟩ := ((hx.later l).later (bel1 w4 (.cells #[.int .i64 0, .int .i64 0, .int .i64 0, .int .i64 0, .int .i64 0] 23))).five
  clear hA hx l
  generalize w3.heap.size = b3 at *
  have hz := (decA_parts g).1
  go_wp2_with fail
  refine (dec_y g _).mono ?_
  rintro e w8 ⟨rfl, l⟩
  have hl := bt (bt hl l) (bel1 w8 (.cells #[.int .i64 (aO s), .int .i64 (aFm s), .int .i64 (aFi s), .int .i64 (aTm s), .int .i64 (aTi s)] 23))
  go_wp2_with fail
  refine (enc_s g _).mono ?_
  rintro e w9 ⟨rfl, l⟩
  have hl := bt hl l
  go_wp2
  go_ret
  exact ⟨rfl, hl⟩
set_option maxRecDepth 100000 in
set_option maxHeartbeats 4000000 in
theorem walk_fn (o fm fi tm ti : Int) (m : ByteArray) (zm : m.size ≤ 140737488351232) (s : ByteArray) (hs : s.size ≤ maxLen) (w : World) (h : mayA o fm fi tm ti = false) (g : decA s = false) :
    Calls Try.prog 6 #[.agg #[.int .i64 o, .int .i64 fm, .int .i64 fi, .int .i64 tm, .int .i64 ti], .string m, .string s] w fun e w' => e = .returned (.bool true) ∧ Below w.heap.size w w' := by
  have hA := At.box w #[.int .i64 o, .int .i64 fm, .int .i64 fi, .int .i64 tm, .int .i64 ti] 23
  have hl := bel1 w (.cells #[.int .i64 o, .int .i64 fm, .int .i64 fi, .int .i64 tm, .int .i64 ti] 23)
  have hsm := hs
  unfold maxLen at hsm
  go_enter Try.func6, Try.ntmps6
  go_wp2_with fail
  refine (works_any _).mono ?_
  rintro e w1 ⟨rfl, l⟩
  have hl := bt hl l
  have hA := hA.later l
  obtain ⟨⟨a0, a1, a2, a3, a4⟩, -, -⟩ := hA.five
  clear l
  go_wp2_with fail
  refine (enc_n h _).mono ?_
  rintro e w2 ⟨rfl, l⟩
  clear a0 a1 a2 a3 a4
  have hl := bt hl l
  go_wp2_with fail
  refine (dec_n g _ hs).mono ?_
  rintro e w8 ⟨rfl, l⟩
  have hl := bt (bt hl l) (bel1 w8 (.cells #[.int .i64 0, .int .i64 0, .int .i64 0, .int .i64 0, .int .i64 0] 23))
  go_wp2
  go_ret
  exact ⟨rfl, hl⟩
set_option maxRecDepth 100000 in
set_option maxHeartbeats 4000000 in
theorem walk_tlen (o fm fi tm ti : Int) (m : ByteArray) (zm : m.size ≤ 140737488351232) (s : ByteArray) (hs : s.size ≤ maxLen) (w : World) (h : mayA o fm fi tm ti = true) (q : m.size ≤ 18) (g : decA s = false) :
    Calls Try.prog 6 #[.agg #[.int .i64 o, .int .i64 fm, .int .i64 fi, .int .i64 tm, .int .i64 ti], .string m, .string s] w fun e w' => e = .returned (.bool true) ∧ Below w.heap.size w w' := by
  have hA := At.box w #[.int .i64 o, .int .i64 fm, .int .i64 fi, .int .i64 tm, .int .i64 ti] 23
  have hl := bel1 w (.cells #[.int .i64 o, .int .i64 fm, .int .i64 fi, .int .i64 tm, .int .i64 ti] 23)
  have hsm := hs
  unfold maxLen at hsm
  go_enter Try.func6, Try.ntmps6
  go_wp2_with fail
  refine (works_any _).mono ?_
  rintro e w1 ⟨rfl, l⟩
  have hl := bt hl l
  have hA := hA.later l
  obtain ⟨⟨a0, a1, a2, a3, a4⟩, -, -⟩ := hA.five
  clear l
  go_wp2_with fail
  refine (enc_y h _).mono ?_
  rintro e w2 ⟨rfl, l⟩
  clear a0 a1 a2 a3 a4
  have hl := bt hl l
  have hA := hA.later l
  have ze := encA_size o fm fi tm ti
  go_wp2_with fail
  refine (dec_e h _).mono ?_
  rintro e w3 ⟨rfl, l⟩
  have hl := bt (bt hl l) (bel1 w3 (.cells #[.int .i64 o, .int .i64 fm, .int .i64 fi, .int .i64 tm, .int .i64 ti] 23))
  have hA := (hA.later l).later (bel1 w3 (.cells #[.int .i64 o, .int .i64 fm, .int .i64 fi, .int .i64 tm, .int .i64 ti] 23))
  have hx := At.box w3 #[.int .i64 o, .int .i64 fm, .int .i64 fi, .int .i64 tm, .int .i64 ti] 23
  go_wp2_with fail
  refine (dec_em h q _).mono ?_
  rintro e w4 ⟨rfl, l⟩
  have hl := bt (bt hl l) (bel1 w4 (.cells #[.int .i64 o, .int .i64 fm, .int .i64 fi, .int .i64 tm, .int .i64 ti] 23))
  obtain ⟨⟨a0, a1, a2, a3, a4⟩, -, -⟩ := ((hA.later l).later (bel1 w4 (.cells #[.int .i64 o, .int .i64 fm, .int .i64 fi, .int .i64 tm, .int .i64 ti] 23))).five
  obtain ⟨⟨x0, x1, x2, x3, x4⟩, -, -⟩ := ((hx.later l).later (bel1 w4 (.cells #[.int .i64 o, .int .i64 fm, .int .i64 fi, .int .i64 tm, .int .i64 ti] 23))).five
  clear hA hx l
  generalize w3.heap.size = b3 at *
  go_wp2_with fail
  refine (dec_n g _ hs).mono ?_
  rintro e w8 ⟨rfl, l⟩
  have hl := bt (bt hl l) (bel1 w8 (.cells #[.int .i64 0, .int .i64 0, .int .i64 0, .int .i64 0, .int .i64 0] 23))
  go_wp2
  go_ret
  exact ⟨rfl, hl⟩
set_option maxRecDepth 100000 in
set_option maxHeartbeats 4000000 in
theorem walk_tgtn (o fm fi tm ti : Int) (m : ByteArray) (zm : m.size ≤ 140737488351232) (s : ByteArray) (hs : s.size ≤ maxLen) (w : World) (h : mayA o fm fi tm ti = true) (q : 18 < m.size) (g : decA s = false) :
    Calls Try.prog 6 #[.agg #[.int .i64 o, .int .i64 fm, .int .i64 fi, .int .i64 tm, .int .i64 ti], .string m, .string s] w fun e w' => e = .returned (.bool true) ∧ Below w.heap.size w w' := by
  have hA := At.box w #[.int .i64 o, .int .i64 fm, .int .i64 fi, .int .i64 tm, .int .i64 ti] 23
  have hl := bel1 w (.cells #[.int .i64 o, .int .i64 fm, .int .i64 fi, .int .i64 tm, .int .i64 ti] 23)
  have hsm := hs
  unfold maxLen at hsm
  go_enter Try.func6, Try.ntmps6
  go_wp2_with fail
  refine (works_any _).mono ?_
  rintro e w1 ⟨rfl, l⟩
  have hl := bt hl l
  have hA := hA.later l
  obtain ⟨⟨a0, a1, a2, a3, a4⟩, -, -⟩ := hA.five
  clear l
  go_wp2_with fail
  refine (enc_y h _).mono ?_
  rintro e w2 ⟨rfl, l⟩
  clear a0 a1 a2 a3 a4
  have hl := bt hl l
  have hA := hA.later l
  have ze := encA_size o fm fi tm ti
  go_wp2_with fail
  refine (dec_e h _).mono ?_
  rintro e w3 ⟨rfl, l⟩
  have hl := bt (bt hl l) (bel1 w3 (.cells #[.int .i64 o, .int .i64 fm, .int .i64 fi, .int .i64 tm, .int .i64 ti] 23))
  have hA := (hA.later l).later (bel1 w3 (.cells #[.int .i64 o, .int .i64 fm, .int .i64 fi, .int .i64 tm, .int .i64 ti] 23))
  have hx := At.box w3 #[.int .i64 o, .int .i64 fm, .int .i64 fi, .int .i64 tm, .int .i64 ti] 23
  go_wp2_with fail
  refine (dec_en h q zm _).mono ?_
  rintro e w4 ⟨rfl, l⟩
  have hl := bt (bt hl l) (bel1 w4 (.cells #[.int .i64 0, .int .i64 0, .int .i64 0, .int .i64 0, .int .i64 0] 23))
  obtain ⟨⟨a0, a1, a2, a3, a4⟩, -, -⟩ := ((hA.later l).later (bel1 w4 (.cells #[.int .i64 0, .int .i64 0, .int .i64 0, .int .i64 0, .int .i64 0] 23))).five
  obtain ⟨⟨x0, x1, x2, x3, x4⟩, -, -⟩ := ((hx.later l).later (bel1 w4 (.cells #[.int .i64 0, .int .i64 0, .int .i64 0, .int .i64 0, .int .i64 0] 23))).five
  clear hA hx l
  generalize w3.heap.size = b3 at *
  go_wp2_with fail
  refine (dec_n g _ hs).mono ?_
  rintro e w8 ⟨rfl, l⟩
  have hl := bt (bt hl l) (bel1 w8 (.cells #[.int .i64 0, .int .i64 0, .int .i64 0, .int .i64 0, .int .i64 0] 23))
  go_wp2
  go_ret
  exact ⟨rfl, hl⟩
theorem walk (o : Int) (_ : (Lit.int .i64 o).wf = true) (fm : Int) (_ : (Lit.int .i64 fm).wf = true) (fi : Int) (_ : (Lit.int .i64 fi).wf = true) (tm : Int) (_ : (Lit.int .i64 tm).wf = true) (ti : Int) (_ : (Lit.int .i64 ti).wf = true)
    (m : ByteArray) (_ : m.size ≤ maxLen) (zm : m.size ≤ 140737488351232) (s : ByteArray) (hs : s.size ≤ maxLen) (_ : s.size ≤ 140737488351232) (w : World) :
    Calls Try.prog 6 #[.agg #[.int .i64 o, .int .i64 fm, .int .i64 fi, .int .i64 tm, .int .i64 ti], .string m, .string s] w fun e w' => e = .returned (.bool true) ∧ Below w.heap.size w w' := by
  rcases Bool.eq_false_or_eq_true (decA s) with g | g <;> rcases Bool.eq_false_or_eq_true (mayA o fm fi tm ti) with h | h
  · by_cases q : m.size ≤ 18
    · exact walk_tley o fm fi tm ti m zm s hs w h q g
    · exact walk_tgty o fm fi tm ti m zm s hs w h (by omega) g
  · exact walk_fy o fm fi tm ti m zm s hs w h g
  · by_cases q : m.size ≤ 18
    · exact walk_tlen o fm fi tm ti m zm s hs w h q g
    · exact walk_tgtn o fm fi tm ti m zm s hs w h (by omega) g
  · exact walk_fn o fm fi tm ti m zm s hs w h g

set_option maxRecDepth 100000 in
theorem lifted (os : Os) (started : os.Started) (H : Type) (enc : TypeId × Value → H) :
    ReturnsInHanded {} Try.checked os 6 .any (Rows.arpBackSpec.pre6 enc Try.prog Try.f6 Rows.arpBackRow.domain false) (Rows.arpBackSpec.post enc Try.prog Try.f6 false true false false) := by
  refine returnsInHanded_of_change_sized (C := Try.checked) own started (by kernel_rfl) Try.func6
    (ChangeSpec.witness6 (enc := enc) (C := Try.checked) false ⟨#[], #[.agg #[.int .i64 0, .int .i64 0, .int .i64 0, .int .i64 0, .int .i64 0], .string ByteArray.empty, .string ByteArray.empty], []⟩ 8 (by kernel_rfl) (by kernel_rfl) (by kernel_rfl) (by kernel_rfl)) ?_
  intro W base args ds gs before hval0 hW hcnd hsz0 _
  have hsz : (DataW.weightsEach Try.prog (Try.f6.params.toList ++ Rows.arpBackSpec.plain.varTypes Try.prog) (ds ++ gs)).all (· ≤ reachBytes) = true := hsz0
  have hval : ∀ (j : Nat) t v, Try.f6.params[j]? = some t → args[j]? = some v → Value.okWide Try.prog W .any base t v := hval0
  have hW' := hW
  obtain ⟨p, q, hA0, hV, rfl, hfz, hnd⟩ := hW
  have hA : DataW.TrodAll enc Try.prog W 0 (fun _ => true) true Try.f6.params.toList args.toList ds p := hA0
  rw [Try.params6] at hA hval hsz
  obtain ⟨v0, vs0, d0, ds0, p0, q0, hargs, rfl, rfl, h0, r0⟩ := trodAll_cons hA
  obtain ⟨v1, vs1, d1, ds1, p1, q1, rfl, rfl, rfl, h1, r1⟩ := trodAll_cons r0
  obtain ⟨v2, vs2, d2, ds2, p2, q2, rfl, rfl, rfl, h2, r2⟩ := trodAll_cons r1
  obtain ⟨rfl, rfl, rfl⟩ := trodAll_nil r2
  obtain rfl : args = #[v0, v1, v2] := by cases args; simp_all
  obtain ⟨rfl, rfl⟩ := trodVars_none hV
  have k0 := h0
  have lt0 : ∀ x ∈ p0, x.block < W.heap.size := by obtain ⟨m, hm⟩ := k0; exact DataW.trod_lt m _ _ _ hm
  have k1 := h1
  have lt1 : ∀ x ∈ p1, x.block < W.heap.size := by obtain ⟨m, hm⟩ := k1; exact DataW.trod_lt m _ _ _ hm
  have k2 := h2
  have lt2 : ∀ x ∈ p2, x.block < W.heap.size := by obtain ⟨m, hm⟩ := k2; exact DataW.trod_lt m _ _ _ hm
  obtain ⟨f0_0, f0_1, f0_2, f0_3, f0_4, rfl, e0_0, e0_1, e0_2, e0_3, e0_4⟩ := open23 (hval 0 23 v0 rfl rfl) h0
  obtain ⟨a1, rfl, e1, -, w1⟩ := open_string Try.underlying9 (hval 1 9 v1 rfl rfl) h1
  have z1 : a1.size ≤ 140737488351232 := by
    have := sized_string hsz (j := 1) (t := 9) rfl (by rw [e1]; rfl)
    simp only [reachBytes] at this
    simpa using this
  obtain ⟨a2, rfl, e2, -, w2⟩ := open_string Try.underlying9 (hval 2 9 v2 rfl rfl) h2
  have z2 : a2.size ≤ 140737488351232 := by
    have := sized_string hsz (j := 2) (t := 9) rfl (by rw [e2]; rfl)
    simp only [reachBytes] at this
    simpa using this
  clear hA0 hval0
  refine (walk f0_0 e0_0 f0_1 e0_1 f0_2 e0_2 f0_3 e0_3 f0_4 e0_4 a1 w1 z1 a2 w2 z2 W ).mono fun e W' ⟨he, bel⟩ => ?_
  subst he
  exact ⟨_, rfl, _, _, _, [], _, [], hW', trodAll_mk1 (shut_bool Try.underlying4 _), (trodAll_cons_mk (Below.trod laidOut (by kernel_rfl) (of_decide_eq_true (by kernel_rfl)) k0 bel lt0) (trodAll_cons_mk (Below.trod laidOut (by kernel_rfl) (of_decide_eq_true (by kernel_rfl)) k1 bel lt1) (trodAll_cons_mk (Below.trod laidOut (by kernel_rfl) (of_decide_eq_true (by kernel_rfl)) k2 bel lt2) trodAll_mk0))), rfl, bel.frame _, fun h => by cases h⟩

theorem over : Rows.arpBackRow.holds Try.pinned (OpenSpec.ofChange Rows.arpBackSpec) :=
  OpenClaim.holds_of_wide 6 Try.f6 rfl rfl rfl rfl rfl rfl rfl ⟨rfl, rfl, rfl, rfl, rfl⟩ rfl rfl rfl rfl rfl (by kernel_rfl) Try.func6 (by kernel_rfl)
    (of_decide_eq_true (by kernel_rfl)) (by unfold Func.isWrapper; first | (rw [if_pos (by decide +kernel)]; kernel_rfl) | (rw [if_neg (by decide +kernel)]; exact ⟨rfl, rfl⟩))
    (fun os started H enc _ => lifted os started H enc)

end Go.Proofs.Ythffkmlihnfoeaa.arpBack
namespace Go.Proofs.Ythffkmlihnfoeaa
theorem arpBack_holds : Rows.ArpBackSaid := arpBack.over
end Go.Proofs.Ythffkmlihnfoeaa
