/- Questions, answers and claims by ARP, of any packet and any numbers, are those of the document. -/
import Derived.Test.YthffkmlihnfoeaaRows
import Derived.Test.YthffkmlihnfoeaaAsets
import Derived.WalkKit
import Derived.ProofKit
import Derived.OpenShut
import Derived.ShutString
import Derived.ChangeOld
import Derived.Below
import Derived.Carry
import Derived.SizedLaws
import Derived.Deep.Fields
namespace Go.Proofs.Ythffkmlihnfoeaa.arpMakes
open Go.ChangeShapes Go.WideShapes Go.ChangeAt Go.RowKit
open Go.ChangeMaps (open_string)
set_option linter.unusedVariables false

theorem own : ownKnob Try.prog.godebug = none := by kernel_rfl
theorem laidOut : laidOutB Try.prog = true := by kernel_rfl

theorem open_fields {H : Type} {enc : TypeId × Value → H} {P : Program} {w : World} {base : Nat} {spare : Nat → Bool} {held : Bool} {r : Reach} {b0 : Nat} {t : TypeId} {fs : Array Field} {v : Value} {d : DataW H} {p : List MemPlace} (hs : P.underlying t = some (.struct fs)) (hone : Go.Deep.oneCellFields P fs = true) (hC : P.cellsOf t = fs.size)
    (hv : Value.okWide P w r b0 t v) (h : DataW.Trod enc P w base spare held t v d p) :
    ∃ cs : Array Value, v = .agg cs ∧ cs.size = fs.size ∧ ∀ (i : Nat) (f : Field), fs[i]? = some f → ∃ n x, DataW.trod enc P w base spare held n f.type ((cs.toList.drop i).take 1) = some x := by
  obtain ⟨cs, rfl, hsz⟩ := okWide_struct hs hv
  obtain ⟨fuel, hf⟩ := h
  obtain ⟨xs, n, _, hx, hl, hlen, hfs⟩ := DataW.trod_struct hs hf
  refine ⟨cs, rfl, hsz.trans hC, fun i f hi => ?_⟩
  obtain ⟨o1, k1⟩ := Go.Deep.hone_of hone i f hi
  have := hfs i f hi
  have hlt : i < xs.length := by rw [hlen]; exact (Array.getElem?_eq_some_iff.1 hi).1
  rw [o1, k1, List.getElem?_eq_getElem hlt] at this
  exact ⟨n, _, by simpa [Value.cells] using this⟩

theorem cells23 : Try.prog.cellsOf 23 = 5 := by kernel_rfl
theorem open23 {H : Type} {enc : TypeId × Value → H} {w : World} {base : Nat} {spare : Nat → Bool} {held : Bool} {r : Reach} {b0 : Nat} {v : Value} {d : DataW H} {p : List MemPlace} (hv : Value.okWide Try.prog w r b0 23 v) (h : DataW.Trod enc Try.prog w base spare held 23 v d p) :
    ∃ (f0 : Int) (f1 : Int) (f2 : Int) (f3 : Int) (f4 : Int), v = .agg #[.int .i64 f0, .int .i64 f1, .int .i64 f2, .int .i64 f3, .int .i64 f4] ∧ (Lit.int .i64 f0).wf = true ∧ (Lit.int .i64 f1).wf = true ∧ (Lit.int .i64 f2).wf = true ∧ (Lit.int .i64 f3).wf = true ∧ (Lit.int .i64 f4).wf = true := by
  obtain ⟨⟨l⟩, rfl, hz, hf⟩ := open_fields Try.underlying23 (by kernel_rfl) cells23 hv h
  have hz' : l.length = 5 := by simpa using hz
  match l, hz' with
  | [c0, c1, c2, c3, c4], _ =>
    obtain ⟨n0, x0, t0⟩ := hf 0 _ rfl
    obtain ⟨f0, q0, -, e0⟩ := DataW.trod_int Try.underlying3 t0
    have p0 : c0 = .int .i64 f0 := by simpa using q0
    obtain ⟨n1, x1, t1⟩ := hf 1 _ rfl
    obtain ⟨f1, q1, -, e1⟩ := DataW.trod_int Try.underlying3 t1
    have p1 : c1 = .int .i64 f1 := by simpa using q1
    obtain ⟨n2, x2, t2⟩ := hf 2 _ rfl
    obtain ⟨f2, q2, -, e2⟩ := DataW.trod_int Try.underlying3 t2
    have p2 : c2 = .int .i64 f2 := by simpa using q2
    obtain ⟨n3, x3, t3⟩ := hf 3 _ rfl
    obtain ⟨f3, q3, -, e3⟩ := DataW.trod_int Try.underlying3 t3
    have p3 : c3 = .int .i64 f3 := by simpa using q3
    obtain ⟨n4, x4, t4⟩ := hf 4 _ rfl
    obtain ⟨f4, q4, -, e4⟩ := DataW.trod_int Try.underlying3 t4
    have p4 : c4 = .int .i64 f4 := by simpa using q4
    subst p0 p1 p2 p3 p4
    exact ⟨f0, f1, f2, f3, f4, rfl, e0, e1, e2, e3, e4⟩

-- WALK
set_option maxRecDepth 100000 in
set_option maxHeartbeats 4000000 in
theorem walk_tyt (o fm fi tm ti mac ip : Int) (w : World) (h1 : mayA 1 mac ip 0 ti = true) (h2 : tellB o fm fi tm ti mac = true) (h3 : mayA 1 mac ip 0 ip = true) :
    Calls Try.prog 5 #[.agg #[.int .i64 o, .int .i64 fm, .int .i64 fi, .int .i64 tm, .int .i64 ti], .int .i64 mac, .int .i64 ip] w fun e w' => e = .returned (.bool true) ∧ Below w.heap.size w w' := by
  have hA := At.box w #[.int .i64 o, .int .i64 fm, .int .i64 fi, .int .i64 tm, .int .i64 ti] 23
  have hl := bel1 w (.cells #[.int .i64 o, .int .i64 fm, .int .i64 fi, .int .i64 tm, .int .i64 ti] 23)
  go_enter Try.func5, Try.ntmps5
  go_wp2_with fail
  refine (ask_t h1 _).mono ?_
  rintro e w1 ⟨rfl, l⟩
  have hl := bt (bt hl l) (bel1 w1 (.cells #[.int .i64 1, .int .i64 mac, .int .i64 ip, .int .i64 0, .int .i64 ti] 23))
  have s1 : w.heap.size ≤ w1.heap.size := (bt (bel1 w (.cells #[.int .i64 o, .int .i64 fm, .int .i64 fi, .int .i64 tm, .int .i64 ti] 23)) l).size
  have hA := (hA.later l).later (bel1 w1 (.cells #[.int .i64 1, .int .i64 mac, .int .i64 ip, .int .i64 0, .int .i64 ti] 23))
  have hx := At.box w1 #[.int .i64 1, .int .i64 mac, .int .i64 ip, .int .i64 0, .int .i64 ti] 23
  obtain ⟨⟨a0, a1, a2, a3, a4⟩, -, -⟩ := hA.five
  go_wp2_with fail
  refine (rask_t h1 _).mono ?_
  rintro e w2 ⟨rfl, l⟩
  clear a0 a1 a2 a3 a4
  have s2 : w.heap.size ≤ w2.heap.size := (bt hl l).size
  have hl := bt (bt hl l) (bel1 w2 (.cells #[.int .i64 1, .int .i64 mac, .int .i64 ip, .int .i64 0, .int .i64 ti] 23))
  have hA := (hA.later l).later (bel1 w2 (.cells #[.int .i64 1, .int .i64 mac, .int .i64 ip, .int .i64 0, .int .i64 ti] 23))
  have hx := (hx.later l).later (bel1 w2 (.cells #[.int .i64 1, .int .i64 mac, .int .i64 ip, .int .i64 0, .int .i64 ti] 23))
  have hy := At.box w2 #[.int .i64 1, .int .i64 mac, .int .i64 ip, .int .i64 0, .int .i64 ti] 23
  have n1 : w1.heap.size ≠ w2.heap.size := by have := l.size; rw [World.size_alloc] at this; omega
  obtain ⟨⟨a0, a1, a2, a3, a4⟩, -, -⟩ := hA.five
  go_wp2_with fail
  refine (tell_y h2 _).mono ?_
  rintro e w3 ⟨rfl, l⟩
  clear a0 a1 a2 a3 a4
  have hl := bt (bt hl l) (bel1 w3 (.cells #[.int .i64 2, .int .i64 mac, .int .i64 ti, .int .i64 fm, .int .i64 fi] 23))
  have hA := (hA.later l).later (bel1 w3 (.cells #[.int .i64 2, .int .i64 mac, .int .i64 ti, .int .i64 fm, .int .i64 fi] 23))
  have hx := (hx.later l).later (bel1 w3 (.cells #[.int .i64 2, .int .i64 mac, .int .i64 ti, .int .i64 fm, .int .i64 fi] 23))
  have hy := (hy.later l).later (bel1 w3 (.cells #[.int .i64 2, .int .i64 mac, .int .i64 ti, .int .i64 fm, .int .i64 fi] 23))
  have hp := At.box w3 #[.int .i64 2, .int .i64 mac, .int .i64 ti, .int .i64 fm, .int .i64 fi] 23
  obtain ⟨⟨a0, a1, a2, a3, a4⟩, -, -⟩ := hA.five
  go_wp2_with fail
  refine (rtell_y h2 _).mono ?_
  rintro e w4 ⟨rfl, l⟩
  clear a0 a1 a2 a3 a4
  have hl := bt (bt hl l) (bel1 w4 (.cells #[.int .i64 2, .int .i64 mac, .int .i64 ti, .int .i64 fm, .int .i64 fi] 23))
  have hx := (hx.later l).later (bel1 w4 (.cells #[.int .i64 2, .int .i64 mac, .int .i64 ti, .int .i64 fm, .int .i64 fi] 23))
  have hy := (hy.later l).later (bel1 w4 (.cells #[.int .i64 2, .int .i64 mac, .int .i64 ti, .int .i64 fm, .int .i64 fi] 23))
  have hp := (hp.later l).later (bel1 w4 (.cells #[.int .i64 2, .int .i64 mac, .int .i64 ti, .int .i64 fm, .int .i64 fi] 23))
  obtain ⟨⟨x0, x1, x2, x3, x4⟩, -, -⟩ := hx.five
  obtain ⟨⟨y0, y1, y2, y3, y4⟩, -, -⟩ := hy.five
  obtain ⟨⟨p0, p1, p2, p3, p4⟩, -, -⟩ := hp.five
  go_wp2_with fail
  refine (works_any _).mono ?_
  rintro e w5 ⟨rfl, l⟩
  clear x0 x1 x2 x3 x4 y0 y1 y2 y3 y4 p0 p1 p2 p3 p4
  have hl := bt hl l
  have hx := hx.later l
  have hy := hy.later l
  clear hA hp l
  generalize w1.heap.size = b1 at *
  generalize w2.heap.size = b2 at *
  go_wp2_with fail
  refine (clm_t h3 _).mono ?_
  rintro e w6 ⟨rfl, l⟩
  have hl := bt hl l
  have hx := hx.later l
  have hy := hy.later l
  have hx' := hx
  obtain ⟨⟨x0, x1, x2, x3, x4⟩, ⟨f0, f1, f2, f3, f4⟩, -⟩ := hx'.five
  have hl := below5 hl s1 (.int .i64 1) (.int .i64 mac) (.int .i64 ip) (.int .i64 0) (.int .i64 ip)
  have hx := hx.set5 (.int .i64 1) (.int .i64 mac) (.int .i64 ip) (.int .i64 0) (.int .i64 ip)
  have hy := hy.keep5 n1 (.int .i64 1) (.int .i64 mac) (.int .i64 ip) (.int .i64 0) (.int .i64 ip)
  clear l
  go_wp2_with fail
  refine (rclm_t h3 _).mono ?_
  rintro e w7 ⟨rfl, l⟩
  clear x0 x1 x2 x3 x4 f0 f1 f2 f3 f4 hx'
  have hl := bt hl l
  have hx := hx.later l
  have hy := hy.later l
  obtain ⟨⟨y0, y1, y2, y3, y4⟩, ⟨f0, f1, f2, f3, f4⟩, -⟩ := hy.five
  have hl := below5 hl s2 (.int .i64 1) (.int .i64 mac) (.int .i64 ip) (.int .i64 0) (.int .i64 ip)
  have hx := hx.keep5 (Ne.symm n1) (.int .i64 1) (.int .i64 mac) (.int .i64 ip) (.int .i64 0) (.int .i64 ip)
  have hy := hy.set5 (.int .i64 1) (.int .i64 mac) (.int .i64 ip) (.int .i64 0) (.int .i64 ip)
  obtain ⟨⟨x0, x1, x2, x3, x4⟩, -, -⟩ := hx.five
  obtain ⟨⟨z0, z1, z2, z3, z4⟩, -, -⟩ := hy.five
  go_wp2
  go_ret
  exact ⟨rfl, hl⟩
set_option maxRecDepth 100000 in
set_option maxHeartbeats 4000000 in
theorem walk_tyf (o fm fi tm ti mac ip : Int) (w : World) (h1 : mayA 1 mac ip 0 ti = true) (h2 : tellB o fm fi tm ti mac = true) (h3 : mayA 1 mac ip 0 ip = false) :
    Calls Try.prog 5 #[.agg #[.int .i64 o, .int .i64 fm, .int .i64 fi, .int .i64 tm, .int .i64 ti], .int .i64 mac, .int .i64 ip] w fun e w' => e = .returned (.bool true) ∧ Below w.heap.size w w' := by
  have hA := At.box w #[.int .i64 o, .int .i64 fm, .int .i64 fi, .int .i64 tm, .int .i64 ti] 23
  have hl := bel1 w (.cells #[.int .i64 o, .int .i64 fm, .int .i64 fi, .int .i64 tm, .int .i64 ti] 23)
  go_enter Try.func5, Try.ntmps5
  go_wp2_with fail
  refine (ask_t h1 _).mono ?_
  rintro e w1 ⟨rfl, l⟩
  have hl := bt (bt hl l) (bel1 w1 (.cells #[.int .i64 1, .int .i64 mac, .int .i64 ip, .int .i64 0, .int .i64 ti] 23))
  have s1 : w.heap.size ≤ w1.heap.size := (bt (bel1 w (.cells #[.int .i64 o, .int .i64 fm, .int .i64 fi, .int .i64 tm, .int .i64 ti] 23)) l).size
  have hA := (hA.later l).later (bel1 w1 (.cells #[.int .i64 1, .int .i64 mac, .int .i64 ip, .int .i64 0, .int .i64 ti] 23))
  have hx := At.box w1 #[.int .i64 1, .int .i64 mac, .int .i64 ip, .int .i64 0, .int .i64 ti] 23
  obtain ⟨⟨a0, a1, a2, a3, a4⟩, -, -⟩ := hA.five
  go_wp2_with fail
  refine (rask_t h1 _).mono ?_
  rintro e w2 ⟨rfl, l⟩
  clear a0 a1 a2 a3 a4
  have s2 : w.heap.size ≤ w2.heap.size := (bt hl l).size
  have hl := bt (bt hl l) (bel1 w2 (.cells #[.int .i64 1, .int .i64 mac, .int .i64 ip, .int .i64 0, .int .i64 ti] 23))
  have hA := (hA.later l).later (bel1 w2 (.cells #[.int .i64 1, .int .i64 mac, .int .i64 ip, .int .i64 0, .int .i64 ti] 23))
  have hx := (hx.later l).later (bel1 w2 (.cells #[.int .i64 1, .int .i64 mac, .int .i64 ip, .int .i64 0, .int .i64 ti] 23))
  have hy := At.box w2 #[.int .i64 1, .int .i64 mac, .int .i64 ip, .int .i64 0, .int .i64 ti] 23
  have n1 : w1.heap.size ≠ w2.heap.size := by have := l.size; rw [World.size_alloc] at this; omega
  obtain ⟨⟨a0, a1, a2, a3, a4⟩, -, -⟩ := hA.five
  go_wp2_with fail
  refine (tell_y h2 _).mono ?_
  rintro e w3 ⟨rfl, l⟩
  clear a0 a1 a2 a3 a4
  have hl := bt (bt hl l) (bel1 w3 (.cells #[.int .i64 2, .int .i64 mac, .int .i64 ti, .int .i64 fm, .int .i64 fi] 23))
  have hA := (hA.later l).later (bel1 w3 (.cells #[.int .i64 2, .int .i64 mac, .int .i64 ti, .int .i64 fm, .int .i64 fi] 23))
  have hx := (hx.later l).later (bel1 w3 (.cells #[.int .i64 2, .int .i64 mac, .int .i64 ti, .int .i64 fm, .int .i64 fi] 23))
  have hy := (hy.later l).later (bel1 w3 (.cells #[.int .i64 2, .int .i64 mac, .int .i64 ti, .int .i64 fm, .int .i64 fi] 23))
  have hp := At.box w3 #[.int .i64 2, .int .i64 mac, .int .i64 ti, .int .i64 fm, .int .i64 fi] 23
  obtain ⟨⟨a0, a1, a2, a3, a4⟩, -, -⟩ := hA.five
  go_wp2_with fail
  refine (rtell_y h2 _).mono ?_
  rintro e w4 ⟨rfl, l⟩
  clear a0 a1 a2 a3 a4
  have hl := bt (bt hl l) (bel1 w4 (.cells #[.int .i64 2, .int .i64 mac, .int .i64 ti, .int .i64 fm, .int .i64 fi] 23))
  have hx := (hx.later l).later (bel1 w4 (.cells #[.int .i64 2, .int .i64 mac, .int .i64 ti, .int .i64 fm, .int .i64 fi] 23))
  have hy := (hy.later l).later (bel1 w4 (.cells #[.int .i64 2, .int .i64 mac, .int .i64 ti, .int .i64 fm, .int .i64 fi] 23))
  have hp := (hp.later l).later (bel1 w4 (.cells #[.int .i64 2, .int .i64 mac, .int .i64 ti, .int .i64 fm, .int .i64 fi] 23))
  obtain ⟨⟨x0, x1, x2, x3, x4⟩, -, -⟩ := hx.five
  obtain ⟨⟨y0, y1, y2, y3, y4⟩, -, -⟩ := hy.five
  obtain ⟨⟨p0, p1, p2, p3, p4⟩, -, -⟩ := hp.five
  go_wp2_with fail
  refine (works_any _).mono ?_
  rintro e w5 ⟨rfl, l⟩
  clear x0 x1 x2 x3 x4 y0 y1 y2 y3 y4 p0 p1 p2 p3 p4
  have hl := bt hl l
  have hx := hx.later l
  have hy := hy.later l
  clear hA hp l
  generalize w1.heap.size = b1 at *
  generalize w2.heap.size = b2 at *
  go_wp2_with fail
  refine (clm_f h3 _).mono ?_
  rintro e w6 ⟨rfl, l⟩
  have hl := bt hl l
  have hx := hx.later l
  have hy := hy.later l
  have hx' := hx
  obtain ⟨⟨x0, x1, x2, x3, x4⟩, ⟨f0, f1, f2, f3, f4⟩, -⟩ := hx'.five
  have hl := below5 hl s1 (.int .i64 0) (.int .i64 0) (.int .i64 0) (.int .i64 0) (.int .i64 0)
  have hx := hx.set5 (.int .i64 0) (.int .i64 0) (.int .i64 0) (.int .i64 0) (.int .i64 0)
  have hy := hy.keep5 n1 (.int .i64 0) (.int .i64 0) (.int .i64 0) (.int .i64 0) (.int .i64 0)
  clear l
  go_wp2_with fail
  refine (rclm_f h3 _).mono ?_
  rintro e w7 ⟨rfl, l⟩
  clear x0 x1 x2 x3 x4 f0 f1 f2 f3 f4 hx'
  have hl := bt hl l
  have hx := hx.later l
  have hy := hy.later l
  obtain ⟨⟨y0, y1, y2, y3, y4⟩, ⟨f0, f1, f2, f3, f4⟩, -⟩ := hy.five
  have hl := below5 hl s2 (.int .i64 0) (.int .i64 0) (.int .i64 0) (.int .i64 0) (.int .i64 0)
  have hx := hx.keep5 (Ne.symm n1) (.int .i64 0) (.int .i64 0) (.int .i64 0) (.int .i64 0) (.int .i64 0)
  have hy := hy.set5 (.int .i64 0) (.int .i64 0) (.int .i64 0) (.int .i64 0) (.int .i64 0)
  obtain ⟨⟨x0, x1, x2, x3, x4⟩, -, -⟩ := hx.five
  obtain ⟨⟨z0, z1, z2, z3, z4⟩, -, -⟩ := hy.five
  go_wp2
  go_ret
  exact ⟨rfl, hl⟩
set_option maxRecDepth 100000 in
set_option maxHeartbeats 4000000 in
theorem walk_tft (o fm fi tm ti mac ip : Int) (w : World) (h1 : mayA 1 mac ip 0 ti = true) (h2 : tellB o fm fi tm ti mac = false) (h3 : mayA 1 mac ip 0 ip = true) :
    Calls Try.prog 5 #[.agg #[.int .i64 o, .int .i64 fm, .int .i64 fi, .int .i64 tm, .int .i64 ti], .int .i64 mac, .int .i64 ip] w fun e w' => e = .returned (.bool true) ∧ Below w.heap.size w w' := by
  have hA := At.box w #[.int .i64 o, .int .i64 fm, .int .i64 fi, .int .i64 tm, .int .i64 ti] 23
  have hl := bel1 w (.cells #[.int .i64 o, .int .i64 fm, .int .i64 fi, .int .i64 tm, .int .i64 ti] 23)
  go_enter Try.func5, Try.ntmps5
  go_wp2_with fail
  refine (ask_t h1 _).mono ?_
  rintro e w1 ⟨rfl, l⟩
  have hl := bt (bt hl l) (bel1 w1 (.cells #[.int .i64 1, .int .i64 mac, .int .i64 ip, .int .i64 0, .int .i64 ti] 23))
  have s1 : w.heap.size ≤ w1.heap.size := (bt (bel1 w (.cells #[.int .i64 o, .int .i64 fm, .int .i64 fi, .int .i64 tm, .int .i64 ti] 23)) l).size
  have hA := (hA.later l).later (bel1 w1 (.cells #[.int .i64 1, .int .i64 mac, .int .i64 ip, .int .i64 0, .int .i64 ti] 23))
  have hx := At.box w1 #[.int .i64 1, .int .i64 mac, .int .i64 ip, .int .i64 0, .int .i64 ti] 23
  obtain ⟨⟨a0, a1, a2, a3, a4⟩, -, -⟩ := hA.five
  go_wp2_with fail
  refine (rask_t h1 _).mono ?_
  rintro e w2 ⟨rfl, l⟩
  clear a0 a1 a2 a3 a4
  have s2 : w.heap.size ≤ w2.heap.size := (bt hl l).size
  have hl := bt (bt hl l) (bel1 w2 (.cells #[.int .i64 1, .int .i64 mac, .int .i64 ip, .int .i64 0, .int .i64 ti] 23))
  have hA := (hA.later l).later (bel1 w2 (.cells #[.int .i64 1, .int .i64 mac, .int .i64 ip, .int .i64 0, .int .i64 ti] 23))
  have hx := (hx.later l).later (bel1 w2 (.cells #[.int .i64 1, .int .i64 mac, .int .i64 ip, .int .i64 0, .int .i64 ti] 23))
  have hy := At.box w2 #[.int .i64 1, .int .i64 mac, .int .i64 ip, .int .i64 0, .int .i64 ti] 23
  have n1 : w1.heap.size ≠ w2.heap.size := by have := l.size; rw [World.size_alloc] at this; omega
  obtain ⟨⟨a0, a1, a2, a3, a4⟩, -, -⟩ := hA.five
  go_wp2_with fail
  refine (tell_f h2 _).mono ?_
  rintro e w3 ⟨rfl, l⟩
  clear a0 a1 a2 a3 a4
  have hl := bt (bt hl l) (bel1 w3 (.cells #[.int .i64 0, .int .i64 0, .int .i64 0, .int .i64 0, .int .i64 0] 23))
  have hA := (hA.later l).later (bel1 w3 (.cells #[.int .i64 0, .int .i64 0, .int .i64 0, .int .i64 0, .int .i64 0] 23))
  have hx := (hx.later l).later (bel1 w3 (.cells #[.int .i64 0, .int .i64 0, .int .i64 0, .int .i64 0, .int .i64 0] 23))
  have hy := (hy.later l).later (bel1 w3 (.cells #[.int .i64 0, .int .i64 0, .int .i64 0, .int .i64 0, .int .i64 0] 23))
  have hp := At.box w3 #[.int .i64 0, .int .i64 0, .int .i64 0, .int .i64 0, .int .i64 0] 23
  obtain ⟨⟨a0, a1, a2, a3, a4⟩, -, -⟩ := hA.five
  go_wp2_with fail
  refine (rtell_f h2 _).mono ?_
  rintro e w4 ⟨rfl, l⟩
  clear a0 a1 a2 a3 a4
  have hl := bt (bt hl l) (bel1 w4 (.cells #[.int .i64 0, .int .i64 0, .int .i64 0, .int .i64 0, .int .i64 0] 23))
  have hx := (hx.later l).later (bel1 w4 (.cells #[.int .i64 0, .int .i64 0, .int .i64 0, .int .i64 0, .int .i64 0] 23))
  have hy := (hy.later l).later (bel1 w4 (.cells #[.int .i64 0, .int .i64 0, .int .i64 0, .int .i64 0, .int .i64 0] 23))
  have hp := (hp.later l).later (bel1 w4 (.cells #[.int .i64 0, .int .i64 0, .int .i64 0, .int .i64 0, .int .i64 0] 23))
  obtain ⟨⟨x0, x1, x2, x3, x4⟩, -, -⟩ := hx.five
  obtain ⟨⟨y0, y1, y2, y3, y4⟩, -, -⟩ := hy.five
  obtain ⟨⟨p0, p1, p2, p3, p4⟩, -, -⟩ := hp.five
  go_wp2_with fail
  refine (works_any _).mono ?_
  rintro e w5 ⟨rfl, l⟩
  clear x0 x1 x2 x3 x4 y0 y1 y2 y3 y4 p0 p1 p2 p3 p4
  have hl := bt hl l
  have hx := hx.later l
  have hy := hy.later l
  clear hA hp l
  generalize w1.heap.size = b1 at *
  generalize w2.heap.size = b2 at *
  go_wp2_with fail
  refine (clm_t h3 _).mono ?_
  rintro e w6 ⟨rfl, l⟩
  have hl := bt hl l
  have hx := hx.later l
  have hy := hy.later l
  have hx' := hx
  obtain ⟨⟨x0, x1, x2, x3, x4⟩, ⟨f0, f1, f2, f3, f4⟩, -⟩ := hx'.five
  have hl := below5 hl s1 (.int .i64 1) (.int .i64 mac) (.int .i64 ip) (.int .i64 0) (.int .i64 ip)
  have hx := hx.set5 (.int .i64 1) (.int .i64 mac) (.int .i64 ip) (.int .i64 0) (.int .i64 ip)
  have hy := hy.keep5 n1 (.int .i64 1) (.int .i64 mac) (.int .i64 ip) (.int .i64 0) (.int .i64 ip)
  clear l
  go_wp2_with fail
  refine (rclm_t h3 _).mono ?_
  rintro e w7 ⟨rfl, l⟩
  clear x0 x1 x2 x3 x4 f0 f1 f2 f3 f4 hx'
  have hl := bt hl l
  have hx := hx.later l
  have hy := hy.later l
  obtain ⟨⟨y0, y1, y2, y3, y4⟩, ⟨f0, f1, f2, f3, f4⟩, -⟩ := hy.five
  have hl := below5 hl s2 (.int .i64 1) (.int .i64 mac) (.int .i64 ip) (.int .i64 0) (.int .i64 ip)
  have hx := hx.keep5 (Ne.symm n1) (.int .i64 1) (.int .i64 mac) (.int .i64 ip) (.int .i64 0) (.int .i64 ip)
  have hy := hy.set5 (.int .i64 1) (.int .i64 mac) (.int .i64 ip) (.int .i64 0) (.int .i64 ip)
  obtain ⟨⟨x0, x1, x2, x3, x4⟩, -, -⟩ := hx.five
  obtain ⟨⟨z0, z1, z2, z3, z4⟩, -, -⟩ := hy.five
  go_wp2
  go_ret
  exact ⟨rfl, hl⟩
set_option maxRecDepth 100000 in
set_option maxHeartbeats 4000000 in
theorem walk_tff (o fm fi tm ti mac ip : Int) (w : World) (h1 : mayA 1 mac ip 0 ti = true) (h2 : tellB o fm fi tm ti mac = false) (h3 : mayA 1 mac ip 0 ip = false) :
    Calls Try.prog 5 #[.agg #[.int .i64 o, .int .i64 fm, .int .i64 fi, .int .i64 tm, .int .i64 ti], .int .i64 mac, .int .i64 ip] w fun e w' => e = .returned (.bool true) ∧ Below w.heap.size w w' := by
  have hA := At.box w #[.int .i64 o, .int .i64 fm, .int .i64 fi, .int .i64 tm, .int .i64 ti] 23
  have hl := bel1 w (.cells #[.int .i64 o, .int .i64 fm, .int .i64 fi, .int .i64 tm, .int .i64 ti] 23)
  go_enter Try.func5, Try.ntmps5
  go_wp2_with fail
  refine (ask_t h1 _).mono ?_
  rintro e w1 ⟨rfl, l⟩
  have hl := bt (bt hl l) (bel1 w1 (.cells #[.int .i64 1, .int .i64 mac, .int .i64 ip, .int .i64 0, .int .i64 ti] 23))
  have s1 : w.heap.size ≤ w1.heap.size := (bt (bel1 w (.cells #[.int .i64 o, .int .i64 fm, .int .i64 fi, .int .i64 tm, .int .i64 ti] 23)) l).size
  have hA := (hA.later l).later (bel1 w1 (.cells #[.int .i64 1, .int .i64 mac, .int .i64 ip, .int .i64 0, .int .i64 ti] 23))
  have hx := At.box w1 #[.int .i64 1, .int .i64 mac, .int .i64 ip, .int .i64 0, .int .i64 ti] 23
  obtain ⟨⟨a0, a1, a2, a3, a4⟩, -, -⟩ := hA.five
  go_wp2_with fail
  refine (rask_t h1 _).mono ?_
  rintro e w2 ⟨rfl, l⟩
  clear a0 a1 a2 a3 a4
  have s2 : w.heap.size ≤ w2.heap.size := (bt hl l).size
  have hl := bt (bt hl l) (bel1 w2 (.cells #[.int .i64 1, .int .i64 mac, .int .i64 ip, .int .i64 0, .int .i64 ti] 23))
  have hA := (hA.later l).later (bel1 w2 (.cells #[.int .i64 1, .int .i64 mac, .int .i64 ip, .int .i64 0, .int .i64 ti] 23))
  have hx := (hx.later l).later (bel1 w2 (.cells #[.int .i64 1, .int .i64 mac, .int .i64 ip, .int .i64 0, .int .i64 ti] 23))
  have hy := At.box w2 #[.int .i64 1, .int .i64 mac, .int .i64 ip, .int .i64 0, .int .i64 ti] 23
  have n1 : w1.heap.size ≠ w2.heap.size := by have := l.size; rw [World.size_alloc] at this; omega
  obtain ⟨⟨a0, a1, a2, a3, a4⟩, -, -⟩ := hA.five
  go_wp2_with fail
  refine (tell_f h2 _).mono ?_
  rintro e w3 ⟨rfl, l⟩
  clear a0 a1 a2 a3 a4
  have hl := bt (bt hl l) (bel1 w3 (.cells #[.int .i64 0, .int .i64 0, .int .i64 0, .int .i64 0, .int .i64 0] 23))
  have hA := (hA.later l).later (bel1 w3 (.cells #[.int .i64 0, .int .i64 0, .int .i64 0, .int .i64 0, .int .i64 0] 23))
  have hx := (hx.later l).later (bel1 w3 (.cells #[.int .i64 0, .int .i64 0, .int .i64 0, .int .i64 0, .int .i64 0] 23))
  have hy := (hy.later l).later (bel1 w3 (.cells #[.int .i64 0, .int .i64 0, .int .i64 0, .int .i64 0, .int .i64 0] 23))
  have hp := At.box w3 #[.int .i64 0, .int .i64 0, .int .i64 0, .int .i64 0, .int .i64 0] 23
  obtain ⟨⟨a0, a1, a2, a3, a4⟩, -, -⟩ := hA.five
  go_wp2_with fail
  refine (rtell_f h2 _).mono ?_
  rintro e w4 ⟨rfl, l⟩
  clear a0 a1 a2 a3 a4
  have hl := bt (bt hl l) (bel1 w4 (.cells #[.int .i64 0, .int .i64 0, .int .i64 0, .int .i64 0, .int .i64 0] 23))
  have hx := (hx.later l).later (bel1 w4 (.cells #[.int .i64 0, .int .i64 0, .int .i64 0, .int .i64 0, .int .i64 0] 23))
  have hy := (hy.later l).later (bel1 w4 (.cells #[.int .i64 0, .int .i64 0, .int .i64 0, .int .i64 0, .int .i64 0] 23))
  have hp := (hp.later l).later (bel1 w4 (.cells #[.int .i64 0, .int .i64 0, .int .i64 0, .int .i64 0, .int .i64 0] 23))
  obtain ⟨⟨x0, x1, x2, x3, x4⟩, -, -⟩ := hx.five
  obtain ⟨⟨y0, y1, y2, y3, y4⟩, -, -⟩ := hy.five
  obtain ⟨⟨p0, p1, p2, p3, p4⟩, -, -⟩ := hp.five
  go_wp2_with fail
  refine (works_any _).mono ?_
  rintro e w5 ⟨rfl, l⟩
  clear x0 x1 x2 x3 x4 y0 y1 y2 y3 y4 p0 p1 p2 p3 p4
  have hl := bt hl l
  have hx := hx.later l
  have hy := hy.later l
  clear hA hp l
  generalize w1.heap.size = b1 at *
  generalize w2.heap.size = b2 at *
  go_wp2_with fail
  refine (clm_f h3 _).mono ?_
  rintro e w6 ⟨rfl, l⟩
  have hl := bt hl l
  have hx := hx.later l
  have hy := hy.later l
  have hx' := hx
  obtain ⟨⟨x0, x1, x2, x3, x4⟩, ⟨f0, f1, f2, f3, f4⟩, -⟩ := hx'.five
  have hl := below5 hl s1 (.int .i64 0) (.int .i64 0) (.int .i64 0) (.int .i64 0) (.int .i64 0)
  have hx := hx.set5 (.int .i64 0) (.int .i64 0) (.int .i64 0) (.int .i64 0) (.int .i64 0)
  have hy := hy.keep5 n1 (.int .i64 0) (.int .i64 0) (.int .i64 0) (.int .i64 0) (.int .i64 0)
  clear l
  go_wp2_with fail
  refine (rclm_f h3 _).mono ?_
  rintro e w7 ⟨rfl, l⟩
  clear x0 x1 x2 x3 x4 f0 f1 f2 f3 f4 hx'
  have hl := bt hl l
  have hx := hx.later l
  have hy := hy.later l
  obtain ⟨⟨y0, y1, y2, y3, y4⟩, ⟨f0, f1, f2, f3, f4⟩, -⟩ := hy.five
  have hl := below5 hl s2 (.int .i64 0) (.int .i64 0) (.int .i64 0) (.int .i64 0) (.int .i64 0)
  have hx := hx.keep5 (Ne.symm n1) (.int .i64 0) (.int .i64 0) (.int .i64 0) (.int .i64 0) (.int .i64 0)
  have hy := hy.set5 (.int .i64 0) (.int .i64 0) (.int .i64 0) (.int .i64 0) (.int .i64 0)
  obtain ⟨⟨x0, x1, x2, x3, x4⟩, -, -⟩ := hx.five
  obtain ⟨⟨z0, z1, z2, z3, z4⟩, -, -⟩ := hy.five
  go_wp2
  go_ret
  exact ⟨rfl, hl⟩
set_option maxRecDepth 100000 in
set_option maxHeartbeats 4000000 in
theorem walk_fyt (o fm fi tm ti mac ip : Int) (w : World) (h1 : mayA 1 mac ip 0 ti = false) (h2 : tellB o fm fi tm ti mac = true) (h3 : mayA 1 mac ip 0 ip = true) :
    Calls Try.prog 5 #[.agg #[.int .i64 o, .int .i64 fm, .int .i64 fi, .int .i64 tm, .int .i64 ti], .int .i64 mac, .int .i64 ip] w fun e w' => e = .returned (.bool true) ∧ Below w.heap.size w w' := by
  have hA := At.box w #[.int .i64 o, .int .i64 fm, .int .i64 fi, .int .i64 tm, .int .i64 ti] 23
  have hl := bel1 w (.cells #[.int .i64 o, .int .i64 fm, .int .i64 fi, .int .i64 tm, .int .i64 ti] 23)
  go_enter Try.func5, Try.ntmps5
  go_wp2_with fail
  refine (ask_f h1 _).mono ?_
  rintro e w1 ⟨rfl, l⟩
  have hl := bt (bt hl l) (bel1 w1 (.cells #[.int .i64 0, .int .i64 0, .int .i64 0, .int .i64 0, .int .i64 0] 23))
  have s1 : w.heap.size ≤ w1.heap.size := (bt (bel1 w (.cells #[.int .i64 o, .int .i64 fm, .int .i64 fi, .int .i64 tm, .int .i64 ti] 23)) l).size
  have hA := (hA.later l).later (bel1 w1 (.cells #[.int .i64 0, .int .i64 0, .int .i64 0, .int .i64 0, .int .i64 0] 23))
  have hx := At.box w1 #[.int .i64 0, .int .i64 0, .int .i64 0, .int .i64 0, .int .i64 0] 23
  obtain ⟨⟨a0, a1, a2, a3, a4⟩, -, -⟩ := hA.five
  go_wp2_with fail
  refine (rask_f h1 _).mono ?_
  rintro e w2 ⟨rfl, l⟩
  clear a0 a1 a2 a3 a4
  have s2 : w.heap.size ≤ w2.heap.size := (bt hl l).size
  have hl := bt (bt hl l) (bel1 w2 (.cells #[.int .i64 0, .int .i64 0, .int .i64 0, .int .i64 0, .int .i64 0] 23))
  have hA := (hA.later l).later (bel1 w2 (.cells #[.int .i64 0, .int .i64 0, .int .i64 0, .int .i64 0, .int .i64 0] 23))
  have hx := (hx.later l).later (bel1 w2 (.cells #[.int .i64 0, .int .i64 0, .int .i64 0, .int .i64 0, .int .i64 0] 23))
  have hy := At.box w2 #[.int .i64 0, .int .i64 0, .int .i64 0, .int .i64 0, .int .i64 0] 23
  have n1 : w1.heap.size ≠ w2.heap.size := by have := l.size; rw [World.size_alloc] at this; omega
  obtain ⟨⟨a0, a1, a2, a3, a4⟩, -, -⟩ := hA.five
  go_wp2_with fail
  refine (tell_y h2 _).mono ?_
  rintro e w3 ⟨rfl, l⟩
  clear a0 a1 a2 a3 a4
  have hl := bt (bt hl l) (bel1 w3 (.cells #[.int .i64 2, .int .i64 mac, .int .i64 ti, .int .i64 fm, .int .i64 fi] 23))
  have hA := (hA.later l).later (bel1 w3 (.cells #[.int .i64 2, .int .i64 mac, .int .i64 ti, .int .i64 fm, .int .i64 fi] 23))
  have hx := (hx.later l).later (bel1 w3 (.cells #[.int .i64 2, .int .i64 mac, .int .i64 ti, .int .i64 fm, .int .i64 fi] 23))
  have hy := (hy.later l).later (bel1 w3 (.cells #[.int .i64 2, .int .i64 mac, .int .i64 ti, .int .i64 fm, .int .i64 fi] 23))
  have hp := At.box w3 #[.int .i64 2, .int .i64 mac, .int .i64 ti, .int .i64 fm, .int .i64 fi] 23
  obtain ⟨⟨a0, a1, a2, a3, a4⟩, -, -⟩ := hA.five
  go_wp2_with fail
  refine (rtell_y h2 _).mono ?_
  rintro e w4 ⟨rfl, l⟩
  clear a0 a1 a2 a3 a4
  have hl := bt (bt hl l) (bel1 w4 (.cells #[.int .i64 2, .int .i64 mac, .int .i64 ti, .int .i64 fm, .int .i64 fi] 23))
  have hx := (hx.later l).later (bel1 w4 (.cells #[.int .i64 2, .int .i64 mac, .int .i64 ti, .int .i64 fm, .int .i64 fi] 23))
  have hy := (hy.later l).later (bel1 w4 (.cells #[.int .i64 2, .int .i64 mac, .int .i64 ti, .int .i64 fm, .int .i64 fi] 23))
  have hp := (hp.later l).later (bel1 w4 (.cells #[.int .i64 2, .int .i64 mac, .int .i64 ti, .int .i64 fm, .int .i64 fi] 23))
  obtain ⟨⟨x0, x1, x2, x3, x4⟩, -, -⟩ := hx.five
  obtain ⟨⟨y0, y1, y2, y3, y4⟩, -, -⟩ := hy.five
  obtain ⟨⟨p0, p1, p2, p3, p4⟩, -, -⟩ := hp.five
  go_wp2_with fail
  refine (works_any _).mono ?_
  rintro e w5 ⟨rfl, l⟩
  clear x0 x1 x2 x3 x4 y0 y1 y2 y3 y4 p0 p1 p2 p3 p4
  have hl := bt hl l
  have hx := hx.later l
  have hy := hy.later l
  clear hA hp l
  generalize w1.heap.size = b1 at *
  generalize w2.heap.size = b2 at *
  go_wp2_with fail
  refine (clm_t h3 _).mono ?_
  rintro e w6 ⟨rfl, l⟩
  have hl := bt hl l
  have hx := hx.later l
  have hy := hy.later l
  have hx' := hx
  obtain ⟨⟨x0, x1, x2, x3, x4⟩, ⟨f0, f1, f2, f3, f4⟩, -⟩ := hx'.five
  have hl := below5 hl s1 (.int .i64 1) (.int .i64 mac) (.int .i64 ip) (.int .i64 0) (.int .i64 ip)
  have hx := hx.set5 (.int .i64 1) (.int .i64 mac) (.int .i64 ip) (.int .i64 0) (.int .i64 ip)
  have hy := hy.keep5 n1 (.int .i64 1) (.int .i64 mac) (.int .i64 ip) (.int .i64 0) (.int .i64 ip)
  clear l
  go_wp2_with fail
  refine (rclm_t h3 _).mono ?_
  rintro e w7 ⟨rfl, l⟩
  clear x0 x1 x2 x3 x4 f0 f1 f2 f3 f4 hx'
  have hl := bt hl l
  have hx := hx.later l
  have hy := hy.later l
  obtain ⟨⟨y0, y1, y2, y3, y4⟩, ⟨f0, f1, f2, f3, f4⟩, -⟩ := hy.five
  have hl := below5 hl s2 (.int .i64 1) (.int .i64 mac) (.int .i64 ip) (.int .i64 0) (.int .i64 ip)
  have hx := hx.keep5 (Ne.symm n1) (.int .i64 1) (.int .i64 mac) (.int .i64 ip) (.int .i64 0) (.int .i64 ip)
  have hy := hy.set5 (.int .i64 1) (.int .i64 mac) (.int .i64 ip) (.int .i64 0) (.int .i64 ip)
  obtain ⟨⟨x0, x1, x2, x3, x4⟩, -, -⟩ := hx.five
  obtain ⟨⟨z0, z1, z2, z3, z4⟩, -, -⟩ := hy.five
  go_wp2
  go_ret
  exact ⟨rfl, hl⟩
set_option maxRecDepth 100000 in
set_option maxHeartbeats 4000000 in
theorem walk_fyf (o fm fi tm ti mac ip : Int) (w : World) (h1 : mayA 1 mac ip 0 ti = false) (h2 : tellB o fm fi tm ti mac = true) (h3 : mayA 1 mac ip 0 ip = false) :
    Calls Try.prog 5 #[.agg #[.int .i64 o, .int .i64 fm, .int .i64 fi, .int .i64 tm, .int .i64 ti], .int .i64 mac, .int .i64 ip] w fun e w' => e = .returned (.bool true) ∧ Below w.heap.size w w' := by
  have hA := At.box w #[.int .i64 o, .int .i64 fm, .int .i64 fi, .int .i64 tm, .int .i64 ti] 23
  have hl := bel1 w (.cells #[.int .i64 o, .int .i64 fm, .int .i64 fi, .int .i64 tm, .int .i64 ti] 23)
  go_enter Try.func5, Try.ntmps5
  go_wp2_with fail
  refine (ask_f h1 _).mono ?_
  rintro e w1 ⟨rfl, l⟩
  have hl := bt (bt hl l) (bel1 w1 (.cells #[.int .i64 0, .int .i64 0, .int .i64 0, .int .i64 0, .int .i64 0] 23))
  have s1 : w.heap.size ≤ w1.heap.size := (bt (bel1 w (.cells #[.int .i64 o, .int .i64 fm, .int .i64 fi, .int .i64 tm, .int .i64 ti] 23)) l).size
  have hA := (hA.later l).later (bel1 w1 (.cells #[.int .i64 0, .int .i64 0, .int .i64 0, .int .i64 0, .int .i64 0] 23))
  have hx := At.box w1 #[.int .i64 0, .int .i64 0, .int .i64 0, .int .i64 0, .int .i64 0] 23
  obtain ⟨⟨a0, a1, a2, a3, a4⟩, -, -⟩ := hA.five
  go_wp2_with fail
  refine (rask_f h1 _).mono ?_
  rintro e w2 ⟨rfl, l⟩
  clear a0 a1 a2 a3 a4
  have s2 : w.heap.size ≤ w2.heap.size := (bt hl l).size
  have hl := bt (bt hl l) (bel1 w2 (.cells #[.int .i64 0, .int .i64 0, .int .i64 0, .int .i64 0, .int .i64 0] 23))
  have hA := (hA.later l).later (bel1 w2 (.cells #[.int .i64 0, .int .i64 0, .int .i64 0, .int .i64 0, .int .i64 0] 23))
  have hx := (hx.later l).later (bel1 w2 (.cells #[.int .i64 0, .int .i64 0, .int .i64 0, .int .i64 0, .int .i64 0] 23))
  have hy := At.box w2 #[.int .i64 0, .int .i64 0, .int .i64 0, .int .i64 0, .int .i64 0] 23
  have n1 : w1.heap.size ≠ w2.heap.size := by have := l.size; rw [World.size_alloc] at this; omega
  obtain ⟨⟨a0, a1, a2, a3, a4⟩, -, -⟩ := hA.five
  go_wp2_with fail
  refine (tell_y h2 _).mono ?_
  rintro e w3 ⟨rfl, l⟩
  clear a0 a1 a2 a3 a4
  have hl := bt (bt hl l) (bel1 w3 (.cells #[.int .i64 2, .int .i64 mac, .int .i64 ti, .int .i64 fm, .int .i64 fi] 23))
  have hA := (hA.later l).later (bel1 w3 (.cells #[.int .i64 2, .int .i64 mac, .int .i64 ti, .int .i64 fm, .int .i64 fi] 23))
  have hx := (hx.later l).later (bel1 w3 (.cells #[.int .i64 2, .int .i64 mac, .int .i64 ti, .int .i64 fm, .int .i64 fi] 23))
  have hy := (hy.later l).later (bel1 w3 (.cells #[.int .i64 2, .int .i64 mac, .int .i64 ti, .int .i64 fm, .int .i64 fi] 23))
  have hp := At.box w3 #[.int .i64 2, .int .i64 mac, .int .i64 ti, .int .i64 fm, .int .i64 fi] 23
  obtain ⟨⟨a0, a1, a2, a3, a4⟩, -, -⟩ := hA.five
  go_wp2_with fail
  refine (rtell_y h2 _).mono ?_
  rintro e w4 ⟨rfl, l⟩
  clear a0 a1 a2 a3 a4
  have hl := bt (bt hl l) (bel1 w4 (.cells #[.int .i64 2, .int .i64 mac, .int .i64 ti, .int .i64 fm, .int .i64 fi] 23))
  have hx := (hx.later l).later (bel1 w4 (.cells #[.int .i64 2, .int .i64 mac, .int .i64 ti, .int .i64 fm, .int .i64 fi] 23))
  have hy := (hy.later l).later (bel1 w4 (.cells #[.int .i64 2, .int .i64 mac, .int .i64 ti, .int .i64 fm, .int .i64 fi] 23))
  have hp := (hp.later l).later (bel1 w4 (.cells #[.int .i64 2, .int .i64 mac, .int .i64 ti, .int .i64 fm, .int .i64 fi] 23))
  obtain ⟨⟨x0, x1, x2, x3, x4⟩, -, -⟩ := hx.five
  obtain ⟨⟨y0, y1, y2, y3, y4⟩, -, -⟩ := hy.five
  obtain ⟨⟨p0, p1, p2, p3, p4⟩, -, -⟩ := hp.five
  go_wp2_with fail
  refine (works_any _).mono ?_
  rintro e w5 ⟨rfl, l⟩
  clear x0 x1 x2 x3 x4 y0 y1 y2 y3 y4 p0 p1 p2 p3 p4
  have hl := bt hl l
  have hx := hx.later l
  have hy := hy.later l
  clear hA hp l
  generalize w1.heap.size = b1 at *
  generalize w2.heap.size = b2 at *
  go_wp2_with fail
  refine (clm_f h3 _).mono ?_
  rintro e w6 ⟨rfl, l⟩
  have hl := bt hl l
  have hx := hx.later l
  have hy := hy.later l
  have hx' := hx
  obtain ⟨⟨x0, x1, x2, x3, x4⟩, ⟨f0, f1, f2, f3, f4⟩, -⟩ := hx'.five
  have hl := below5 hl s1 (.int .i64 0) (.int .i64 0) (.int .i64 0) (.int .i64 0) (.int .i64 0)
  have hx := hx.set5 (.int .i64 0) (.int .i64 0) (.int .i64 0) (.int .i64 0) (.int .i64 0)
  have hy := hy.keep5 n1 (.int .i64 0) (.int .i64 0) (.int .i64 0) (.int .i64 0) (.int .i64 0)
  clear l
  go_wp2_with fail
  refine (rclm_f h3 _).mono ?_
  rintro e w7 ⟨rfl, l⟩
  clear x0 x1 x2 x3 x4 f0 f1 f2 f3 f4 hx'
  have hl := bt hl l
  have hx := hx.later l
  have hy := hy.later l
  obtain ⟨⟨y0, y1, y2, y3, y4⟩, ⟨f0, f1, f2, f3, f4⟩, -⟩ := hy.five
  have hl := below5 hl s2 (.int .i64 0) (.int .i64 0) (.int .i64 0) (.int .i64 0) (.int .i64 0)
  have hx := hx.keep5 (Ne.symm n1) (.int .i64 0) (.int .i64 0) (.int .i64 0) (.int .i64 0) (.int .i64 0)
  have hy := hy.set5 (.int .i64 0) (.int .i64 0) (.int .i64 0) (.int .i64 0) (.int .i64 0)
  obtain ⟨⟨x0, x1, x2, x3, x4⟩, -, -⟩ := hx.five
  obtain ⟨⟨z0, z1, z2, z3, z4⟩, -, -⟩ := hy.five
  go_wp2
  go_ret
  exact ⟨rfl, hl⟩
set_option maxRecDepth 100000 in
set_option maxHeartbeats 4000000 in
theorem walk_fft (o fm fi tm ti mac ip : Int) (w : World) (h1 : mayA 1 mac ip 0 ti = false) (h2 : tellB o fm fi tm ti mac = false) (h3 : mayA 1 mac ip 0 ip = true) :
    Calls Try.prog 5 #[.agg #[.int .i64 o, .int .i64 fm, .int .i64 fi, .int .i64 tm, .int .i64 ti], .int .i64 mac, .int .i64 ip] w fun e w' => e = .returned (.bool true) ∧ Below w.heap.size w w' := by
  have hA := At.box w #[.int .i64 o, .int .i64 fm, .int .i64 fi, .int .i64 tm, .int .i64 ti] 23
  have hl := bel1 w (.cells #[.int .i64 o, .int .i64 fm, .int .i64 fi, .int .i64 tm, .int .i64 ti] 23)
  go_enter Try.func5, Try.ntmps5
  go_wp2_with fail
  refine (ask_f h1 _).mono ?_
  rintro e w1 ⟨rfl, l⟩
  have hl := bt (bt hl l) (bel1 w1 (.cells #[.int .i64 0, .int .i64 0, .int .i64 0, .int .i64 0, .int .i64 0] 23))
  have s1 : w.heap.size ≤ w1.heap.size := (bt (bel1 w (.cells #[.int .i64 o, .int .i64 fm, .int .i64 fi, .int .i64 tm, .int .i64 ti] 23)) l).size
  have hA := (hA.later l).later (bel1 w1 (.cells #[.int .i64 0, .int .i64 0, .int .i64 0, .int .i64 0, .int .i64 0] 23))
  have hx := At.box w1 #[.int .i64 0, .int .i64 0, .int .i64 0, .int .i64 0, .int .i64 0] 23
  obtain ⟨⟨a0, a1, a2, a3, a4⟩, -, -⟩ := hA.five
  go_wp2_with fail
  refine (rask_f h1 _).mono ?_
  rintro e w2 ⟨rfl, l⟩
  clear a0 a1 a2 a3 a4
  have s2 : w.heap.size ≤ w2.heap.size := (bt hl l).size
  have hl := bt (bt hl l) (bel1 w2 (.cells #[.int .i64 0, .int .i64 0, .int .i64 0, .int .i64 0, .int .i64 0] 23))
  have hA := (hA.later l).later (bel1 w2 (.cells #[.int .i64 0, .int .i64 0, .int .i64 0, .int .i64 0, .int .i64 0] 23))
  have hx := (hx.later l).later (bel1 w2 (.cells #[.int .i64 0, .int .i64 0, .int .i64 0, .int .i64 0, .int .i64 0] 23))
  have hy := At.box w2 #[.int .i64 0, .int .i64 0, .int .i64 0, .int .i64 0, .int .i64 0] 23
  have n1 : w1.heap.size ≠ w2.heap.size := by have := l.size; rw [World.size_alloc] at this; omega
  obtain ⟨⟨a0, a1, a2, a3, a4⟩, -, -⟩ := hA.five
  go_wp2_with fail
  refine (tell_f h2 _).mono ?_
  rintro e w3 ⟨rfl, l⟩
  clear a0 a1 a2 a3 a4
  have hl := bt (bt hl l) (bel1 w3 (.cells #[.int .i64 0, .int .i64 0, .int .i64 0, .int .i64 0, .int .i64 0] 23))
  have hA := (hA.later l).later (bel1 w3 (.cells #[.int .i64 0, .int .i64 0, .int .i64 0, .int .i64 0, .int .i64 0] 23))
  have hx := (hx.later l).later (bel1 w3 (.cells #[.int .i64 0, .int .i64 0, .int .i64 0, .int .i64 0, .int .i64 0] 23))
  have hy := (hy.later l).later (bel1 w3 (.cells #[.int .i64 0, .int .i64 0, .int .i64 0, .int .i64 0, .int .i64 0] 23))
  have hp := At.box w3 #[.int .i64 0, .int .i64 0, .int .i64 0, .int .i64 0, .int .i64 0] 23
  obtain ⟨⟨a0, a1, a2, a3, a4⟩, -, -⟩ := hA.five
  go_wp2_with fail
  refine (rtell_f h2 _).mono ?_
  rintro e w4 ⟨rfl, l⟩
  clear a0 a1 a2 a3 a4
  have hl := bt (bt hl l) (bel1 w4 (.cells #[.int .i64 0, .int .i64 0, .int .i64 0, .int .i64 0, .int .i64 0] 23))
  have hx := (hx.later l).later (bel1 w4 (.cells #[.int .i64 0, .int .i64 0, .int .i64 0, .int .i64 0, .int .i64 0] 23))
  have hy := (hy.later l).later (bel1 w4 (.cells #[.int .i64 0, .int .i64 0, .int .i64 0, .int .i64 0, .int .i64 0] 23))
  have hp := (hp.later l).later (bel1 w4 (.cells #[.int .i64 0, .int .i64 0, .int .i64 0, .int .i64 0, .int .i64 0] 23))
  obtain ⟨⟨x0, x1, x2, x3, x4⟩, -, -⟩ := hx.five
  obtain ⟨⟨y0, y1, y2, y3, y4⟩, -, -⟩ := hy.five
  obtain ⟨⟨p0, p1, p2, p3, p4⟩, -, -⟩ := hp.five
  go_wp2_with fail
  refine (works_any _).mono ?_
  rintro e w5 ⟨rfl, l⟩
  clear x0 x1 x2 x3 x4 y0 y1 y2 y3 y4 p0 p1 p2 p3 p4
  have hl := bt hl l
  have hx := hx.later l
  have hy := hy.later l
  clear hA hp l
  generalize w1.heap.size = b1 at *
  generalize w2.heap.size = b2 at *
  go_wp2_with fail
  refine (clm_t h3 _).mono ?_
  rintro e w6 ⟨rfl, l⟩
  have hl := bt hl l
  have hx := hx.later l
  have hy := hy.later l
  have hx' := hx
  obtain ⟨⟨x0, x1, x2, x3, x4⟩, ⟨f0, f1, f2, f3, f4⟩, -⟩ := hx'.five
  have hl := below5 hl s1 (.int .i64 1) (.int .i64 mac) (.int .i64 ip) (.int .i64 0) (.int .i64 ip)
  have hx := hx.set5 (.int .i64 1) (.int .i64 mac) (.int .i64 ip) (.int .i64 0) (.int .i64 ip)
  have hy := hy.keep5 n1 (.int .i64 1) (.int .i64 mac) (.int .i64 ip) (.int .i64 0) (.int .i64 ip)
  clear l
  go_wp2_with fail
  refine (rclm_t h3 _).mono ?_
  rintro e w7 ⟨rfl, l⟩
  clear x0 x1 x2 x3 x4 f0 f1 f2 f3 f4 hx'
  have hl := bt hl l
  have hx := hx.later l
  have hy := hy.later l
  obtain ⟨⟨y0, y1, y2, y3, y4⟩, ⟨f0, f1, f2, f3, f4⟩, -⟩ := hy.five
  have hl := below5 hl s2 (.int .i64 1) (.int .i64 mac) (.int .i64 ip) (.int .i64 0) (.int .i64 ip)
  have hx := hx.keep5 (Ne.symm n1) (.int .i64 1) (.int .i64 mac) (.int .i64 ip) (.int .i64 0) (.int .i64 ip)
  have hy := hy.set5 (.int .i64 1) (.int .i64 mac) (.int .i64 ip) (.int .i64 0) (.int .i64 ip)
  obtain ⟨⟨x0, x1, x2, x3, x4⟩, -, -⟩ := hx.five
  obtain ⟨⟨z0, z1, z2, z3, z4⟩, -, -⟩ := hy.five
  go_wp2
  go_ret
  exact ⟨rfl, hl⟩
set_option maxRecDepth 100000 in
set_option maxHeartbeats 4000000 in
theorem walk_fff (o fm fi tm ti mac ip : Int) (w : World) (h1 : mayA 1 mac ip 0 ti = false) (h2 : tellB o fm fi tm ti mac = false) (h3 : mayA 1 mac ip 0 ip = false) :
    Calls Try.prog 5 #[.agg #[.int .i64 o, .int .i64 fm, .int .i64 fi, .int .i64 tm, .int .i64 ti], .int .i64 mac, .int .i64 ip] w fun e w' => e = .returned (.bool true) ∧ Below w.heap.size w w' := by
  have hA := At.box w #[.int .i64 o, .int .i64 fm, .int .i64 fi, .int .i64 tm, .int .i64 ti] 23
  have hl := bel1 w (.cells #[.int .i64 o, .int .i64 fm, .int .i64 fi, .int .i64 tm, .int .i64 ti] 23)
  go_enter Try.func5, Try.ntmps5
  go_wp2_with fail
  refine (ask_f h1 _).mono ?_
  rintro e w1 ⟨rfl, l⟩
  have hl := bt (bt hl l) (bel1 w1 (.cells #[.int .i64 0, .int .i64 0, .int .i64 0, .int .i64 0, .int .i64 0] 23))
  have s1 : w.heap.size ≤ w1.heap.size := (bt (bel1 w (.cells #[.int .i64 o, .int .i64 fm, .int .i64 fi, .int .i64 tm, .int .i64 ti] 23)) l).size
  have hA := (hA.later l).later (bel1 w1 (.cells #[.int .i64 0, .int .i64 0, .int .i64 0, .int .i64 0, .int .i64 0] 23))
  have hx := At.box w1 #[.int .i64 0, .int .i64 0, .int .i64 0, .int .i64 0, .int .i64 0] 23
  obtain ⟨⟨a0, a1, a2, a3, a4⟩, -, -⟩ := hA.five
  go_wp2_with fail
  refine (rask_f h1 _).mono ?_
  rintro e w2 ⟨rfl, l⟩
  clear a0 a1 a2 a3 a4
  have s2 : w.heap.size ≤ w2.heap.size := (bt hl l).size
  have hl := bt (bt hl l) (bel1 w2 (.cells #[.int .i64 0, .int .i64 0, .int .i64 0, .int .i64 0, .int .i64 0] 23))
  have hA := (hA.later l).later (bel1 w2 (.cells #[.int .i64 0, .int .i64 0, .int .i64 0, .int .i64 0, .int .i64 0] 23))
  have hx := (hx.later l).later (bel1 w2 (.cells #[.int .i64 0, .int .i64 0, .int .i64 0, .int .i64 0, .int .i64 0] 23))
  have hy := At.box w2 #[.int .i64 0, .int .i64 0, .int .i64 0, .int .i64 0, .int .i64 0] 23
  have n1 : w1.heap.size ≠ w2.heap.size := by have := l.size; rw [World.size_alloc] at this; omega
  obtain ⟨⟨a0, a1, a2, a3, a4⟩, -, -⟩ := hA.five
  go_wp2_with fail
  refine (tell_f h2 _).mono ?_
  rintro e w3 ⟨rfl, l⟩
  clear a0 a1 a2 a3 a4
  have hl := bt (bt hl l) (bel1 w3 (.cells #[.int .i64 0, .int .i64 0, .int .i64 0, .int .i64 0, .int .i64 0] 23))
  have hA := (hA.later l).later (bel1 w3 (.cells #[.int .i64 0, .int .i64 0, .int .i64 0, .int .i64 0, .int .i64 0] 23))
  have hx := (hx.later l).later (bel1 w3 (.cells #[.int .i64 0, .int .i64 0, .int .i64 0, .int .i64 0, .int .i64 0] 23))
  have hy := (hy.later l).later (bel1 w3 (.cells #[.int .i64 0, .int .i64 0, .int .i64 0, .int .i64 0, .int .i64 0] 23))
  have hp := At.box w3 #[.int .i64 0, .int .i64 0, .int .i64 0, .int .i64 0, .int .i64 0] 23
  obtain ⟨⟨a0, a1, a2, a3, a4⟩, -, -⟩ := hA.five
  go_wp2_with fail
  refine (rtell_f h2 _).mono ?_
  rintro e w4 ⟨rfl, l⟩
  clear a0 a1 a2 a3 a4
  have hl := bt (bt hl l) (bel1 w4 (.cells #[.int .i64 0, .int .i64 0, .int .i64 0, .int .i64 0, .int .i64 0] 23))
  have hx := (hx.later l).later (bel1 w4 (.cells #[.int .i64 0, .int .i64 0, .int .i64 0, .int .i64 0, .int .i64 0] 23))
  have hy := (hy.later l).later (bel1 w4 (.cells #[.int .i64 0, .int .i64 0, .int .i64 0, .int .i64 0, .int .i64 0] 23))
  have hp := (hp.later l).later (bel1 w4 (.cells #[.int .i64 0, .int .i64 0, .int .i64 0, .int .i64 0, .int .i64 0] 23))
  obtain ⟨⟨x0, x1, x2, x3, x4⟩, -, -⟩ := hx.five
  obtain ⟨⟨y0, y1, y2, y3, y4⟩, -, -⟩ := hy.five
  obtain ⟨⟨p0, p1, p2, p3, p4⟩, -, -⟩ := hp.five
  go_wp2_with fail
  refine (works_any _).mono ?_
  rintro e w5 ⟨rfl, l⟩
  clear x0 x1 x2 x3 x4 y0 y1 y2 y3 y4 p0 p1 p2 p3 p4
  have hl := bt hl l
  have hx := hx.later l
  have hy := hy.later l
  clear hA hp l
  generalize w1.heap.size = b1 at *
  generalize w2.heap.size = b2 at *
  go_wp2_with fail
  refine (clm_f h3 _).mono ?_
  rintro e w6 ⟨rfl, l⟩
  have hl := bt hl l
  have hx := hx.later l
  have hy := hy.later l
  have hx' := hx
  obtain ⟨⟨x0, x1, x2, x3, x4⟩, ⟨f0, f1, f2, f3, f4⟩, -⟩ := hx'.five
  have hl := below5 hl s1 (.int .i64 0) (.int .i64 0) (.int .i64 0) (.int .i64 0) (.int .i64 0)
  have hx := hx.set5 (.int .i64 0) (.int .i64 0) (.int .i64 0) (.int .i64 0) (.int .i64 0)
  have hy := hy.keep5 n1 (.int .i64 0) (.int .i64 0) (.int .i64 0) (.int .i64 0) (.int .i64 0)
  clear l
  go_wp2_with fail
  refine (rclm_f h3 _).mono ?_
  rintro e w7 ⟨rfl, l⟩
  clear x0 x1 x2 x3 x4 f0 f1 f2 f3 f4 hx'
  have hl := bt hl l
  have hx := hx.later l
  have hy := hy.later l
  obtain ⟨⟨y0, y1, y2, y3, y4⟩, ⟨f0, f1, f2, f3, f4⟩, -⟩ := hy.five
  have hl := below5 hl s2 (.int .i64 0) (.int .i64 0) (.int .i64 0) (.int .i64 0) (.int .i64 0)
  have hx := hx.keep5 (Ne.symm n1) (.int .i64 0) (.int .i64 0) (.int .i64 0) (.int .i64 0) (.int .i64 0)
  have hy := hy.set5 (.int .i64 0) (.int .i64 0) (.int .i64 0) (.int .i64 0) (.int .i64 0)
  obtain ⟨⟨x0, x1, x2, x3, x4⟩, -, -⟩ := hx.five
  obtain ⟨⟨z0, z1, z2, z3, z4⟩, -, -⟩ := hy.five
  go_wp2
  go_ret
  exact ⟨rfl, hl⟩
theorem walk (o : Int) (_ : (Lit.int .i64 o).wf = true) (fm : Int) (_ : (Lit.int .i64 fm).wf = true) (fi : Int) (_ : (Lit.int .i64 fi).wf = true) (tm : Int) (_ : (Lit.int .i64 tm).wf = true) (ti : Int) (_ : (Lit.int .i64 ti).wf = true) (mac : Int) (_ : (Lit.int .i64 mac).wf = true) (ip : Int) (_ : (Lit.int .i64 ip).wf = true) (w : World) :
    Calls Try.prog 5 #[.agg #[.int .i64 o, .int .i64 fm, .int .i64 fi, .int .i64 tm, .int .i64 ti], .int .i64 mac, .int .i64 ip] w fun e w' => e = .returned (.bool true) ∧ Below w.heap.size w w' := by
  rcases Bool.eq_false_or_eq_true (mayA 1 mac ip 0 ti) with h1 | h1 <;> rcases Bool.eq_false_or_eq_true (tellB o fm fi tm ti mac) with h2 | h2 <;> rcases Bool.eq_false_or_eq_true (mayA 1 mac ip 0 ip) with h3 | h3
  · exact walk_tyt o fm fi tm ti mac ip w h1 h2 h3
  · exact walk_tyf o fm fi tm ti mac ip w h1 h2 h3
  · exact walk_tft o fm fi tm ti mac ip w h1 h2 h3
  · exact walk_tff o fm fi tm ti mac ip w h1 h2 h3
  · exact walk_fyt o fm fi tm ti mac ip w h1 h2 h3
  · exact walk_fyf o fm fi tm ti mac ip w h1 h2 h3
  · exact walk_fft o fm fi tm ti mac ip w h1 h2 h3
  · exact walk_fff o fm fi tm ti mac ip w h1 h2 h3

set_option maxRecDepth 100000 in
theorem lifted (os : Os) (started : os.Started) (H : Type) (enc : TypeId × Value → H) :
    ReturnsInHanded {} Try.checked os 5 .any (Rows.arpMakesSpec.pre6 enc Try.prog Try.f5 Rows.arpMakesRow.domain false) (Rows.arpMakesSpec.post enc Try.prog Try.f5 false true false false) := by
  refine returnsInHanded_of_change (C := Try.checked) own started (by kernel_rfl) Try.func5
    (ChangeSpec.witness6 (enc := enc) (C := Try.checked) false ⟨#[], #[.agg #[.int .i64 0, .int .i64 0, .int .i64 0, .int .i64 0, .int .i64 0], .int .i64 0, .int .i64 0], []⟩ 8 (by kernel_rfl) (by kernel_rfl) (by kernel_rfl) (by kernel_rfl)) ?_
  intro W base args ds gs before hval0 hW hcnd _
  have hval : ∀ (j : Nat) t v, Try.f5.params[j]? = some t → args[j]? = some v → Value.okWide Try.prog W .any base t v := hval0
  have hW' := hW
  obtain ⟨p, q, hA0, hV, rfl, hfz, hnd⟩ := hW
  have hA : DataW.TrodAll enc Try.prog W 0 (fun _ => true) true Try.f5.params.toList args.toList ds p := hA0
  rw [Try.params5] at hA hval
  obtain ⟨v0, vs0, d0, ds0, p0, q0, hargs, rfl, rfl, h0, r0⟩ := trodAll_cons hA
  obtain ⟨v1, vs1, d1, ds1, p1, q1, rfl, rfl, rfl, h1, r1⟩ := trodAll_cons r0
  obtain ⟨v2, vs2, d2, ds2, p2, q2, rfl, rfl, rfl, h2, r2⟩ := trodAll_cons r1
  obtain ⟨rfl, rfl, rfl⟩ := trodAll_nil r2
  obtain rfl : args = #[v0, v1, v2] := by cases args; simp_all
  obtain ⟨rfl, rfl⟩ := trodVars_none hV
  have k0 := h0
  have lt0 : ∀ x ∈ p0, x.block < W.heap.size := by obtain ⟨m, hm⟩ := k0; exact DataW.trod_lt m _ _ _ hm
  have k1 := h1
  have lt1 : ∀ x ∈ p1, x.block < W.heap.size := by obtain ⟨m, hm⟩ := k1; exact DataW.trod_lt m _ _ _ hm
  have k2 := h2
  have lt2 : ∀ x ∈ p2, x.block < W.heap.size := by obtain ⟨m, hm⟩ := k2; exact DataW.trod_lt m _ _ _ hm
  obtain ⟨f0_0, f0_1, f0_2, f0_3, f0_4, rfl, e0_0, e0_1, e0_2, e0_3, e0_4⟩ := open23 (hval 0 23 v0 rfl rfl) h0
  obtain ⟨a1, rfl, -, -, w1⟩ := open_int Try.underlying3 (hval 1 3 v1 rfl rfl) h1
  obtain ⟨a2, rfl, -, -, w2⟩ := open_int Try.underlying3 (hval 2 3 v2 rfl rfl) h2
  clear hA0 hval0
  refine (walk f0_0 e0_0 f0_1 e0_1 f0_2 e0_2 f0_3 e0_3 f0_4 e0_4 a1 w1 a2 w2 W ).mono fun e W' ⟨he, bel⟩ => ?_
  subst he
  exact ⟨_, rfl, _, _, _, [], _, [], hW', trodAll_mk1 (shut_bool Try.underlying4 _), (trodAll_cons_mk (Below.trod laidOut (by kernel_rfl) (of_decide_eq_true (by kernel_rfl)) k0 bel lt0) (trodAll_cons_mk (Below.trod laidOut (by kernel_rfl) (of_decide_eq_true (by kernel_rfl)) k1 bel lt1) (trodAll_cons_mk (Below.trod laidOut (by kernel_rfl) (of_decide_eq_true (by kernel_rfl)) k2 bel lt2) trodAll_mk0))), rfl, bel.frame _, fun h => by cases h⟩

theorem over : Rows.arpMakesRow.holds Try.pinned (OpenSpec.ofChange Rows.arpMakesSpec) :=
  OpenClaim.holds_of_wide 5 Try.f5 rfl rfl rfl rfl rfl rfl rfl ⟨rfl, rfl, rfl, rfl, rfl⟩ rfl rfl rfl rfl rfl (by kernel_rfl) Try.func5 (by kernel_rfl)
    (of_decide_eq_true (by kernel_rfl)) (by unfold Func.isWrapper; first | (rw [if_pos (by decide +kernel)]; kernel_rfl) | (rw [if_neg (by decide +kernel)]; exact ⟨rfl, rfl⟩))
    (fun os started H enc _ => lifted os started H enc)

end Go.Proofs.Ythffkmlihnfoeaa.arpMakes
namespace Go.Proofs.Ythffkmlihnfoeaa
theorem arpMakes_holds : Rows.ArpMakesSaid := arpMakes.over
end Go.Proofs.Ythffkmlihnfoeaa
