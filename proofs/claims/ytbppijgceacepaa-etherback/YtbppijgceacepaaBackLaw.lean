/- Proved: for all frames and strings what is encoded is decoded as the frame, what is decoded is encoded as just those bytes, and unlike frames have unlike bytes; no condition. -/
import Derived.Test.YtbppijgceacepaaRows
import Derived.Test.YtbppijgceacepaaBacks
import Derived.Test.YtbppijgceacepaaBytes
import Derived.WalkKit
import Derived.ProofKit
import Derived.OpenShut
import Derived.ShutString
import Derived.ChangeOld
import Derived.Below
import Derived.Carry
import Derived.SizedLaws
import Derived.Deep.Fields
namespace Go.Proofs.Ytbppijgceacepaa.etherBack
open Go.ChangeShapes Go.WideShapes Go.ChangeAt Go.RowKit
open Go.ChangeMaps (open_string)
set_option linter.unusedVariables false

theorem own : ownKnob Try.prog.godebug = none := by kernel_rfl
theorem laidOut : laidOutB Try.prog = true := by kernel_rfl

theorem open_fields {H : Type} {enc : TypeId × Value → H} {P : Program} {w : World} {base : Nat} {spare : Nat → Bool} {held : Bool} {r : Reach} {b0 : Nat} {t : TypeId} {fs : Array Field} {v : Value} {d : DataW H} {p : List MemPlace} (hs : P.underlying t = some (.struct fs)) (hone : Go.Deep.oneCellFields P fs = true) (hC : P.cellsOf t = fs.size)
    (hv : Value.okWide P w r b0 t v) (h : DataW.Trod enc P w base spare held t v d p) :
    ∃ cs : Array Value, v = .agg cs ∧ cs.size = fs.size ∧ ∀ (i : Nat) (f : Field), fs[i]? = some f → ∃ n x, DataW.trod enc P w base spare held n f.type ((cs.toList.drop i).take 1) = some x := by
  obtain ⟨cs, rfl, hsz⟩ := okWide_struct hs hv
  obtain ⟨fuel, hf⟩ := h
  obtain ⟨xs, n, _, hx, hl, hlen, hfs⟩ := DataW.trod_struct hs hf
  refine ⟨cs, rfl, hsz.trans hC, fun i f hi => ?_⟩
  obtain ⟨o1, k1⟩ := Go.Deep.hone_of hone i f hi
  have := hfs i f hi
  have hlt : i < xs.length := by rw [hlen]; exact (Array.getElem?_eq_some_iff.1 hi).1
  rw [o1, k1, List.getElem?_eq_getElem hlt] at this
  exact ⟨n, _, by simpa [Value.cells] using this⟩

theorem cells23 : Try.prog.cellsOf 23 = 4 := by kernel_rfl
theorem open23 {H : Type} {enc : TypeId × Value → H} {w : World} {base : Nat} {spare : Nat → Bool} {held : Bool} {r : Reach} {b0 : Nat} {v : Value} {d : DataW H} {p : List MemPlace} (hv : Value.okWide Try.prog w r b0 23 v) (h : DataW.Trod enc Try.prog w base spare held 23 v d p) :
    ∃ (f0 : Int) (f1 : Int) (f2 : Int) (f3 : ByteArray), v = .agg #[.int .i64 f0, .int .i64 f1, .int .i64 f2, .string f3] ∧ (Lit.int .i64 f0).wf = true ∧ (Lit.int .i64 f1).wf = true ∧ (Lit.int .i64 f2).wf = true ∧ f3.size ≤ maxLen := by
  obtain ⟨⟨l⟩, rfl, hz, hf⟩ := open_fields Try.underlying23 (by kernel_rfl) cells23 hv h
  have hz' : l.length = 4 := by simpa using hz
  match l, hz' with
  | [c0, c1, c2, c3], _ =>
    obtain ⟨n0, x0, t0⟩ := hf 0 _ rfl
    obtain ⟨f0, q0, -, e0⟩ := DataW.trod_int Try.underlying3 t0
    have p0 : c0 = .int .i64 f0 := by simpa using q0
    obtain ⟨n1, x1, t1⟩ := hf 1 _ rfl
    obtain ⟨f1, q1, -, e1⟩ := DataW.trod_int Try.underlying3 t1
    have p1 : c1 = .int .i64 f1 := by simpa using q1
    obtain ⟨n2, x2, t2⟩ := hf 2 _ rfl
    obtain ⟨f2, q2, -, e2⟩ := DataW.trod_int Try.underlying3 t2
    have p2 : c2 = .int .i64 f2 := by simpa using q2
    obtain ⟨n3, x3, t3⟩ := hf 3 _ rfl
    obtain ⟨f3, q3, -, e3⟩ := DataW.trod_string Try.underlying9 t3
    have p3 : c3 = .string f3 := by simpa using q3
    subst p0 p1 p2 p3
    exact ⟨f0, f1, f2, f3, rfl, e0, e1, e2, e3⟩

-- WALK
theorem enc_t {t f k : Int} {d : ByteArray} (h : mayB t f k d.size = true) (w : World) (hd : d.size ≤ maxLen) :
    Calls Try.prog 7 #[.agg #[.int .i64 t, .int .i64 f, .int .i64 k, .string d]] w fun e w' => e = .returned (.tuple #[.string (encS t f k d), .int .i64 0]) ∧ Below w.heap.size w w' := by
  have := enc_any t f k d w hd
  unfold encV at this
  rw [h] at this
  exact this
theorem enc_f {t f k : Int} {d : ByteArray} (h : mayB t f k d.size = false) (w : World) (hd : d.size ≤ maxLen) :
    Calls Try.prog 7 #[.agg #[.int .i64 t, .int .i64 f, .int .i64 k, .string d]] w fun e w' => e = .returned (.tuple #[.string ⟨#[]⟩, .int .i64 30]) ∧ Below w.heap.size w w' := by
  have := enc_any t f k d w hd
  unfold encV at this
  rw [h] at this
  exact this
theorem dec_e {t f k : Int} {d : ByteArray} (h : mayB t f k d.size = true) (w : World) :
    Calls Try.prog 16 #[.string (encS t f k d)] w fun e w' => e = .returned (.tuple #[.agg #[.int .i64 t, .int .i64 f, .int .i64 k, .string d], .int .i64 0]) ∧ Below w.heap.size w w' := by
  obtain ⟨e0, e1, e2, e3, e4⟩ := dec_of_enc h
  have hz := (may_parts h).2.2.2.2
  have := dec_any (encS t f k d) w (by rw [enc_size]; unfold maxLen; omega)
  rw [e0, e1, e2, e3, e4] at this
  exact this
theorem dec_t {s : ByteArray} (h : decB s = true) (w : World) (hs : s.size ≤ maxLen) :
    Calls Try.prog 16 #[.string s] w fun e w' => e = .returned (.tuple #[.agg #[.int .i64 (deT s), .int .i64 (deF s), .int .i64 (deK s), .string (deD s)], .int .i64 0]) ∧ Below w.heap.size w w' := by
  have := dec_any s w hs
  rw [h] at this
  exact this
theorem dec_f {s : ByteArray} (h : decB s = false) (w : World) (hs : s.size ≤ maxLen) :
    Calls Try.prog 16 #[.string s] w fun e w' => e = .returned (.tuple #[.agg #[.int .i64 0, .int .i64 0, .int .i64 0, .string ⟨#[]⟩], .int .i64 30]) ∧ Below w.heap.size w w' := by
  have := dec_any s w hs
  unfold deT deF deK deD at this
  rw [h] at this
  exact this
theorem enc_d {s : ByteArray} (h : decB s = true) (w : World) :
    Calls Try.prog 7 #[.agg #[.int .i64 (deT s), .int .i64 (deF s), .int .i64 (deK s), .string (deD s)]] w fun e w' => e = .returned (.tuple #[.string s, .int .i64 0]) ∧ Below w.heap.size w w' := by
  obtain ⟨e0, e1⟩ := enc_of_dec h
  have hz := (may_parts e0).2.2.2.2
  have := enc_any (deT s) (deF s) (deK s) (deD s) w (by unfold maxLen; omega)
  rw [e0, e1] at this
  exact this

/-- Frames that may be and have the same bytes are the same. -/
theorem un_enc {t f k t' f' k' : Int} {d d' : ByteArray} (h : mayB t f k d.size = true) (h' : mayB t' f' k' d'.size = true) (e : encS t f k d = encS t' f' k' d') : t = t' ∧ f = f' ∧ k = k' ∧ d = d' := by
  obtain ⟨_, a1, a2, a3, a4⟩ := dec_of_enc h
  obtain ⟨_, b1, b2, b3, b4⟩ := dec_of_enc h'
  rw [e] at a1 a2 a3 a4
  exact ⟨a1.symm.trans b1, a2.symm.trans b2, a3.symm.trans b3, a4.symm.trans b4⟩

theorem list_inj {a b : ByteArray} (h : a.toList = b.toList) : a = b := by rw [ByteArray.toList_eq, ByteArray.toList_eq] at h; exact ba_toList h
theorem at_box2 (w : World) (o : Obj) (v0 v1 v2 v3 : Value) (t : TypeId) : At4 ((w.alloc o).alloc (.cells #[v0, v1, v2, v3] t)) (w.heap.size + 1) v0 v1 v2 v3 := by
  have := at_box (w.alloc o) v0 v1 v2 v3 t
  rwa [show (w.alloc o).heap.size = w.heap.size + 1 by simp] at this

set_option maxHeartbeats 4000000 in
theorem w_true_ff (t f k : Int) (d : ByteArray) (hd : d.size ≤ maxLen) (t' f' k' : Int) (d' : ByteArray) (hd' : d'.size ≤ maxLen) (s : ByteArray) (hs : s.size ≤ maxLen) (w : World) (hB : decB s = true) (h : mayB t f k d.size = false) (h' : mayB t' f' k' d'.size = false) :
    Calls Try.prog 5 #[.agg #[.int .i64 t, .int .i64 f, .int .i64 k, .string d], .agg #[.int .i64 t', .int .i64 f', .int .i64 k', .string d'], .string s] w fun e w' => e = .returned (.bool true) ∧ Below w.heap.size w w' := by
  have hA := (at_box w (.int .i64 t) (.int .i64 f) (.int .i64 k) (.string d) 23).later (bel1 _ (.cells #[.int .i64 t', .int .i64 f', .int .i64 k', .string d'] 23))
  have hC := at_box2 w (.cells #[.int .i64 t, .int .i64 f, .int .i64 k, .string d] 23) (.int .i64 t') (.int .i64 f') (.int .i64 k') (.string d') 23
  have hl := bt (bel1 w _) (bel1 (w.alloc (.cells #[.int .i64 t, .int .i64 f, .int .i64 k, .string d] 23)) (.cells #[.int .i64 t', .int .i64 f', .int .i64 k', .string d'] 23))
  go_enter Try.func5, Try.ntmps5
  go_wp2_with fail
  refine (works_any _).mono ?_
  rintro e u1 ⟨rfl, l1⟩
  have hA := hA.later l1
  have hC := hC.later l1
  have hl := bt hl l1
  clear l1
  have hA' := hA
  obtain ⟨⟨a0, a1, a2, a3⟩, -, -⟩ := hA'
  go_wp2_with fail
  refine (enc_f h _ hd).mono ?_
  rintro e u2 ⟨rfl, l2⟩
  clear a0 a1 a2 a3
  have hA := hA.later l2
  have hC := hC.later l2
  have hl := bt hl l2
  clear l2
  have hC' := hC
  obtain ⟨⟨a0, a1, a2, a3⟩, -, -⟩ := hC'
  go_wp2_with fail
  refine (enc_f h' _ hd').mono ?_
  rintro e u3 ⟨rfl, l3⟩
  clear a0 a1 a2 a3
  have hA := hA.later l3
  have hC := hC.later l3
  have hl := bt hl l3
  clear l3
  go_wp2_with fail
  refine (dec_t hB _ hs).mono ?_
  rintro e u5 ⟨rfl, l5⟩
  have hl := bt (bt hl l5) (bel1 u5 (.cells #[.int .i64 (deT s), .int .i64 (deF s), .int .i64 (deK s), .string (deD s)] 23))
  clear l5
  go_wp2_with fail
  refine (enc_d hB _).mono ?_
  rintro e u6 ⟨rfl, l6⟩
  have hl := bt hl l6
  go_wp2
  go_ret
  exact ⟨rfl, hl⟩

set_option maxHeartbeats 4000000 in
theorem w_true_ft (t f k : Int) (d : ByteArray) (hd : d.size ≤ maxLen) (t' f' k' : Int) (d' : ByteArray) (hd' : d'.size ≤ maxLen) (s : ByteArray) (hs : s.size ≤ maxLen) (w : World) (hB : decB s = true) (h : mayB t f k d.size = false) (h' : mayB t' f' k' d'.size = true) :
    Calls Try.prog 5 #[.agg #[.int .i64 t, .int .i64 f, .int .i64 k, .string d], .agg #[.int .i64 t', .int .i64 f', .int .i64 k', .string d'], .string s] w fun e w' => e = .returned (.bool true) ∧ Below w.heap.size w w' := by
  have hA := (at_box w (.int .i64 t) (.int .i64 f) (.int .i64 k) (.string d) 23).later (bel1 _ (.cells #[.int .i64 t', .int .i64 f', .int .i64 k', .string d'] 23))
  have hC := at_box2 w (.cells #[.int .i64 t, .int .i64 f, .int .i64 k, .string d] 23) (.int .i64 t') (.int .i64 f') (.int .i64 k') (.string d') 23
  have hl := bt (bel1 w _) (bel1 (w.alloc (.cells #[.int .i64 t, .int .i64 f, .int .i64 k, .string d] 23)) (.cells #[.int .i64 t', .int .i64 f', .int .i64 k', .string d'] 23))
  go_enter Try.func5, Try.ntmps5
  go_wp2_with fail
  refine (works_any _).mono ?_
  rintro e u1 ⟨rfl, l1⟩
  have hA := hA.later l1
  have hC := hC.later l1
  have hl := bt hl l1
  clear l1
  have hA' := hA
  obtain ⟨⟨a0, a1, a2, a3⟩, -, -⟩ := hA'
  go_wp2_with fail
  refine (enc_f h _ hd).mono ?_
  rintro e u2 ⟨rfl, l2⟩
  clear a0 a1 a2 a3
  have hA := hA.later l2
  have hC := hC.later l2
  have hl := bt hl l2
  clear l2
  have hC' := hC
  obtain ⟨⟨a0, a1, a2, a3⟩, -, -⟩ := hC'
  go_wp2_with fail
  refine (enc_t h' _ hd').mono ?_
  rintro e u3 ⟨rfl, l3⟩
  clear a0 a1 a2 a3
  have hA := hA.later l3
  have hC := hC.later l3
  have hl := bt hl l3
  clear l3
  go_wp2_with fail
  refine (dec_t hB _ hs).mono ?_
  rintro e u5 ⟨rfl, l5⟩
  have hl := bt (bt hl l5) (bel1 u5 (.cells #[.int .i64 (deT s), .int .i64 (deF s), .int .i64 (deK s), .string (deD s)] 23))
  clear l5
  go_wp2_with fail
  refine (enc_d hB _).mono ?_
  rintro e u6 ⟨rfl, l6⟩
  have hl := bt hl l6
  go_wp2
  go_ret
  exact ⟨rfl, hl⟩

set_option maxHeartbeats 4000000 in
theorem w_true_tf (t f k : Int) (d : ByteArray) (hd : d.size ≤ maxLen) (t' f' k' : Int) (d' : ByteArray) (hd' : d'.size ≤ maxLen) (s : ByteArray) (hs : s.size ≤ maxLen) (w : World) (hB : decB s = true) (h : mayB t f k d.size = true) (h' : mayB t' f' k' d'.size = false) :
    Calls Try.prog 5 #[.agg #[.int .i64 t, .int .i64 f, .int .i64 k, .string d], .agg #[.int .i64 t', .int .i64 f', .int .i64 k', .string d'], .string s] w fun e w' => e = .returned (.bool true) ∧ Below w.heap.size w w' := by
  have hA := (at_box w (.int .i64 t) (.int .i64 f) (.int .i64 k) (.string d) 23).later (bel1 _ (.cells #[.int .i64 t', .int .i64 f', .int .i64 k', .string d'] 23))
  have hC := at_box2 w (.cells #[.int .i64 t, .int .i64 f, .int .i64 k, .string d] 23) (.int .i64 t') (.int .i64 f') (.int .i64 k') (.string d') 23
  have hl := bt (bel1 w _) (bel1 (w.alloc (.cells #[.int .i64 t, .int .i64 f, .int .i64 k, .string d] 23)) (.cells #[.int .i64 t', .int .i64 f', .int .i64 k', .string d'] 23))
  go_enter Try.func5, Try.ntmps5
  go_wp2_with fail
  refine (works_any _).mono ?_
  rintro e u1 ⟨rfl, l1⟩
  have hA := hA.later l1
  have hC := hC.later l1
  have hl := bt hl l1
  clear l1
  have hA' := hA
  obtain ⟨⟨a0, a1, a2, a3⟩, -, -⟩ := hA'
  go_wp2_with fail
  refine (enc_t h _ hd).mono ?_
  rintro e u2 ⟨rfl, l2⟩
  clear a0 a1 a2 a3
  have hA := hA.later l2
  have hC := hC.later l2
  have hl := bt hl l2
  clear l2
  have hC' := hC
  obtain ⟨⟨a0, a1, a2, a3⟩, -, -⟩ := hC'
  go_wp2_with fail
  refine (enc_f h' _ hd').mono ?_
  rintro e u3 ⟨rfl, l3⟩
  clear a0 a1 a2 a3
  have hA := hA.later l3
  have hC := hC.later l3
  have hl := bt hl l3
  clear l3
  go_wp2_with fail
  refine (dec_e h _).mono ?_
  rintro e u4 ⟨rfl, l4⟩
  have hA := hA.later l4
  have hC := hC.later l4
  have hl := bt (bt hl l4) (bel1 u4 (.cells #[.int .i64 t, .int .i64 f, .int .i64 k, .string d] 23))
  clear l4
  obtain ⟨⟨a0, a1, a2, a3⟩, -, -⟩ := hA.later (bel1 u4 (.cells #[.int .i64 t, .int .i64 f, .int .i64 k, .string d] 23))
  obtain ⟨⟨b0, b1, b2, b3⟩, -, -⟩ := hC.later (bel1 u4 (.cells #[.int .i64 t, .int .i64 f, .int .i64 k, .string d] 23))
  go_wp2_with fail
  refine (dec_t hB _ hs).mono ?_
  rintro e u5 ⟨rfl, l5⟩
  have hl := bt (bt hl l5) (bel1 u5 (.cells #[.int .i64 (deT s), .int .i64 (deF s), .int .i64 (deK s), .string (deD s)] 23))
  clear l5
  go_wp2_with fail
  refine (enc_d hB _).mono ?_
  rintro e u6 ⟨rfl, l6⟩
  have hl := bt hl l6
  go_wp2
  go_ret
  exact ⟨rfl, hl⟩

set_option maxHeartbeats 4000000 in
theorem w_true_eq (t f k : Int) (d : ByteArray) (hd : d.size ≤ maxLen) (s : ByteArray) (hs : s.size ≤ maxLen) (w : World) (hB : decB s = true) (h : mayB t f k d.size = true) :
    Calls Try.prog 5 #[.agg #[.int .i64 t, .int .i64 f, .int .i64 k, .string d], .agg #[.int .i64 t, .int .i64 f, .int .i64 k, .string d], .string s] w fun e w' => e = .returned (.bool true) ∧ Below w.heap.size w w' := by
  have hA := (at_box w (.int .i64 t) (.int .i64 f) (.int .i64 k) (.string d) 23).later (bel1 _ (.cells #[.int .i64 t, .int .i64 f, .int .i64 k, .string d] 23))
  have hC := at_box2 w (.cells #[.int .i64 t, .int .i64 f, .int .i64 k, .string d] 23) (.int .i64 t) (.int .i64 f) (.int .i64 k) (.string d) 23
  have hl := bt (bel1 w _) (bel1 (w.alloc (.cells #[.int .i64 t, .int .i64 f, .int .i64 k, .string d] 23)) (.cells #[.int .i64 t, .int .i64 f, .int .i64 k, .string d] 23))
  go_enter Try.func5, Try.ntmps5
  go_wp2_with fail
  refine (works_any _).mono ?_
  rintro e u1 ⟨rfl, l1⟩
  have hA := hA.later l1
  have hC := hC.later l1
  have hl := bt hl l1
  clear l1
  have hA' := hA
  obtain ⟨⟨a0, a1, a2, a3⟩, -, -⟩ := hA'
  go_wp2_with fail
  refine (enc_t h _ hd).mono ?_
  rintro e u2 ⟨rfl, l2⟩
  clear a0 a1 a2 a3
  have hA := hA.later l2
  have hC := hC.later l2
  have hl := bt hl l2
  clear l2
  have hC' := hC
  obtain ⟨⟨a0, a1, a2, a3⟩, -, -⟩ := hC'
  go_wp2_with fail
  refine (enc_t h _ hd).mono ?_
  rintro e u3 ⟨rfl, l3⟩
  clear a0 a1 a2 a3
  have hA := hA.later l3
  have hC := hC.later l3
  have hl := bt hl l3
  clear l3
  go_wp2_with fail
  refine (dec_e h _).mono ?_
  rintro e u4 ⟨rfl, l4⟩
  have hA := hA.later l4
  have hC := hC.later l4
  have hl := bt (bt hl l4) (bel1 u4 (.cells #[.int .i64 t, .int .i64 f, .int .i64 k, .string d] 23))
  clear l4
  obtain ⟨⟨a0, a1, a2, a3⟩, -, -⟩ := hA.later (bel1 u4 (.cells #[.int .i64 t, .int .i64 f, .int .i64 k, .string d] 23))
  obtain ⟨⟨b0, b1, b2, b3⟩, -, -⟩ := hC.later (bel1 u4 (.cells #[.int .i64 t, .int .i64 f, .int .i64 k, .string d] 23))
  go_wp2_with fail
  refine (dec_t hB _ hs).mono ?_
  rintro e u5 ⟨rfl, l5⟩
  have hl := bt (bt hl l5) (bel1 u5 (.cells #[.int .i64 (deT s), .int .i64 (deF s), .int .i64 (deK s), .string (deD s)] 23))
  clear l5
  go_wp2_with fail
  refine (enc_d hB _).mono ?_
  rintro e u6 ⟨rfl, l6⟩
  have hl := bt hl l6
  go_wp2
  go_ret
  exact ⟨rfl, hl⟩

set_option maxHeartbeats 4000000 in
theorem w_true_n0 (t f k : Int) (d : ByteArray) (hd : d.size ≤ maxLen) (t' f' k' : Int) (d' : ByteArray) (hd' : d'.size ≤ maxLen) (s : ByteArray) (hs : s.size ≤ maxLen) (w : World) (hB : decB s = true) (h : mayB t f k d.size = true) (h' : mayB t' f' k' d'.size = true) (ne : ((encS t f k d).toList == (encS t' f' k' d').toList) = false) (nf : ¬ t = t') :
    Calls Try.prog 5 #[.agg #[.int .i64 t, .int .i64 f, .int .i64 k, .string d], .agg #[.int .i64 t', .int .i64 f', .int .i64 k', .string d'], .string s] w fun e w' => e = .returned (.bool true) ∧ Below w.heap.size w w' := by
  have hA := (at_box w (.int .i64 t) (.int .i64 f) (.int .i64 k) (.string d) 23).later (bel1 _ (.cells #[.int .i64 t', .int .i64 f', .int .i64 k', .string d'] 23))
  have hC := at_box2 w (.cells #[.int .i64 t, .int .i64 f, .int .i64 k, .string d] 23) (.int .i64 t') (.int .i64 f') (.int .i64 k') (.string d') 23
  have hl := bt (bel1 w _) (bel1 (w.alloc (.cells #[.int .i64 t, .int .i64 f, .int .i64 k, .string d] 23)) (.cells #[.int .i64 t', .int .i64 f', .int .i64 k', .string d'] 23))
  go_enter Try.func5, Try.ntmps5
  go_wp2_with fail
  refine (works_any _).mono ?_
  rintro e u1 ⟨rfl, l1⟩
  have hA := hA.later l1
  have hC := hC.later l1
  have hl := bt hl l1
  clear l1
  have hA' := hA
  obtain ⟨⟨a0, a1, a2, a3⟩, -, -⟩ := hA'
  go_wp2_with fail
  refine (enc_t h _ hd).mono ?_
  rintro e u2 ⟨rfl, l2⟩
  clear a0 a1 a2 a3
  have hA := hA.later l2
  have hC := hC.later l2
  have hl := bt hl l2
  clear l2
  have hC' := hC
  obtain ⟨⟨a0, a1, a2, a3⟩, -, -⟩ := hC'
  go_wp2_with fail
  refine (enc_t h' _ hd').mono ?_
  rintro e u3 ⟨rfl, l3⟩
  clear a0 a1 a2 a3
  have hA := hA.later l3
  have hC := hC.later l3
  have hl := bt hl l3
  clear l3
  go_wp2_with fail
  refine (dec_e h _).mono ?_
  rintro e u4 ⟨rfl, l4⟩
  have hA := hA.later l4
  have hC := hC.later l4
  have hl := bt (bt hl l4) (bel1 u4 (.cells #[.int .i64 t, .int .i64 f, .int .i64 k, .string d] 23))
  clear l4
  obtain ⟨⟨a0, a1, a2, a3⟩, -, -⟩ := hA.later (bel1 u4 (.cells #[.int .i64 t, .int .i64 f, .int .i64 k, .string d] 23))
  obtain ⟨⟨b0, b1, b2, b3⟩, -, -⟩ := hC.later (bel1 u4 (.cells #[.int .i64 t, .int .i64 f, .int .i64 k, .string d] 23))
  go_wp2_with fail
  refine (dec_t hB _ hs).mono ?_
  rintro e u5 ⟨rfl, l5⟩
  have hl := bt (bt hl l5) (bel1 u5 (.cells #[.int .i64 (deT s), .int .i64 (deF s), .int .i64 (deK s), .string (deD s)] 23))
  clear l5
  go_wp2_with fail
  refine (enc_d hB _).mono ?_
  rintro e u6 ⟨rfl, l6⟩
  have hl := bt hl l6
  go_wp2
  go_ret
  exact ⟨rfl, hl⟩

set_option maxHeartbeats 4000000 in
theorem w_true_n1 (t f k : Int) (d : ByteArray) (hd : d.size ≤ maxLen) (f' k' : Int) (d' : ByteArray) (hd' : d'.size ≤ maxLen) (s : ByteArray) (hs : s.size ≤ maxLen) (w : World) (hB : decB s = true) (h : mayB t f k d.size = true) (h' : mayB t f' k' d'.size = true) (ne : ((encS t f k d).toList == (encS t f' k' d').toList) = false) (nf : ¬ f = f') :
    Calls Try.prog 5 #[.agg #[.int .i64 t, .int .i64 f, .int .i64 k, .string d], .agg #[.int .i64 t, .int .i64 f', .int .i64 k', .string d'], .string s] w fun e w' => e = .returned (.bool true) ∧ Below w.heap.size w w' := by
  have hA := (at_box w (.int .i64 t) (.int .i64 f) (.int .i64 k) (.string d) 23).later (bel1 _ (.cells #[.int .i64 t, .int .i64 f', .int .i64 k', .string d'] 23))
  have hC := at_box2 w (.cells #[.int .i64 t, .int .i64 f, .int .i64 k, .string d] 23) (.int .i64 t) (.int .i64 f') (.int .i64 k') (.string d') 23
  have hl := bt (bel1 w _) (bel1 (w.alloc (.cells #[.int .i64 t, .int .i64 f, .int .i64 k, .string d] 23)) (.cells #[.int .i64 t, .int .i64 f', .int .i64 k', .string d'] 23))
  go_enter Try.func5, Try.ntmps5
  go_wp2_with fail
  refine (works_any _).mono ?_
  rintro e u1 ⟨rfl, l1⟩
  have hA := hA.later l1
  have hC := hC.later l1
  have hl := bt hl l1
  clear l1
  have hA' := hA
  obtain ⟨⟨a0, a1, a2, a3⟩, -, -⟩ := hA'
  go_wp2_with fail
  refine (enc_t h _ hd).mono ?_
  rintro e u2 ⟨rfl, l2⟩
  clear a0 a1 a2 a3
  have hA := hA.later l2
  have hC := hC.later l2
  have hl := bt hl l2
  clear l2
  have hC' := hC
  obtain ⟨⟨a0, a1, a2, a3⟩, -, -⟩ := hC'
  go_wp2_with fail
  refine (enc_t h' _ hd').mono ?_
  rintro e u3 ⟨rfl, l3⟩
  clear a0 a1 a2 a3
  have hA := hA.later l3
  have hC := hC.later l3
  have hl := bt hl l3
  clear l3
  go_wp2_with fail
  refine (dec_e h _).mono ?_
  rintro e u4 ⟨rfl, l4⟩
  have hA := hA.later l4
  have hC := hC.later l4
  have hl := bt (bt hl l4) (bel1 u4 (.cells #[.int .i64 t, .int .i64 f, .int .i64 k, .string d] 23))
  clear l4
  obtain ⟨⟨a0, a1, a2, a3⟩, -, -⟩ := hA.later (bel1 u4 (.cells #[.int .i64 t, .int .i64 f, .int .i64 k, .string d] 23))
  obtain ⟨⟨b0, b1, b2, b3⟩, -, -⟩ := hC.later (bel1 u4 (.cells #[.int .i64 t, .int .i64 f, .int .i64 k, .string d] 23))
  go_wp2_with fail
  refine (dec_t hB _ hs).mono ?_
  rintro e u5 ⟨rfl, l5⟩
  have hl := bt (bt hl l5) (bel1 u5 (.cells #[.int .i64 (deT s), .int .i64 (deF s), .int .i64 (deK s), .string (deD s)] 23))
  clear l5
  go_wp2_with fail
  refine (enc_d hB _).mono ?_
  rintro e u6 ⟨rfl, l6⟩
  have hl := bt hl l6
  go_wp2
  go_ret
  exact ⟨rfl, hl⟩

set_option maxHeartbeats 4000000 in
theorem w_true_n2 (t f k : Int) (d : ByteArray) (hd : d.size ≤ maxLen) (k' : Int) (d' : ByteArray) (hd' : d'.size ≤ maxLen) (s : ByteArray) (hs : s.size ≤ maxLen) (w : World) (hB : decB s = true) (h : mayB t f k d.size = true) (h' : mayB t f k' d'.size = true) (ne : ((encS t f k d).toList == (encS t f k' d').toList) = false) (nf : ¬ k = k') :
    Calls Try.prog 5 #[.agg #[.int .i64 t, .int .i64 f, .int .i64 k, .string d], .agg #[.int .i64 t, .int .i64 f, .int .i64 k', .string d'], .string s] w fun e w' => e = .returned (.bool true) ∧ Below w.heap.size w w' := by
  have hA := (at_box w (.int .i64 t) (.int .i64 f) (.int .i64 k) (.string d) 23).later (bel1 _ (.cells #[.int .i64 t, .int .i64 f, .int .i64 k', .string d'] 23))
  have hC := at_box2 w (.cells #[.int .i64 t, .int .i64 f, .int .i64 k, .string d] 23) (.int .i64 t) (.int .i64 f) (.int .i64 k') (.string d') 23
  have hl := bt (bel1 w _) (bel1 (w.alloc (.cells #[.int .i64 t, .int .i64 f, .int .i64 k, .string d] 23)) (.cells #[.int .i64 t, .int .i64 f, .int .i64 k', .string d'] 23))
  go_enter Try.func5, Try.ntmps5
  go_wp2_with fail
  refine (works_any _).mono ?_
  rintro e u1 ⟨rfl, l1⟩
  have hA := hA.later l1
  have hC := hC.later l1
  have hl := bt hl l1
  clear l1
  have hA' := hA
  obtain ⟨⟨a0, a1, a2, a3⟩, -, -⟩ := hA'
  go_wp2_with fail
  refine (enc_t h _ hd).mono ?_
  rintro e u2 ⟨rfl, l2⟩
  clear a0 a1 a2 a3
  have hA := hA.later l2
  have hC := hC.later l2
  have hl := bt hl l2
  clear l2
  have hC' := hC
  obtain ⟨⟨a0, a1, a2, a3⟩, -, -⟩ := hC'
  go_wp2_with fail
  refine (enc_t h' _ hd').mono ?_
  rintro e u3 ⟨rfl, l3⟩
  clear a0 a1 a2 a3
  have hA := hA.later l3
  have hC := hC.later l3
  have hl := bt hl l3
  clear l3
  go_wp2_with fail
  refine (dec_e h _).mono ?_
  rintro e u4 ⟨rfl, l4⟩
  have hA := hA.later l4
  have hC := hC.later l4
  have hl := bt (bt hl l4) (bel1 u4 (.cells #[.int .i64 t, .int .i64 f, .int .i64 k, .string d] 23))
  clear l4
  obtain ⟨⟨a0, a1, a2, a3⟩, -, -⟩ := hA.later (bel1 u4 (.cells #[.int .i64 t, .int .i64 f, .int .i64 k, .string d] 23))
  obtain ⟨⟨b0, b1, b2, b3⟩, -, -⟩ := hC.later (bel1 u4 (.cells #[.int .i64 t, .int .i64 f, .int .i64 k, .string d] 23))
  go_wp2_with fail
  refine (dec_t hB _ hs).mono ?_
  rintro e u5 ⟨rfl, l5⟩
  have hl := bt (bt hl l5) (bel1 u5 (.cells #[.int .i64 (deT s), .int .i64 (deF s), .int .i64 (deK s), .string (deD s)] 23))
  clear l5
  go_wp2_with fail
  refine (enc_d hB _).mono ?_
  rintro e u6 ⟨rfl, l6⟩
  have hl := bt hl l6
  go_wp2
  go_ret
  exact ⟨rfl, hl⟩

set_option maxHeartbeats 4000000 in
theorem w_true_n3 (t f k : Int) (d : ByteArray) (hd : d.size ≤ maxLen) (d' : ByteArray) (hd' : d'.size ≤ maxLen) (s : ByteArray) (hs : s.size ≤ maxLen) (w : World) (hB : decB s = true) (h : mayB t f k d.size = true) (h' : mayB t f k d'.size = true) (ne : ((encS t f k d).toList == (encS t f k d').toList) = false) (nf : ¬ d.toList = d'.toList) :
    Calls Try.prog 5 #[.agg #[.int .i64 t, .int .i64 f, .int .i64 k, .string d], .agg #[.int .i64 t, .int .i64 f, .int .i64 k, .string d'], .string s] w fun e w' => e = .returned (.bool true) ∧ Below w.heap.size w w' := by
  have hA := (at_box w (.int .i64 t) (.int .i64 f) (.int .i64 k) (.string d) 23).later (bel1 _ (.cells #[.int .i64 t, .int .i64 f, .int .i64 k, .string d'] 23))
  have hC := at_box2 w (.cells #[.int .i64 t, .int .i64 f, .int .i64 k, .string d] 23) (.int .i64 t) (.int .i64 f) (.int .i64 k) (.string d') 23
  have hl := bt (bel1 w _) (bel1 (w.alloc (.cells #[.int .i64 t, .int .i64 f, .int .i64 k, .string d] 23)) (.cells #[.int .i64 t, .int .i64 f, .int .i64 k, .string d'] 23))
  go_enter Try.func5, Try.ntmps5
  go_wp2_with fail
  refine (works_any _).mono ?_
  rintro e u1 ⟨rfl, l1⟩
  have hA := hA.later l1
  have hC := hC.later l1
  have hl := bt hl l1
  clear l1
  have hA' := hA
  obtain ⟨⟨a0, a1, a2, a3⟩, -, -⟩ := hA'
  go_wp2_with fail
  refine (enc_t h _ hd).mono ?_
  rintro e u2 ⟨rfl, l2⟩
  clear a0 a1 a2 a3
  have hA := hA.later l2
  have hC := hC.later l2
  have hl := bt hl l2
  clear l2
  have hC' := hC
  obtain ⟨⟨a0, a1, a2, a3⟩, -, -⟩ := hC'
  go_wp2_with fail
  refine (enc_t h' _ hd').mono ?_
  rintro e u3 ⟨rfl, l3⟩
  clear a0 a1 a2 a3
  have hA := hA.later l3
  have hC := hC.later l3
  have hl := bt hl l3
  clear l3
  go_wp2_with fail
  refine (dec_e h _).mono ?_
  rintro e u4 ⟨rfl, l4⟩
  have hA := hA.later l4
  have hC := hC.later l4
  have hl := bt (bt hl l4) (bel1 u4 (.cells #[.int .i64 t, .int .i64 f, .int .i64 k, .string d] 23))
  clear l4
  obtain ⟨⟨a0, a1, a2, a3⟩, -, -⟩ := hA.later (bel1 u4 (.cells #[.int .i64 t, .int .i64 f, .int .i64 k, .string d] 23))
  obtain ⟨⟨b0, b1, b2, b3⟩, -, -⟩ := hC.later (bel1 u4 (.cells #[.int .i64 t, .int .i64 f, .int .i64 k, .string d] 23))
  go_wp2_with fail
  refine (dec_t hB _ hs).mono ?_
  rintro e u5 ⟨rfl, l5⟩
  have hl := bt (bt hl l5) (bel1 u5 (.cells #[.int .i64 (deT s), .int .i64 (deF s), .int .i64 (deK s), .string (deD s)] 23))
  clear l5
  go_wp2_with fail
  refine (enc_d hB _).mono ?_
  rintro e u6 ⟨rfl, l6⟩
  have hl := bt hl l6
  go_wp2
  go_ret
  exact ⟨rfl, hl⟩

set_option maxHeartbeats 4000000 in
theorem w_false_ff (t f k : Int) (d : ByteArray) (hd : d.size ≤ maxLen) (t' f' k' : Int) (d' : ByteArray) (hd' : d'.size ≤ maxLen) (s : ByteArray) (hs : s.size ≤ maxLen) (w : World) (hB : decB s = false) (h : mayB t f k d.size = false) (h' : mayB t' f' k' d'.size = false) :
    Calls Try.prog 5 #[.agg #[.int .i64 t, .int .i64 f, .int .i64 k, .string d], .agg #[.int .i64 t', .int .i64 f', .int .i64 k', .string d'], .string s] w fun e w' => e = .returned (.bool true) ∧ Below w.heap.size w w' := by
  have hA := (at_box w (.int .i64 t) (.int .i64 f) (.int .i64 k) (.string d) 23).later (bel1 _ (.cells #[.int .i64 t', .int .i64 f', .int .i64 k', .string d'] 23))
  have hC := at_box2 w (.cells #[.int .i64 t, .int .i64 f, .int .i64 k, .string d] 23) (.int .i64 t') (.int .i64 f') (.int .i64 k') (.string d') 23
  have hl := bt (bel1 w _) (bel1 (w.alloc (.cells #[.int .i64 t, .int .i64 f, .int .i64 k, .string d] 23)) (.cells #[.int .i64 t', .int .i64 f', .int .i64 k', .string d'] 23))
  go_enter Try.func5, Try.ntmps5
  go_wp2_with fail
  refine (works_any _).mono ?_
  rintro e u1 ⟨rfl, l1⟩
  have hA := hA.later l1
  have hC := hC.later l1
  have hl := bt hl l1
  clear l1
  have hA' := hA
  obtain ⟨⟨a0, a1, a2, a3⟩, -, -⟩ := hA'
  go_wp2_with fail
  refine (enc_f h _ hd).mono ?_
  rintro e u2 ⟨rfl, l2⟩
  clear a0 a1 a2 a3
  have hA := hA.later l2
  have hC := hC.later l2
  have hl := bt hl l2
  clear l2
  have hC' := hC
  obtain ⟨⟨a0, a1, a2, a3⟩, -, -⟩ := hC'
  go_wp2_with fail
  refine (enc_f h' _ hd').mono ?_
  rintro e u3 ⟨rfl, l3⟩
  clear a0 a1 a2 a3
  have hA := hA.later l3
  have hC := hC.later l3
  have hl := bt hl l3
  clear l3
  go_wp2_with fail
  refine (dec_f hB _ hs).mono ?_
  rintro e u5 ⟨rfl, l5⟩
  have hl := bt (bt hl l5) (bel1 u5 (.cells #[.int .i64 0, .int .i64 0, .int .i64 0, .string ⟨#[]⟩] 23))
  go_wp2
  go_ret
  exact ⟨rfl, hl⟩

set_option maxHeartbeats 4000000 in
theorem w_false_ft (t f k : Int) (d : ByteArray) (hd : d.size ≤ maxLen) (t' f' k' : Int) (d' : ByteArray) (hd' : d'.size ≤ maxLen) (s : ByteArray) (hs : s.size ≤ maxLen) (w : World) (hB : decB s = false) (h : mayB t f k d.size = false) (h' : mayB t' f' k' d'.size = true) :
    Calls Try.prog 5 #[.agg #[.int .i64 t, .int .i64 f, .int .i64 k, .string d], .agg #[.int .i64 t', .int .i64 f', .int .i64 k', .string d'], .string s] w fun e w' => e = .returned (.bool true) ∧ Below w.heap.size w w' := by
  have hA := (at_box w (.int .i64 t) (.int .i64 f) (.int .i64 k) (.string d) 23).later (bel1 _ (.cells #[.int .i64 t', .int .i64 f', .int .i64 k', .string d'] 23))
  have hC := at_box2 w (.cells #[.int .i64 t, .int .i64 f, .int .i64 k, .string d] 23) (.int .i64 t') (.int .i64 f') (.int .i64 k') (.string d') 23
  have hl := bt (bel1 w _) (bel1 (w.alloc (.cells #[.int .i64 t, .int .i64 f, .int .i64 k, .string d] 23)) (.cells #[.int .i64 t', .int .i64 f', .int .i64 k', .string d'] 23))
  go_enter Try.func5, Try.ntmps5
  go_wp2_with fail
  refine (works_any _).mono ?_
  rintro e u1 ⟨rfl, l1⟩
  have hA := hA.later l1
  have hC := hC.later l1
  have hl := bt hl l1
  clear l1
  have hA' := hA
  obtain ⟨⟨a0, a1, a2, a3⟩, -, -⟩ := hA'
  go_wp2_with fail
  refine (enc_f h _ hd).mono ?_
  rintro e u2 ⟨rfl, l2⟩
  clear a0 a1 a2 a3
  have hA := hA.later l2
  have hC := hC.later l2
  have hl := bt hl l2
  clear l2
  have hC' := hC
  obtain ⟨⟨a0, a1, a2, a3⟩, -, -⟩ := hC'
  go_wp2_with fail
  refine (enc_t h' _ hd').mono ?_
  rintro e u3 ⟨rfl, l3⟩
  clear a0 a1 a2 a3
  have hA := hA.later l3
  have hC := hC.later l3
  have hl := bt hl l3
  clear l3
  go_wp2_with fail
  refine (dec_f hB _ hs).mono ?_
  rintro e u5 ⟨rfl, l5⟩
  have hl := bt (bt hl l5) (bel1 u5 (.cells #[.int .i64 0, .int .i64 0, .int .i64 0, .string ⟨#[]⟩] 23))
  go_wp2
  go_ret
  exact ⟨rfl, hl⟩

set_option maxHeartbeats 4000000 in
theorem w_false_tf (t f k : Int) (d : ByteArray) (hd : d.size ≤ maxLen) (t' f' k' : Int) (d' : ByteArray) (hd' : d'.size ≤ maxLen) (s : ByteArray) (hs : s.size ≤ maxLen) (w : World) (hB : decB s = false) (h : mayB t f k d.size = true) (h' : mayB t' f' k' d'.size = false) :
    Calls Try.prog 5 #[.agg #[.int .i64 t, .int .i64 f, .int .i64 k, .string d], .agg #[.int .i64 t', .int .i64 f', .int .i64 k', .string d'], .string s] w fun e w' => e = .returned (.bool true) ∧ Below w.heap.size w w' := by
  have hA := (at_box w (.int .i64 t) (.int .i64 f) (.int .i64 k) (.string d) 23).later (bel1 _ (.cells #[.int .i64 t', .int .i64 f', .int .i64 k', .string d'] 23))
  have hC := at_box2 w (.cells #[.int .i64 t, .int .i64 f, .int .i64 k, .string d] 23) (.int .i64 t') (.int .i64 f') (.int .i64 k') (.string d') 23
  have hl := bt (bel1 w _) (bel1 (w.alloc (.cells #[.int .i64 t, .int .i64 f, .int .i64 k, .string d] 23)) (.cells #[.int .i64 t', .int .i64 f', .int .i64 k', .string d'] 23))
  go_enter Try.func5, Try.ntmps5
  go_wp2_with fail
  refine (works_any _).mono ?_
  rintro e u1 ⟨rfl, l1⟩
  have hA := hA.later l1
  have hC := hC.later l1
  have hl := bt hl l1
  clear l1
  have hA' := hA
  obtain ⟨⟨a0, a1, a2, a3⟩, -, -⟩ := hA'
  go_wp2_with fail
  refine (enc_t h _ hd).mono ?_
  rintro e u2 ⟨rfl, l2⟩
  clear a0 a1 a2 a3
  have hA := hA.later l2
  have hC := hC.later l2
  have hl := bt hl l2
  clear l2
  have hC' := hC
  obtain ⟨⟨a0, a1, a2, a3⟩, -, -⟩ := hC'
  go_wp2_with fail
  refine (enc_f h' _ hd').mono ?_
  rintro e u3 ⟨rfl, l3⟩
  clear a0 a1 a2 a3
  have hA := hA.later l3
  have hC := hC.later l3
  have hl := bt hl l3
  clear l3
  go_wp2_with fail
  refine (dec_e h _).mono ?_
  rintro e u4 ⟨rfl, l4⟩
  have hA := hA.later l4
  have hC := hC.later l4
  have hl := bt (bt hl l4) (bel1 u4 (.cells #[.int .i64 t, .int .i64 f, .int .i64 k, .string d] 23))
  clear l4
  obtain ⟨⟨a0, a1, a2, a3⟩, -, -⟩ := hA.later (bel1 u4 (.cells #[.int .i64 t, .int .i64 f, .int .i64 k, .string d] 23))
  obtain ⟨⟨b0, b1, b2, b3⟩, -, -⟩ := hC.later (bel1 u4 (.cells #[.int .i64 t, .int .i64 f, .int .i64 k, .string d] 23))
  go_wp2_with fail
  refine (dec_f hB _ hs).mono ?_
  rintro e u5 ⟨rfl, l5⟩
  have hl := bt (bt hl l5) (bel1 u5 (.cells #[.int .i64 0, .int .i64 0, .int .i64 0, .string ⟨#[]⟩] 23))
  go_wp2
  go_ret
  exact ⟨rfl, hl⟩

set_option maxHeartbeats 4000000 in
theorem w_false_eq (t f k : Int) (d : ByteArray) (hd : d.size ≤ maxLen) (s : ByteArray) (hs : s.size ≤ maxLen) (w : World) (hB : decB s = false) (h : mayB t f k d.size = true) :
    Calls Try.prog 5 #[.agg #[.int .i64 t, .int .i64 f, .int .i64 k, .string d], .agg #[.int .i64 t, .int .i64 f, .int .i64 k, .string d], .string s] w fun e w' => e = .returned (.bool true) ∧ Below w.heap.size w w' := by
  have hA := (at_box w (.int .i64 t) (.int .i64 f) (.int .i64 k) (.string d) 23).later (bel1 _ (.cells #[.int .i64 t, .int .i64 f, .int .i64 k, .string d] 23))
  have hC := at_box2 w (.cells #[.int .i64 t, .int .i64 f, .int .i64 k, .string d] 23) (.int .i64 t) (.int .i64 f) (.int .i64 k) (.string d) 23
  have hl := bt (bel1 w _) (bel1 (w.alloc (.cells #[.int .i64 t, .int .i64 f, .int .i64 k, .string d] 23)) (.cells #[.int .i64 t, .int .i64 f, .int .i64 k, .string d] 23))
  go_enter Try.func5, Try.ntmps5
  go_wp2_with fail
  refine (works_any _).mono ?_
  rintro e u1 ⟨rfl, l1⟩
  have hA := hA.later l1
  have hC := hC.later l1
  have hl := bt hl l1
  clear l1
  have hA' := hA
  obtain ⟨⟨a0, a1, a2, a3⟩, -, -⟩ := hA'
  go_wp2_with fail
  refine (enc_t h _ hd).mono ?_
  rintro e u2 ⟨rfl, l2⟩
  clear a0 a1 a2 a3
  have hA := hA.later l2
  have hC := hC.later l2
  have hl := bt hl l2
  clear l2
  have hC' := hC
  obtain ⟨⟨a0, a1, a2, a3⟩, -, -⟩ := hC'
  go_wp2_with fail
  refine (enc_t h _ hd).mono ?_
  rintro e u3 ⟨rfl, l3⟩
  clear a0 a1 a2 a3
  have hA := hA.later l3
  have hC := hC.later l3
  have hl := bt hl l3
  clear l3
  go_wp2_with fail
  refine (dec_e h _).mono ?_
  rintro e u4 ⟨rfl, l4⟩
  have hA := hA.later l4
  have hC := hC.later l4
  have hl := bt (bt hl l4) (bel1 u4 (.cells #[.int .i64 t, .int .i64 f, .int .i64 k, .string d] 23))
  clear l4
  obtain ⟨⟨a0, a1, a2, a3⟩, -, -⟩ := hA.later (bel1 u4 (.cells #[.int .i64 t, .int .i64 f, .int .i64 k, .string d] 23))
  obtain ⟨⟨b0, b1, b2, b3⟩, -, -⟩ := hC.later (bel1 u4 (.cells #[.int .i64 t, .int .i64 f, .int .i64 k, .string d] 23))
  go_wp2_with fail
  refine (dec_f hB _ hs).mono ?_
  rintro e u5 ⟨rfl, l5⟩
  have hl := bt (bt hl l5) (bel1 u5 (.cells #[.int .i64 0, .int .i64 0, .int .i64 0, .string ⟨#[]⟩] 23))
  go_wp2
  go_ret
  exact ⟨rfl, hl⟩

set_option maxHeartbeats 4000000 in
theorem w_false_n0 (t f k : Int) (d : ByteArray) (hd : d.size ≤ maxLen) (t' f' k' : Int) (d' : ByteArray) (hd' : d'.size ≤ maxLen) (s : ByteArray) (hs : s.size ≤ maxLen) (w : World) (hB : decB s = false) (h : mayB t f k d.size = true) (h' : mayB t' f' k' d'.size = true) (ne : ((encS t f k d).toList == (encS t' f' k' d').toList) = false) (nf : ¬ t = t') :
    Calls Try.prog 5 #[.agg #[.int .i64 t, .int .i64 f, .int .i64 k, .string d], .agg #[.int .i64 t', .int .i64 f', .int .i64 k', .string d'], .string s] w fun e w' => e = .returned (.bool true) ∧ Below w.heap.size w w' := by
  have hA := (at_box w (.int .i64 t) (.int .i64 f) (.int .i64 k) (.string d) 23).later (bel1 _ (.cells #[.int .i64 t', .int .i64 f', .int .i64 k', .string d'] 23))
  have hC := at_box2 w (.cells #[.int .i64 t, .int .i64 f, .int .i64 k, .string d] 23) (.int .i64 t') (.int .i64 f') (.int .i64 k') (.string d') 23
  have hl := bt (bel1 w _) (bel1 (w.alloc (.cells #[.int .i64 t, .int .i64 f, .int .i64 k, .string d] 23)) (.cells #[.int .i64 t', .int .i64 f', .int .i64 k', .string d'] 23))
  go_enter Try.func5, Try.ntmps5
  go_wp2_with fail
  refine (works_any _).mono ?_
  rintro e u1 ⟨rfl, l1⟩
  have hA := hA.later l1
  have hC := hC.later l1
  have hl := bt hl l1
  clear l1
  have hA' := hA
  obtain ⟨⟨a0, a1, a2, a3⟩, -, -⟩ := hA'
  go_wp2_with fail
  refine (enc_t h _ hd).mono ?_
  rintro e u2 ⟨rfl, l2⟩
  clear a0 a1 a2 a3
  have hA := hA.later l2
  have hC := hC.later l2
  have hl := bt hl l2
  clear l2
  have hC' := hC
  obtain ⟨⟨a0, a1, a2, a3⟩, -, -⟩ := hC'
  go_wp2_with fail
  refine (enc_t h' _ hd').mono ?_
  rintro e u3 ⟨rfl, l3⟩
  clear a0 a1 a2 a3
  have hA := hA.later l3
  have hC := hC.later l3
  have hl := bt hl l3
  clear l3
  go_wp2_with fail
  refine (dec_e h _).mono ?_
  rintro e u4 ⟨rfl, l4⟩
  have hA := hA.later l4
  have hC := hC.later l4
  have hl := bt (bt hl l4) (bel1 u4 (.cells #[.int .i64 t, .int .i64 f, .int .i64 k, .string d] 23))
  clear l4
  obtain ⟨⟨a0, a1, a2, a3⟩, -, -⟩ := hA.later (bel1 u4 (.cells #[.int .i64 t, .int .i64 f, .int .i64 k, .string d] 23))
  obtain ⟨⟨b0, b1, b2, b3⟩, -, -⟩ := hC.later (bel1 u4 (.cells #[.int .i64 t, .int .i64 f, .int .i64 k, .string d] 23))
  go_wp2_with fail
  refine (dec_f hB _ hs).mono ?_
  rintro e u5 ⟨rfl, l5⟩
  have hl := bt (bt hl l5) (bel1 u5 (.cells #[.int .i64 0, .int .i64 0, .int .i64 0, .string ⟨#[]⟩] 23))
  go_wp2
  go_ret
  exact ⟨rfl, hl⟩

set_option maxHeartbeats 4000000 in
theorem w_false_n1 (t f k : Int) (d : ByteArray) (hd : d.size ≤ maxLen) (f' k' : Int) (d' : ByteArray) (hd' : d'.size ≤ maxLen) (s : ByteArray) (hs : s.size ≤ maxLen) (w : World) (hB : decB s = false) (h : mayB t f k d.size = true) (h' : mayB t f' k' d'.size = true) (ne : ((encS t f k d).toList == (encS t f' k' d').toList) = false) (nf : ¬ f = f') :
    Calls Try.prog 5 #[.agg #[.int .i64 t, .int .i64 f, .int .i64 k, .string d], .agg #[.int .i64 t, .int .i64 f', .int .i64 k', .string d'], .string s] w fun e w' => e = .returned (.bool true) ∧ Below w.heap.size w w' := by
  have hA := (at_box w (.int .i64 t) (.int .i64 f) (.int .i64 k) (.string d) 23).later (bel1 _ (.cells #[.int .i64 t, .int .i64 f', .int .i64 k', .string d'] 23))
  have hC := at_box2 w (.cells #[.int .i64 t, .int .i64 f, .int .i64 k, .string d] 23) (.int .i64 t) (.int .i64 f') (.int .i64 k') (.string d') 23
  have hl := bt (bel1 w _) (bel1 (w.alloc (.cells #[.int .i64 t, .int .i64 f, .int .i64 k, .string d] 23)) (.cells #[.int .i64 t, .int .i64 f', .int .i64 k', .string d'] 23))
  go_enter Try.func5, Try.ntmps5
  go_wp2_with fail
  refine (works_any _).mono ?_
  rintro e u1 ⟨rfl, l1⟩
  have hA := hA.later l1
  have hC := hC.later l1
  have hl := bt hl l1
  clear l1
  have hA' := hA
  obtain ⟨⟨a0, a1, a2, a3⟩, -, -⟩ := hA'
  go_wp2_with fail
  refine (enc_t h _ hd).mono ?_
  rintro e u2 ⟨rfl, l2⟩
  clear a0 a1 a2 a3
  have hA := hA.later l2
  have hC := hC.later l2
  have hl := bt hl l2
  clear l2
  have hC' := hC
  obtain ⟨⟨a0, a1, a2, a3⟩, -, -⟩ := hC'
  go_wp2_with fail
  refine (enc_t h' _ hd').mono ?_
  rintro e u3 ⟨rfl, l3⟩
  clear a0 a1 a2 a3
  have hA := hA.later l3
  have hC := hC.later l3
  have hl := bt hl l3
  clear l3
  go_wp2_with fail
  refine (dec_e h _).mono ?_
  rintro e u4 ⟨rfl, l4⟩
  have hA := hA.later l4
  have hC := hC.later l4
  have hl := bt (bt hl l4) (bel1 u4 (.cells #[.int .i64 t, .int .i64 f, .int .i64 k, .string d] 23))
  clear l4
  obtain ⟨⟨a0, a1, a2, a3⟩, -, -⟩ := hA.later (bel1 u4 (.cells #[.int .i64 t, .int .i64 f, .int .i64 k, .string d] 23))
  obtain ⟨⟨b0, b1, b2, b3⟩, -, -⟩ := hC.later (bel1 u4 (.cells #[.int .i64 t, .int .i64 f, .int .i64 k, .string d] 23))
  go_wp2_with fail
  refine (dec_f hB _ hs).mono ?_
  rintro e u5 ⟨rfl, l5⟩
  have hl := bt (bt hl l5) (bel1 u5 (.cells #[.int .i64 0, .int .i64 0, .int .i64 0, .string ⟨#[]⟩] 23))
  go_wp2
  go_ret
  exact ⟨rfl, hl⟩

set_option maxHeartbeats 4000000 in
theorem w_false_n2 (t f k : Int) (d : ByteArray) (hd : d.size ≤ maxLen) (k' : Int) (d' : ByteArray) (hd' : d'.size ≤ maxLen) (s : ByteArray) (hs : s.size ≤ maxLen) (w : World) (hB : decB s = false) (h : mayB t f k d.size = true) (h' : mayB t f k' d'.size = true) (ne : ((encS t f k d).toList == (encS t f k' d').toList) = false) (nf : ¬ k = k') :
    Calls Try.prog 5 #[.agg #[.int .i64 t, .int .i64 f, .int .i64 k, .string d], .agg #[.int .i64 t, .int .i64 f, .int .i64 k', .string d'], .string s] w fun e w' => e = .returned (.bool true) ∧ Below w.heap.size w w' := by
  have hA := (at_box w (.int .i64 t) (.int .i64 f) (.int .i64 k) (.string d) 23).later (bel1 _ (.cells #[.int .i64 t, .int .i64 f, .int .i64 k', .string d'] 23))
  have hC := at_box2 w (.cells #[.int .i64 t, .int .i64 f, .int .i64 k, .string d] 23) (.int .i64 t) (.int .i64 f) (.int .i64 k') (.string d') 23
  have hl := bt (bel1 w _) (bel1 (w.alloc (.cells #[.int .i64 t, .int .i64 f, .int .i64 k, .string d] 23)) (.cells #[.int .i64 t, .int .i64 f, .int .i64 k', .string d'] 23))
  go_enter Try.func5, Try.ntmps5
  go_wp2_with fail
  refine (works_any _).mono ?_
  rintro e u1 ⟨rfl, l1⟩
  have hA := hA.later l1
  have hC := hC.later l1
  have hl := bt hl l1
  clear l1
  have hA' := hA
  obtain ⟨⟨a0, a1, a2, a3⟩, -, -⟩ := hA'
  go_wp2_with fail
  refine (enc_t h _ hd).mono ?_
  rintro e u2 ⟨rfl, l2⟩
  clear a0 a1 a2 a3
  have hA := hA.later l2
  have hC := hC.later l2
  have hl := bt hl l2
  clear l2
  have hC' := hC
  obtain ⟨⟨a0, a1, a2, a3⟩, -, -⟩ := hC'
  go_wp2_with fail
  refine (enc_t h' _ hd').mono ?_
  rintro e u3 ⟨rfl, l3⟩
  clear a0 a1 a2 a3
  have hA := hA.later l3
  have hC := hC.later l3
  have hl := bt hl l3
  clear l3
  go_wp2_with fail
  refine (dec_e h _).mono ?_
  rintro e u4 ⟨rfl, l4⟩
  have hA := hA.later l4
  have hC := hC.later l4
  have hl := bt (bt hl l4) (bel1 u4 (.cells #[.int .i64 t, .int .i64 f, .int .i64 k, .string d] 23))
  clear l4
  obtain ⟨⟨a0, a1, a2, a3⟩, -, -⟩ := hA.later (bel1 u4 (.cells #[.int .i64 t, .int .i64 f, .int .i64 k, .string d] 23))
  obtain ⟨⟨b0, b1, b2, b3⟩, -, -⟩ := hC.later (bel1 u4 (.cells #[.int .i64 t, .int .i64 f, .int .i64 k, .string d] 23))
  go_wp2_with fail
  refine (dec_f hB _ hs).mono ?_
  rintro e u5 ⟨rfl, l5⟩
  have hl := bt (bt hl l5) (bel1 u5 (.cells #[.int .i64 0, .int .i64 0, .int .i64 0, .string ⟨#[]⟩] 23))
  go_wp2
  go_ret
  exact ⟨rfl, hl⟩

set_option maxHeartbeats 4000000 in
theorem w_false_n3 (t f k : Int) (d : ByteArray) (hd : d.size ≤ maxLen) (d' : ByteArray) (hd' : d'.size ≤ maxLen) (s : ByteArray) (hs : s.size ≤ maxLen) (w : World) (hB : decB s = false) (h : mayB t f k d.size = true) (h' : mayB t f k d'.size = true) (ne : ((encS t f k d).toList == (encS t f k d').toList) = false) (nf : ¬ d.toList = d'.toList) :
    Calls Try.prog 5 #[.agg #[.int .i64 t, .int .i64 f, .int .i64 k, .string d], .agg #[.int .i64 t, .int .i64 f, .int .i64 k, .string d'], .string s] w fun e w' => e = .returned (.bool true) ∧ Below w.heap.size w w' := by
  have hA := (at_box w (.int .i64 t) (.int .i64 f) (.int .i64 k) (.string d) 23).later (bel1 _ (.cells #[.int .i64 t, .int .i64 f, .int .i64 k, .string d'] 23))
  have hC := at_box2 w (.cells #[.int .i64 t, .int .i64 f, .int .i64 k, .string d] 23) (.int .i64 t) (.int .i64 f) (.int .i64 k) (.string d') 23
  have hl := bt (bel1 w _) (bel1 (w.alloc (.cells #[.int .i64 t, .int .i64 f, .int .i64 k, .string d] 23)) (.cells #[.int .i64 t, .int .i64 f, .int .i64 k, .string d'] 23))
  go_enter Try.func5, Try.ntmps5
  go_wp2_with fail
  refine (works_any _).mono ?_
  rintro e u1 ⟨rfl, l1⟩
  have hA := hA.later l1
  have hC := hC.later l1
  have hl := bt hl l1
  clear l1
  have hA' := hA
  obtain ⟨⟨a0, a1, a2, a3⟩, -, -⟩ := hA'
  go_wp2_with fail
  refine (enc_t h _ hd).mono ?_
  rintro e u2 ⟨rfl, l2⟩
  clear a0 a1 a2 a3
  have hA := hA.later l2
  have hC := hC.later l2
  have hl := bt hl l2
  clear l2
  have hC' := hC
  obtain ⟨⟨a0, a1, a2, a3⟩, -, -⟩ := hC'
  go_wp2_with fail
  refine (enc_t h' _ hd').mono ?_
  rintro e u3 ⟨rfl, l3⟩
  clear a0 a1 a2 a3
  have hA := hA.later l3
  have hC := hC.later l3
  have hl := bt hl l3
  clear l3
  go_wp2_with fail
  refine (dec_e h _).mono ?_
  rintro e u4 ⟨rfl, l4⟩
  have hA := hA.later l4
  have hC := hC.later l4
  have hl := bt (bt hl l4) (bel1 u4 (.cells #[.int .i64 t, .int .i64 f, .int .i64 k, .string d] 23))
  clear l4
  obtain ⟨⟨a0, a1, a2, a3⟩, -, -⟩ := hA.later (bel1 u4 (.cells #[.int .i64 t, .int .i64 f, .int .i64 k, .string d] 23))
  obtain ⟨⟨b0, b1, b2, b3⟩, -, -⟩ := hC.later (bel1 u4 (.cells #[.int .i64 t, .int .i64 f, .int .i64 k, .string d] 23))
  go_wp2_with fail
  refine (dec_f hB _ hs).mono ?_
  rintro e u5 ⟨rfl, l5⟩
  have hl := bt (bt hl l5) (bel1 u5 (.cells #[.int .i64 0, .int .i64 0, .int .i64 0, .string ⟨#[]⟩] 23))
  go_wp2
  go_ret
  exact ⟨rfl, hl⟩

theorem walk (t : Int) (wt : (Lit.int .i64 t).wf = true) (f : Int) (wf : (Lit.int .i64 f).wf = true) (k : Int) (wk : (Lit.int .i64 k).wf = true) (d : ByteArray) (hd : d.size ≤ maxLen)
    (t' : Int) (wt' : (Lit.int .i64 t').wf = true) (f' : Int) (wf' : (Lit.int .i64 f').wf = true) (k' : Int) (wk' : (Lit.int .i64 k').wf = true) (d' : ByteArray) (hd' : d'.size ≤ maxLen) (s : ByteArray) (hs : s.size ≤ maxLen) (w : World) :
    Calls Try.prog 5 #[.agg #[.int .i64 t, .int .i64 f, .int .i64 k, .string d], .agg #[.int .i64 t', .int .i64 f', .int .i64 k', .string d'], .string s] w fun e w' => e = .returned (.bool true) ∧ Below w.heap.size w w' := by
  rcases Bool.eq_false_or_eq_true (decB s) with hB | hB
  all_goals
    rcases Bool.eq_false_or_eq_true (mayB t f k d.size) with h | h
    · rcases Bool.eq_false_or_eq_true (mayB t' f' k' d'.size) with h' | h'
      · by_cases e : t = t' ∧ f = f' ∧ k = k' ∧ d = d'
        · obtain ⟨rfl, rfl, rfl, rfl⟩ := e
          first | exact w_true_eq t f k d hd s hs w hB h | exact w_false_eq t f k d hd s hs w hB h
        · have ne : ((encS t f k d).toList == (encS t' f' k' d').toList) = false := by
            rw [beq_eq_false_iff_ne]
            exact fun q => e (un_enc h h' (list_inj q))
          by_cases e1 : t = t'
          · subst e1
            by_cases e2 : f = f'
            · subst e2
              by_cases e3 : k = k'
              · subst e3
                have e4 : ¬ d.toList = d'.toList := fun q => e ⟨rfl, rfl, rfl, list_inj q⟩
                first | exact w_true_n3 t f k d hd d' hd' s hs w hB h h' ne e4 | exact w_false_n3 t f k d hd d' hd' s hs w hB h h' ne e4
              · first | exact w_true_n2 t f k d hd k' d' hd' s hs w hB h h' ne e3 | exact w_false_n2 t f k d hd k' d' hd' s hs w hB h h' ne e3
            · first | exact w_true_n1 t f k d hd f' k' d' hd' s hs w hB h h' ne e2 | exact w_false_n1 t f k d hd f' k' d' hd' s hs w hB h h' ne e2
          · first | exact w_true_n0 t f k d hd t' f' k' d' hd' s hs w hB h h' ne e1 | exact w_false_n0 t f k d hd t' f' k' d' hd' s hs w hB h h' ne e1
      · first | exact w_true_tf t f k d hd t' f' k' d' hd' s hs w hB h h' | exact w_false_tf t f k d hd t' f' k' d' hd' s hs w hB h h'
    · rcases Bool.eq_false_or_eq_true (mayB t' f' k' d'.size) with h' | h'
      · first | exact w_true_ft t f k d hd t' f' k' d' hd' s hs w hB h h' | exact w_false_ft t f k d hd t' f' k' d' hd' s hs w hB h h'
      · first | exact w_true_ff t f k d hd t' f' k' d' hd' s hs w hB h h' | exact w_false_ff t f k d hd t' f' k' d' hd' s hs w hB h h'


set_option maxRecDepth 100000 in
theorem lifted (os : Os) (started : os.Started) (H : Type) (enc : TypeId × Value → H) :
    ReturnsInHanded {} Try.checked os 5 .any (Rows.etherBackSpec.pre6 enc Try.prog Try.f5 Rows.etherBackRow.domain false) (Rows.etherBackSpec.post enc Try.prog Try.f5 false true false false) := by
  refine returnsInHanded_of_change (C := Try.checked) own started (by kernel_rfl) Try.func5
    (ChangeSpec.witness6 (enc := enc) (C := Try.checked) false ⟨#[], #[.agg #[.int .i64 0, .int .i64 0, .int .i64 0, .string ByteArray.empty], .agg #[.int .i64 0, .int .i64 0, .int .i64 0, .string ByteArray.empty], .string ByteArray.empty], []⟩ 8 (by kernel_rfl) (by kernel_rfl) (by kernel_rfl) (by kernel_rfl)) ?_
  intro W base args ds gs before hval0 hW hcnd _
  have hval : ∀ (j : Nat) t v, Try.f5.params[j]? = some t → args[j]? = some v → Value.okWide Try.prog W .any base t v := hval0
  have hW' := hW
  obtain ⟨p, q, hA0, hV, rfl, hfz, hnd⟩ := hW
  have hA : DataW.TrodAll enc Try.prog W 0 (fun _ => true) true Try.f5.params.toList args.toList ds p := hA0
  rw [Try.params5] at hA hval
  obtain ⟨v0, vs0, d0, ds0, p0, q0, hargs, rfl, rfl, h0, r0⟩ := trodAll_cons hA
  obtain ⟨v1, vs1, d1, ds1, p1, q1, rfl, rfl, rfl, h1, r1⟩ := trodAll_cons r0
  obtain ⟨v2, vs2, d2, ds2, p2, q2, rfl, rfl, rfl, h2, r2⟩ := trodAll_cons r1
  obtain ⟨rfl, rfl, rfl⟩ := trodAll_nil r2
  obtain rfl : args = #[v0, v1, v2] := by cases args; simp_all
  obtain ⟨rfl, rfl⟩ := trodVars_none hV
  have k0 := h0
  have lt0 : ∀ x ∈ p0, x.block < W.heap.size := by obtain ⟨m, hm⟩ := k0; exact DataW.trod_lt m _ _ _ hm
  have k1 := h1
  have lt1 : ∀ x ∈ p1, x.block < W.heap.size := by obtain ⟨m, hm⟩ := k1; exact DataW.trod_lt m _ _ _ hm
  have k2 := h2
  have lt2 : ∀ x ∈ p2, x.block < W.heap.size := by obtain ⟨m, hm⟩ := k2; exact DataW.trod_lt m _ _ _ hm
  obtain ⟨f0_0, f0_1, f0_2, f0_3, rfl, e0_0, e0_1, e0_2, e0_3⟩ := open23 (hval 0 23 v0 rfl rfl) h0
  obtain ⟨f1_0, f1_1, f1_2, f1_3, rfl, e1_0, e1_1, e1_2, e1_3⟩ := open23 (hval 1 23 v1 rfl rfl) h1
  obtain ⟨a2, rfl, e2, -, w2⟩ := open_string Try.underlying9 (hval 2 9 v2 rfl rfl) h2
  clear hA0 hval0
  refine (walk f0_0 e0_0 f0_1 e0_1 f0_2 e0_2 f0_3 e0_3 f1_0 e1_0 f1_1 e1_1 f1_2 e1_2 f1_3 e1_3 a2 w2 W ).mono fun e W' ⟨he, bel⟩ => ?_
  subst he
  exact ⟨_, rfl, _, _, _, [], _, [], hW', trodAll_mk1 (shut_bool Try.underlying4 _), (trodAll_cons_mk (Below.trod laidOut (by kernel_rfl) (of_decide_eq_true (by kernel_rfl)) k0 bel lt0) (trodAll_cons_mk (Below.trod laidOut (by kernel_rfl) (of_decide_eq_true (by kernel_rfl)) k1 bel lt1) (trodAll_cons_mk (Below.trod laidOut (by kernel_rfl) (of_decide_eq_true (by kernel_rfl)) k2 bel lt2) trodAll_mk0))), rfl, bel.frame _, fun h => by cases h⟩

theorem over : Rows.etherBackRow.holds Try.pinned (OpenSpec.ofChange Rows.etherBackSpec) :=
  OpenClaim.holds_of_wide 5 Try.f5 rfl rfl rfl rfl rfl rfl rfl ⟨rfl, rfl, rfl, rfl, rfl⟩ rfl rfl rfl rfl rfl (by kernel_rfl) Try.func5 (by kernel_rfl)
    (of_decide_eq_true (by kernel_rfl)) (by unfold Func.isWrapper; first | (rw [if_pos (by decide +kernel)]; kernel_rfl) | (rw [if_neg (by decide +kernel)]; exact ⟨rfl, rfl⟩))
    (fun os started H enc _ => lifted os started H enc)

end Go.Proofs.Ytbppijgceacepaa.etherBack
namespace Go.Proofs.Ytbppijgceacepaa
theorem etherBack_holds : Rows.EtherBackSaid := etherBack.over
end Go.Proofs.Ytbppijgceacepaa
