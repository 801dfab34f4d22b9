/- Proved: for every packet, and all further bytes, what is encoded is decoded as the packet; and what is decoded is encoded as the first of these bytes, but that a sum of 0 and one of 65535 stand for one another; no condition. -/
import Derived.Test.YtdnfabcjkbadoaaRows
import Derived.Test.YtdnfabcjkbadoaaIpm
import Derived.Deep.QuietTactic
import Derived.BigQuiet
import Derived.WalkSmall
import Derived.Deep.RegionHeld3
import Derived.WalkKit
import Derived.ProofKit
import Derived.OpenShut
import Derived.ShutString
import Derived.ChangeOld
import Derived.Below
import Derived.Carry
import Derived.SizedLaws
import Derived.Deep.Fields
namespace Go.Proofs.Ytdnfabcjkbadoaa.ipBack
open Go.ChangeShapes Go.WideShapes Go.ChangeAt Go.RowKit
open Go.ChangeMaps (open_string)
set_option linter.unusedVariables false

theorem own : ownKnob Try.prog.godebug = none := by kernel_rfl
theorem laidOut : laidOutB Try.prog = true := by kernel_rfl

theorem open_fields {H : Type} {enc : TypeId × Value → H} {P : Program} {w : World} {base : Nat} {spare : Nat → Bool} {held : Bool} {r : Reach} {b0 : Nat} {t : TypeId} {fs : Array Field} {v : Value} {d : DataW H} {p : List MemPlace} (hs : P.underlying t = some (.struct fs)) (hone : Go.Deep.oneCellFields P fs = true) (hC : P.cellsOf t = fs.size)
    (hv : Value.okWide P w r b0 t v) (h : DataW.Trod enc P w base spare held t v d p) :
    ∃ (cs : Array Value) (parts : List (DataW H)), v = .agg cs ∧ d = .agg parts ∧ cs.size = fs.size ∧ ∀ (i : Nat) (f : Field), fs[i]? = some f → ∃ n x, DataW.trod enc P w base spare held n f.type ((cs.toList.drop i).take 1) = some x ∧ parts[i]? = some x.1 := by
  obtain ⟨cs, rfl, hsz⟩ := okWide_struct hs hv
  obtain ⟨fuel, hf⟩ := h
  obtain ⟨xs, n, _, hx, hl, hlen, hfs⟩ := DataW.trod_struct hs hf
  have hd : d = .agg (xs.map (·.1)) := congrArg Prod.fst hx
  refine ⟨cs, xs.map (·.1), rfl, hd, hsz.trans hC, fun i f hi => ?_⟩
  obtain ⟨o1, k1⟩ := Go.Deep.hone_of hone i f hi
  have := hfs i f hi
  have hlt : i < xs.length := by rw [hlen]; exact (Array.getElem?_eq_some_iff.1 hi).1
  rw [o1, k1, List.getElem?_eq_getElem hlt] at this
  exact ⟨n, _, by simpa [Value.cells] using this, by simp [List.getElem?_eq_getElem hlt]⟩
theorem sized_field {H : Type} {P : Program} {ts : List TypeId} {ds : List (DataW H)} (h : (DataW.weightsEach P ts ds).all (· ≤ reachBytes) = true) {j i : Nat} {t ft : TypeId} {fs : Array Field} {parts : List (DataW H)} {bytes : List UInt8} (ht : ts[j]? = some t) (hd : ds[j]? = some (.agg parts)) (hu : P.underlying t = some (.struct fs)) (hf : (fs.toList.map (·.type))[i]? = some ft) (hp : parts[i]? = some (.lit (.string bytes))) : bytes.length ≤ reachBytes := by
  have := List.all_eq_true.1 h _ (DataW.weights_mem_each ht hd bytes.length (by simp only [DataW.weights, hu]; exact DataW.weights_mem_each hf hp _ (by simp [DataW.weights])))
  simpa using this

theorem cells23 : Try.prog.cellsOf 23 = 10 := by kernel_rfl
theorem open23 {H : Type} {enc : TypeId × Value → H} {w : World} {base : Nat} {spare : Nat → Bool} {held : Bool} {r : Reach} {b0 : Nat} {v : Value} {d : DataW H} {p : List MemPlace} (hv : Value.okWide Try.prog w r b0 23 v) (h : DataW.Trod enc Try.prog w base spare held 23 v d p) :
    ∃ (f0 : Int) (f1 : Int) (f2 : Int) (f3 : Int) (f4 : Int) (f5 : Int) (f6 : Bool) (f7 : Bool) (f8 : ByteArray) (f9 : ByteArray) (parts : List (DataW H)), v = .agg #[.int .i64 f0, .int .i64 f1, .int .i64 f2, .int .i64 f3, .int .i64 f4, .int .i64 f5, .bool f6, .bool f7, .string f8, .string f9] ∧ d = .agg parts ∧ (Lit.int .i64 f0).wf = true ∧ (Lit.int .i64 f1).wf = true ∧ (Lit.int .i64 f2).wf = true ∧ (Lit.int .i64 f3).wf = true ∧ (Lit.int .i64 f4).wf = true ∧ (Lit.int .i64 f5).wf = true ∧ f8.size ≤ maxLen ∧ f9.size ≤ maxLen ∧ parts[8]? = some (.lit (.string f8.data.toList)) ∧ parts[9]? = some (.lit (.string f9.data.toList)) := by
  obtain ⟨⟨l⟩, parts, rfl, hdp, hz, hf⟩ := open_fields Try.underlying23 (by kernel_rfl) cells23 hv h
  have hz' : l.length = 10 := by simpa using hz
  match l, hz' with
  | [c0, c1, c2, c3, c4, c5, c6, c7, c8, c9], _ =>
    obtain ⟨n0, x0, t0, m0⟩ := hf 0 _ rfl
    obtain ⟨f0, q0, -, e0⟩ := DataW.trod_int Try.underlying3 t0
    have p0 : c0 = .int .i64 f0 := by simpa using q0
    obtain ⟨n1, x1, t1, m1⟩ := hf 1 _ rfl
    obtain ⟨f1, q1, -, e1⟩ := DataW.trod_int Try.underlying3 t1
    have p1 : c1 = .int .i64 f1 := by simpa using q1
    obtain ⟨n2, x2, t2, m2⟩ := hf 2 _ rfl
    obtain ⟨f2, q2, -, e2⟩ := DataW.trod_int Try.underlying3 t2
    have p2 : c2 = .int .i64 f2 := by simpa using q2
    obtain ⟨n3, x3, t3, m3⟩ := hf 3 _ rfl
    obtain ⟨f3, q3, -, e3⟩ := DataW.trod_int Try.underlying3 t3
    have p3 : c3 = .int .i64 f3 := by simpa using q3
    obtain ⟨n4, x4, t4, m4⟩ := hf 4 _ rfl
    obtain ⟨f4, q4, -, e4⟩ := DataW.trod_int Try.underlying3 t4
    have p4 : c4 = .int .i64 f4 := by simpa using q4
    obtain ⟨n5, x5, t5, m5⟩ := hf 5 _ rfl
    obtain ⟨f5, q5, -, e5⟩ := DataW.trod_int Try.underlying3 t5
    have p5 : c5 = .int .i64 f5 := by simpa using q5
    obtain ⟨n6, x6, t6, m6⟩ := hf 6 _ rfl
    obtain ⟨f6, q6, -⟩ := DataW.trod_bool Try.underlying4 t6
    have p6 : c6 = .bool f6 := by simpa using q6
    obtain ⟨n7, x7, t7, m7⟩ := hf 7 _ rfl
    obtain ⟨f7, q7, -⟩ := DataW.trod_bool Try.underlying4 t7
    have p7 : c7 = .bool f7 := by simpa using q7
    obtain ⟨n8, x8, t8, m8⟩ := hf 8 _ rfl
    obtain ⟨f8, q8, y8, e8⟩ := DataW.trod_string Try.underlying9 t8
    rw [y8] at m8
    have p8 : c8 = .string f8 := by simpa using q8
    obtain ⟨n9, x9, t9, m9⟩ := hf 9 _ rfl
    obtain ⟨f9, q9, y9, e9⟩ := DataW.trod_string Try.underlying9 t9
    rw [y9] at m9
    have p9 : c9 = .string f9 := by simpa using q9
    subst p0 p1 p2 p3 p4 p5 p6 p7 p8 p9
    exact ⟨f0, f1, f2, f3, f4, f5, f6, f7, f8, f9, parts, rfl, hdp, e0, e1, e2, e3, e4, e5, e8, e9, m8, m9⟩

-- WALK
/-- A slice of a string at literal places. -/
theorem run_sl (s : ByteArray) (a b : Int) (x : ByteArray) (hx : s.extract a.toNat b.toNat = x) (h : b ≤ s.size) (h0 : 0 ≤ a) (hab : a ≤ b) : ∀ W, (Instr.slice 9 (.string s) (some (.int .i64 a)) (some (.int .i64 b)) none).run Try.prog W = .ok (.string x) W := fun W => by
  rw [run_slice_string_if W 9 s .i64 .i64 a b Try.underlying9, if_pos ⟨by omega, by omega⟩, if_pos ⟨by omega, by omega⟩, ← hx]
theorem run_to (s : ByteArray) (b : Int) (x : ByteArray) (hx : s.extract 0 b.toNat = x) (h : b ≤ s.size) (h0 : 0 ≤ b) : ∀ W, (Instr.slice 9 (.string s) none (some (.int .i64 b)) none).run Try.prog W = .ok (.string x) W := fun W => by
  rw [run_slice_string_to_if W 9 s .i64 b Try.underlying9, if_pos ⟨h0, h⟩, hx]
theorem run_from (s : ByteArray) (a : Int) (x : ByteArray) (hx : s.extract a.toNat s.size = x) (h : a ≤ s.size) (h0 : 0 ≤ a) : ∀ W, (Instr.slice 9 (.string s) (some (.int .i64 a)) none none).run Try.prog W = .ok (.string x) W := fun W => by
  rw [run_slice_string_from_if W 9 s .i64 a Try.underlying9, if_pos ⟨h0, h⟩, hx]

set_option maxRecDepth 100000 in
set_option maxHeartbeats 4000000 in
theorem walk_yy (f t tl pr id fr : Int) (mo dn : Bool) (op da : ByteArray) (more s : ByteArray) (w : World) (ho : op.size ≤ 140737488351232) (hd : da.size ≤ 140737488351232) (hmo : more.size ≤ 140737488351232) (hs0 : s.size ≤ 140737488351232) (hm : mayP f t tl pr id fr mo op.size da.size = true) (g : goodD s) :
    Calls Try.prog 6 #[.agg #[.int .i64 f, .int .i64 t, .int .i64 tl, .int .i64 pr, .int .i64 id, .int .i64 fr, .bool mo, .bool dn, .string op, .string da], .string more, .string s] w fun e w' => e = .returned (.bool true) ∧ Below w.heap.size w w' := by
  have ho : op.size ≤ 1125899906842624 := by omega
  have hd : da.size ≤ 1125899906842624 := by omega
  have hs : s.size ≤ 1125899906842624 := by omega
  have hA := At.box w #[.int .i64 f, .int .i64 t, .int .i64 tl, .int .i64 pr, .int .i64 id, .int .i64 fr, .bool mo, .bool dn, .string op, .string da] 23
  have hl := bel1 w (.cells #[.int .i64 f, .int .i64 t, .int .i64 tl, .int .i64 pr, .int .i64 id, .int .i64 fr, .bool mo, .bool dn, .string op, .string da] 23)
  have hze := encP_le (dn := dn) hm
  have hbs : (encP f t tl pr id fr mo dn op da ++ more).size ≤ 1125899906842624 := by rw [ByteArray.size_append]; omega
  have g' := g
  obtain ⟨k20, -, kH, kL, kS, -, -, -, gm0⟩ := g'
  have gm : mayP (dF s) (dT s) (dTl s) (dPr s) (dId s) (dFr s) (dMo s) (dOp s).size (dDa s).size = true := gm0
  obtain ⟨C, cb, he, hc⟩ := forth g
  have hBz : (encP (dF s) (dT s) (dTl s) (dPr s) (dId s) (dFr s) (dMo s) (dDn s) (dOp s) (dDa s)).size = (dL s).toNat := by
    rw [he, ByteArray.size_append, ByteArray.size_append, txt_size, ByteArray.size_extract, ByteArray.size_extract]; omega
  obtain ⟨B, hB⟩ : ∃ B, B = encP (dF s) (dT s) (dTl s) (dPr s) (dId s) (dFr s) (dMo s) (dDn s) (dOp s) (dDa s) := ⟨_, rfl⟩
  rw [← hB] at he hBz
  have hB12 : 12 ≤ (B.size : Int) := by omega
  have hBs : (B.size : Int) ≤ s.size := by omega
  have hgt : decide ((s.size : Int) < (B.size : Int)) = false := decide_eq_false (by omega)
  have hgt' : decide (s.size < B.size) = false := decide_eq_false (by omega)
  have hgn : ¬ s.size < B.size := by omega
  obtain ⟨Y1, hY1⟩ : ∃ Y, Y = s.extract 0 10 := ⟨_, rfl⟩
  obtain ⟨Y3, hY3⟩ : ∃ Y, Y = s.extract 12 (dL s).toNat := ⟨_, rfl⟩
  obtain ⟨Y2, hY2⟩ : ∃ Y, Y = s.extract 10 12 := ⟨_, rfl⟩
  have zY1 : Y1.size = 10 := by rw [hY1, ByteArray.size_extract]; omega
  have r1 := run_to B 10 Y1 (by rw [he, ← hY1, ByteArray.append_assoc]; exact ext_pre _ _ _ (by rw [zY1]; rfl)) (by omega) (by decide)
  have r2 := run_to s 10 Y1 hY1.symm (by omega) (by decide)
  have r3 := run_from B 12 Y3 (by rw [he, ← hY1, ← hY3]; exact mid_tail _ _ _ _ (by rw [zY1, txt_size]; rfl)) (by omega) (by decide)
  have r4 := run_sl s 12 (B.size : Int) Y3 (by rw [hY3, hBz]; rfl) hBs (by decide) hB12
  have r5 := run_sl B 10 12 (txt C 2) (by rw [he, ← hY1]; exact ext_mid _ _ _ _ _ (by rw [zY1]; rfl) (by rw [zY1, txt_size]; rfl)) (by omega) (by decide) (by decide)
  have r6 := run_sl s 10 12 Y2 hY2.symm (by omega) (by decide) (by decide)
  have hy : (txt C 2 = Y2 ∧ True) ∨ (txt C 2 = ⟨#[0, 0]⟩ ∧ Y2 = ⟨#[255, 255]⟩) := by
    rcases hc with hc | ⟨hc, hn⟩
    · exact .inl ⟨by rw [hY2]; exact txt_here s 10 12 2 C hc rfl (by omega), trivial⟩
    · refine .inr ⟨by rw [hc]; decide +kernel, ?_⟩
      rw [hY2, ← txt_here s 10 12 2 65535 hn.symm rfl (by omega)]
      decide +kernel
  have hEn : ∀ W, Calls Try.prog 9 #[.agg #[.int .i64 (dF s), .int .i64 (dT s), .int .i64 (dTl s), .int .i64 (dPr s), .int .i64 (dId s), .int .i64 (dFr s), .bool (dMo s), .bool (dDn s), .string (dOp s), .string (dDa s)]] W fun e w' => e = .returned (.tuple #[.string B, .int .i64 0]) ∧ Below W.heap.size W w' := by rw [hB]; exact fun W => enc_y gm W
  have hy : (txt C 2 = Y2 ∧ True) ∨ (txt C 2 = ⟨#[0, 0]⟩ ∧ Y2 = ⟨#[255, 255]⟩) := hy
  generalize txt C 2 = Y4 at hy r5 he
  clear hB he hc hY1 hY2 hY3 zY1 cb gm gm0 hBz
  iterate 1
    go_enter Try.func6, Try.ntmps6
    go_wp2_with fail
    refine (works_any _).mono ?_
    rintro e w1 ⟨rfl, hb⟩
    have hl := bt hl hb
    have hA := hA.later hb
    clear hb
    obtain ⟨⟨c0, c1, c2, c3, c4, c5, c6, c7, c8, c9⟩, -, -⟩ := hA.ten
    go_wp2_with fail
    refine (enc_y hm _).mono ?_
    rintro e w2 ⟨rfl, hb⟩
    have hl := bt hl hb
    have hA := hA.later hb
    clear c0 c1 c2 c3 c4 c5 c6 c7 c8 c9 hb
    go_wp2_with fail
    refine (dec_back hm _ _ hbs).mono ?_
    rintro e w3 ⟨rfl, hb⟩
    have hl := bt hl hb
    have hA := hA.later hb
    clear hb
    have hl := bt hl (bel1 w3 (.cells #[.int .i64 f, .int .i64 t, .int .i64 tl, .int .i64 pr, .int .i64 id, .int .i64 fr, .bool mo, .bool dn, .string op, .string da] 23))
    have hA := hA.later (bel1 w3 (.cells #[.int .i64 f, .int .i64 t, .int .i64 tl, .int .i64 pr, .int .i64 id, .int .i64 fr, .bool mo, .bool dn, .string op, .string da] 23))
    obtain ⟨⟨c0, c1, c2, c3, c4, c5, c6, c7, c8, c9⟩, -, -⟩ := hA.ten
    go_wp2_with fail
    refine (dec_y g _ hs).mono ?_
    rintro e w4 ⟨rfl, hb⟩
    have hl := bt hl hb
    have hl := bt hl (bel1 w4 (.cells #[.int .i64 (dF s), .int .i64 (dT s), .int .i64 (dTl s), .int .i64 (dPr s), .int .i64 (dId s), .int .i64 (dFr s), .bool (dMo s), .bool (dDn s), .string (dOp s), .string (dDa s)] 23))
    clear hb
    go_wp2_with fail
    refine (hEn _).mono ?_
    rintro e w5 ⟨rfl, hb⟩
    have hl := bt hl hb
    clear hb
    go_wp2
    go_region_held3 (fun _ => True) (trivial) (fail)
    have hl := hl.drew
    rcases hy with ⟨rfl, -⟩ | ⟨rfl, rfl⟩
    · cases k0 : (Y4.toList == [0, 0])
      · cases k1 : (Y4.toList == [255, 255])
        all_goals
          go_wp2
          go_quiet (fail)
          have hl := below_drewN hl nq
          go_wp2
          go_ret
          exact ⟨rfl, hl⟩
      · go_wp2
        go_quiet (fail)
        have hl := below_drewN hl nq
        go_wp2
        go_ret
        exact ⟨rfl, hl⟩
    · go_wp2
      go_region_held3 (fun _ => True) (trivial) (fail)
      have hl := hl.drew
      go_wp2
      go_ret
      exact ⟨rfl, hl⟩

set_option maxRecDepth 100000 in
set_option maxHeartbeats 4000000 in
theorem walk_yn (f t tl pr id fr : Int) (mo dn : Bool) (op da : ByteArray) (more s : ByteArray) (w : World) (ho : op.size ≤ 140737488351232) (hd : da.size ≤ 140737488351232) (hmo : more.size ≤ 140737488351232) (hs0 : s.size ≤ 140737488351232) (hm : mayP f t tl pr id fr mo op.size da.size = true) (g : ¬ goodD s) :
    Calls Try.prog 6 #[.agg #[.int .i64 f, .int .i64 t, .int .i64 tl, .int .i64 pr, .int .i64 id, .int .i64 fr, .bool mo, .bool dn, .string op, .string da], .string more, .string s] w fun e w' => e = .returned (.bool true) ∧ Below w.heap.size w w' := by
  have ho : op.size ≤ 1125899906842624 := by omega
  have hd : da.size ≤ 1125899906842624 := by omega
  have hs : s.size ≤ 1125899906842624 := by omega
  have hA := At.box w #[.int .i64 f, .int .i64 t, .int .i64 tl, .int .i64 pr, .int .i64 id, .int .i64 fr, .bool mo, .bool dn, .string op, .string da] 23
  have hl := bel1 w (.cells #[.int .i64 f, .int .i64 t, .int .i64 tl, .int .i64 pr, .int .i64 id, .int .i64 fr, .bool mo, .bool dn, .string op, .string da] 23)
  have hze := encP_le (dn := dn) hm
  have hbs : (encP f t tl pr id fr mo dn op da ++ more).size ≤ 1125899906842624 := by rw [ByteArray.size_append]; omega
  iterate 1
    go_enter Try.func6, Try.ntmps6
    go_wp2_with fail
    refine (works_any _).mono ?_
    rintro e w1 ⟨rfl, hb⟩
    have hl := bt hl hb
    have hA := hA.later hb
    clear hb
    obtain ⟨⟨c0, c1, c2, c3, c4, c5, c6, c7, c8, c9⟩, -, -⟩ := hA.ten
    go_wp2_with fail
    refine (enc_y hm _).mono ?_
    rintro e w2 ⟨rfl, hb⟩
    have hl := bt hl hb
    have hA := hA.later hb
    clear c0 c1 c2 c3 c4 c5 c6 c7 c8 c9 hb
    go_wp2_with fail
    refine (dec_back hm _ _ hbs).mono ?_
    rintro e w3 ⟨rfl, hb⟩
    have hl := bt hl hb
    have hA := hA.later hb
    clear hb
    have hl := bt hl (bel1 w3 (.cells #[.int .i64 f, .int .i64 t, .int .i64 tl, .int .i64 pr, .int .i64 id, .int .i64 fr, .bool mo, .bool dn, .string op, .string da] 23))
    have hA := hA.later (bel1 w3 (.cells #[.int .i64 f, .int .i64 t, .int .i64 tl, .int .i64 pr, .int .i64 id, .int .i64 fr, .bool mo, .bool dn, .string op, .string da] 23))
    obtain ⟨⟨c0, c1, c2, c3, c4, c5, c6, c7, c8, c9⟩, -, -⟩ := hA.ten
    go_wp2_with fail
    refine (dec_n g _ hs).mono ?_
    rintro e w4 ⟨c, rfl | rfl, rfl, hb⟩
    all_goals
      have hl := bt hl hb
      have hl := bt hl (bel1 w4 (.cells #[.int .i64 0, .int .i64 0, .int .i64 0, .int .i64 0, .int .i64 0, .int .i64 0, .bool false, .bool false, .string ⟨#[]⟩, .string ⟨#[]⟩] 23))
      go_wp2
      go_ret
      exact ⟨rfl, hl⟩

set_option maxRecDepth 100000 in
set_option maxHeartbeats 4000000 in
theorem walk_ny (f t tl pr id fr : Int) (mo dn : Bool) (op da : ByteArray) (more s : ByteArray) (w : World) (ho : op.size ≤ 140737488351232) (hd : da.size ≤ 140737488351232) (hmo : more.size ≤ 140737488351232) (hs0 : s.size ≤ 140737488351232) (hm : mayP f t tl pr id fr mo op.size da.size = false) (g : goodD s) :
    Calls Try.prog 6 #[.agg #[.int .i64 f, .int .i64 t, .int .i64 tl, .int .i64 pr, .int .i64 id, .int .i64 fr, .bool mo, .bool dn, .string op, .string da], .string more, .string s] w fun e w' => e = .returned (.bool true) ∧ Below w.heap.size w w' := by
  have ho : op.size ≤ 1125899906842624 := by omega
  have hd : da.size ≤ 1125899906842624 := by omega
  have hs : s.size ≤ 1125899906842624 := by omega
  have hA := At.box w #[.int .i64 f, .int .i64 t, .int .i64 tl, .int .i64 pr, .int .i64 id, .int .i64 fr, .bool mo, .bool dn, .string op, .string da] 23
  have hl := bel1 w (.cells #[.int .i64 f, .int .i64 t, .int .i64 tl, .int .i64 pr, .int .i64 id, .int .i64 fr, .bool mo, .bool dn, .string op, .string da] 23)
  have g' := g
  obtain ⟨k20, -, kH, kL, kS, -, -, -, gm0⟩ := g'
  have gm : mayP (dF s) (dT s) (dTl s) (dPr s) (dId s) (dFr s) (dMo s) (dOp s).size (dDa s).size = true := gm0
  obtain ⟨C, cb, he, hc⟩ := forth g
  have hBz : (encP (dF s) (dT s) (dTl s) (dPr s) (dId s) (dFr s) (dMo s) (dDn s) (dOp s) (dDa s)).size = (dL s).toNat := by
    rw [he, ByteArray.size_append, ByteArray.size_append, txt_size, ByteArray.size_extract, ByteArray.size_extract]; omega
  obtain ⟨B, hB⟩ : ∃ B, B = encP (dF s) (dT s) (dTl s) (dPr s) (dId s) (dFr s) (dMo s) (dDn s) (dOp s) (dDa s) := ⟨_, rfl⟩
  rw [← hB] at he hBz
  have hB12 : 12 ≤ (B.size : Int) := by omega
  have hBs : (B.size : Int) ≤ s.size := by omega
  have hgt : decide ((s.size : Int) < (B.size : Int)) = false := decide_eq_false (by omega)
  have hgt' : decide (s.size < B.size) = false := decide_eq_false (by omega)
  have hgn : ¬ s.size < B.size := by omega
  obtain ⟨Y1, hY1⟩ : ∃ Y, Y = s.extract 0 10 := ⟨_, rfl⟩
  obtain ⟨Y3, hY3⟩ : ∃ Y, Y = s.extract 12 (dL s).toNat := ⟨_, rfl⟩
  obtain ⟨Y2, hY2⟩ : ∃ Y, Y = s.extract 10 12 := ⟨_, rfl⟩
  have zY1 : Y1.size = 10 := by rw [hY1, ByteArray.size_extract]; omega
  have r1 := run_to B 10 Y1 (by rw [he, ← hY1, ByteArray.append_assoc]; exact ext_pre _ _ _ (by rw [zY1]; rfl)) (by omega) (by decide)
  have r2 := run_to s 10 Y1 hY1.symm (by omega) (by decide)
  have r3 := run_from B 12 Y3 (by rw [he, ← hY1, ← hY3]; exact mid_tail _ _ _ _ (by rw [zY1, txt_size]; rfl)) (by omega) (by decide)
  have r4 := run_sl s 12 (B.size : Int) Y3 (by rw [hY3, hBz]; rfl) hBs (by decide) hB12
  have r5 := run_sl B 10 12 (txt C 2) (by rw [he, ← hY1]; exact ext_mid _ _ _ _ _ (by rw [zY1]; rfl) (by rw [zY1, txt_size]; rfl)) (by omega) (by decide) (by decide)
  have r6 := run_sl s 10 12 Y2 hY2.symm (by omega) (by decide) (by decide)
  have hy : (txt C 2 = Y2 ∧ True) ∨ (txt C 2 = ⟨#[0, 0]⟩ ∧ Y2 = ⟨#[255, 255]⟩) := by
    rcases hc with hc | ⟨hc, hn⟩
    · exact .inl ⟨by rw [hY2]; exact txt_here s 10 12 2 C hc rfl (by omega), trivial⟩
    · refine .inr ⟨by rw [hc]; decide +kernel, ?_⟩
      rw [hY2, ← txt_here s 10 12 2 65535 hn.symm rfl (by omega)]
      decide +kernel
  have hEn : ∀ W, Calls Try.prog 9 #[.agg #[.int .i64 (dF s), .int .i64 (dT s), .int .i64 (dTl s), .int .i64 (dPr s), .int .i64 (dId s), .int .i64 (dFr s), .bool (dMo s), .bool (dDn s), .string (dOp s), .string (dDa s)]] W fun e w' => e = .returned (.tuple #[.string B, .int .i64 0]) ∧ Below W.heap.size W w' := by rw [hB]; exact fun W => enc_y gm W
  have hy : (txt C 2 = Y2 ∧ True) ∨ (txt C 2 = ⟨#[0, 0]⟩ ∧ Y2 = ⟨#[255, 255]⟩) := hy
  generalize txt C 2 = Y4 at hy r5 he
  clear hB he hc hY1 hY2 hY3 zY1 cb gm gm0 hBz
  iterate 1
    go_enter Try.func6, Try.ntmps6
    go_wp2_with fail
    refine (works_any _).mono ?_
    rintro e w1 ⟨rfl, hb⟩
    have hl := bt hl hb
    have hA := hA.later hb
    clear hb
    obtain ⟨⟨c0, c1, c2, c3, c4, c5, c6, c7, c8, c9⟩, -, -⟩ := hA.ten
    go_wp2_with fail
    refine (enc_n hm _ ho hd).mono ?_
    rintro e w2 ⟨rfl, hb⟩
    have hl := bt hl hb
    clear c0 c1 c2 c3 c4 c5 c6 c7 c8 c9 hb
    go_wp2_with fail
    refine (dec_y g _ hs).mono ?_
    rintro e w4 ⟨rfl, hb⟩
    have hl := bt hl hb
    have hl := bt hl (bel1 w4 (.cells #[.int .i64 (dF s), .int .i64 (dT s), .int .i64 (dTl s), .int .i64 (dPr s), .int .i64 (dId s), .int .i64 (dFr s), .bool (dMo s), .bool (dDn s), .string (dOp s), .string (dDa s)] 23))
    clear hb
    go_wp2_with fail
    refine (hEn _).mono ?_
    rintro e w5 ⟨rfl, hb⟩
    have hl := bt hl hb
    clear hb
    go_wp2
    go_region_held3 (fun _ => True) (trivial) (fail)
    have hl := hl.drew
    rcases hy with ⟨rfl, -⟩ | ⟨rfl, rfl⟩
    · cases k0 : (Y4.toList == [0, 0])
      · cases k1 : (Y4.toList == [255, 255])
        all_goals
          go_wp2
          go_quiet (fail)
          have hl := below_drewN hl nq
          go_wp2
          go_ret
          exact ⟨rfl, hl⟩
      · go_wp2
        go_quiet (fail)
        have hl := below_drewN hl nq
        go_wp2
        go_ret
        exact ⟨rfl, hl⟩
    · go_wp2
      go_region_held3 (fun _ => True) (trivial) (fail)
      have hl := hl.drew
      go_wp2
      go_ret
      exact ⟨rfl, hl⟩

set_option maxRecDepth 100000 in
set_option maxHeartbeats 4000000 in
theorem walk_nn (f t tl pr id fr : Int) (mo dn : Bool) (op da : ByteArray) (more s : ByteArray) (w : World) (ho : op.size ≤ 140737488351232) (hd : da.size ≤ 140737488351232) (hmo : more.size ≤ 140737488351232) (hs0 : s.size ≤ 140737488351232) (hm : mayP f t tl pr id fr mo op.size da.size = false) (g : ¬ goodD s) :
    Calls Try.prog 6 #[.agg #[.int .i64 f, .int .i64 t, .int .i64 tl, .int .i64 pr, .int .i64 id, .int .i64 fr, .bool mo, .bool dn, .string op, .string da], .string more, .string s] w fun e w' => e = .returned (.bool true) ∧ Below w.heap.size w w' := by
  have ho : op.size ≤ 1125899906842624 := by omega
  have hd : da.size ≤ 1125899906842624 := by omega
  have hs : s.size ≤ 1125899906842624 := by omega
  have hA := At.box w #[.int .i64 f, .int .i64 t, .int .i64 tl, .int .i64 pr, .int .i64 id, .int .i64 fr, .bool mo, .bool dn, .string op, .string da] 23
  have hl := bel1 w (.cells #[.int .i64 f, .int .i64 t, .int .i64 tl, .int .i64 pr, .int .i64 id, .int .i64 fr, .bool mo, .bool dn, .string op, .string da] 23)
  iterate 1
    go_enter Try.func6, Try.ntmps6
    go_wp2_with fail
    refine (works_any _).mono ?_
    rintro e w1 ⟨rfl, hb⟩
    have hl := bt hl hb
    have hA := hA.later hb
    clear hb
    obtain ⟨⟨c0, c1, c2, c3, c4, c5, c6, c7, c8, c9⟩, -, -⟩ := hA.ten
    go_wp2_with fail
    refine (enc_n hm _ ho hd).mono ?_
    rintro e w2 ⟨rfl, hb⟩
    have hl := bt hl hb
    clear c0 c1 c2 c3 c4 c5 c6 c7 c8 c9 hb
    go_wp2_with fail
    refine (dec_n g _ hs).mono ?_
    rintro e w4 ⟨c, rfl | rfl, rfl, hb⟩
    all_goals
      have hl := bt hl hb
      have hl := bt hl (bel1 w4 (.cells #[.int .i64 0, .int .i64 0, .int .i64 0, .int .i64 0, .int .i64 0, .int .i64 0, .bool false, .bool false, .string ⟨#[]⟩, .string ⟨#[]⟩] 23))
      go_wp2
      go_ret
      exact ⟨rfl, hl⟩

theorem walk (f : Int) (_ : (Lit.int .i64 f).wf = true) (t : Int) (_ : (Lit.int .i64 t).wf = true) (tl : Int) (_ : (Lit.int .i64 tl).wf = true) (pr : Int) (_ : (Lit.int .i64 pr).wf = true) (id : Int) (_ : (Lit.int .i64 id).wf = true) (fr : Int) (_ : (Lit.int .i64 fr).wf = true) (mo dn : Bool) (op : ByteArray) (_ : op.size ≤ maxLen) (ho : op.size ≤ 140737488351232) (da : ByteArray) (_ : da.size ≤ maxLen) (hd : da.size ≤ 140737488351232)
    (more : ByteArray) (_ : more.size ≤ maxLen) (hmo : more.size ≤ 140737488351232) (s : ByteArray) (_ : s.size ≤ maxLen) (hs : s.size ≤ 140737488351232) (w : World) :
    Calls Try.prog 6 #[.agg #[.int .i64 f, .int .i64 t, .int .i64 tl, .int .i64 pr, .int .i64 id, .int .i64 fr, .bool mo, .bool dn, .string op, .string da], .string more, .string s] w fun e w' => e = .returned (.bool true) ∧ Below w.heap.size w w' := by
  by_cases g : goodD s
  · cases hm : mayP f t tl pr id fr mo op.size da.size
    · exact walk_ny f t tl pr id fr mo dn op da more s w ho hd hmo hs hm g
    · exact walk_yy f t tl pr id fr mo dn op da more s w ho hd hmo hs hm g
  · cases hm : mayP f t tl pr id fr mo op.size da.size
    · exact walk_nn f t tl pr id fr mo dn op da more s w ho hd hmo hs hm g
    · exact walk_yn f t tl pr id fr mo dn op da more s w ho hd hmo hs hm g

set_option maxRecDepth 100000 in
theorem lifted (os : Os) (started : os.Started) (H : Type) (enc : TypeId × Value → H) :
    ReturnsInHanded {} Try.checked os 6 .any (Rows.ipBackSpec.pre6 enc Try.prog Try.f6 Rows.ipBackRow.domain false) (Rows.ipBackSpec.post enc Try.prog Try.f6 false true false false) := by
  refine returnsInHanded_of_change_sized (C := Try.checked) own started (by kernel_rfl) Try.func6
    (ChangeSpec.witness6 (enc := enc) (C := Try.checked) false ⟨#[], #[.agg #[.int .i64 0, .int .i64 0, .int .i64 0, .int .i64 0, .int .i64 0, .int .i64 0, .bool false, .bool false, .string ByteArray.empty, .string ByteArray.empty], .string ByteArray.empty, .string ByteArray.empty], []⟩ 8 (by kernel_rfl) (by kernel_rfl) (by kernel_rfl) (by kernel_rfl)) ?_
  intro W base args ds gs before hval0 hW hcnd hsz0 _
  have hsz : (DataW.weightsEach Try.prog (Try.f6.params.toList ++ Rows.ipBackSpec.plain.varTypes Try.prog) (ds ++ gs)).all (· ≤ reachBytes) = true := hsz0
  have hval : ∀ (j : Nat) t v, Try.f6.params[j]? = some t → args[j]? = some v → Value.okWide Try.prog W .any base t v := hval0
  have hW' := hW
  obtain ⟨p, q, hA0, hV, rfl, hfz, hnd⟩ := hW
  have hA : DataW.TrodAll enc Try.prog W 0 (fun _ => true) true Try.f6.params.toList args.toList ds p := hA0
  rw [Try.params6] at hA hval hsz
  obtain ⟨v0, vs0, d0, ds0, p0, q0, hargs, rfl, rfl, h0, r0⟩ := trodAll_cons hA
  obtain ⟨v1, vs1, d1, ds1, p1, q1, rfl, rfl, rfl, h1, r1⟩ := trodAll_cons r0
  obtain ⟨v2, vs2, d2, ds2, p2, q2, rfl, rfl, rfl, h2, r2⟩ := trodAll_cons r1
  obtain ⟨rfl, rfl, rfl⟩ := trodAll_nil r2
  obtain rfl : args = #[v0, v1, v2] := by cases args; simp_all
  obtain ⟨rfl, rfl⟩ := trodVars_none hV
  have k0 := h0
  have lt0 : ∀ x ∈ p0, x.block < W.heap.size := by obtain ⟨m, hm⟩ := k0; exact DataW.trod_lt m _ _ _ hm
  have k1 := h1
  have lt1 : ∀ x ∈ p1, x.block < W.heap.size := by obtain ⟨m, hm⟩ := k1; exact DataW.trod_lt m _ _ _ hm
  have k2 := h2
  have lt2 : ∀ x ∈ p2, x.block < W.heap.size := by obtain ⟨m, hm⟩ := k2; exact DataW.trod_lt m _ _ _ hm
  obtain ⟨f0_0, f0_1, f0_2, f0_3, f0_4, f0_5, f0_6, f0_7, f0_8, f0_9, parts0, rfl, hdp0, e0_0, e0_1, e0_2, e0_3, e0_4, e0_5, e0_8, e0_9, m0_8, m0_9⟩ := open23 (hval 0 23 v0 rfl rfl) h0
  have z0_8 : f0_8.size ≤ 140737488351232 := by
    have := sized_field hsz (j := 0) (i := 8) (t := 23) rfl (by rw [hdp0]; rfl) Try.underlying23 rfl m0_8
    simp only [reachBytes] at this
    simpa using this
  have z0_9 : f0_9.size ≤ 140737488351232 := by
    have := sized_field hsz (j := 0) (i := 9) (t := 23) rfl (by rw [hdp0]; rfl) Try.underlying23 rfl m0_9
    simp only [reachBytes] at this
    simpa using this
  obtain ⟨a1, rfl, e1, -, w1⟩ := open_string Try.underlying9 (hval 1 9 v1 rfl rfl) h1
  have z1 : a1.size ≤ 140737488351232 := by
    have := sized_string hsz (j := 1) (t := 9) rfl (by rw [e1]; rfl)
    simp only [reachBytes] at this
    simpa using this
  obtain ⟨a2, rfl, e2, -, w2⟩ := open_string Try.underlying9 (hval 2 9 v2 rfl rfl) h2
  have z2 : a2.size ≤ 140737488351232 := by
    have := sized_string hsz (j := 2) (t := 9) rfl (by rw [e2]; rfl)
    simp only [reachBytes] at this
    simpa using this
  clear hA0 hval0
  refine (walk f0_0 e0_0 f0_1 e0_1 f0_2 e0_2 f0_3 e0_3 f0_4 e0_4 f0_5 e0_5 f0_6 f0_7 f0_8 e0_8 z0_8 f0_9 e0_9 z0_9 a1 w1 z1 a2 w2 z2 W ).mono fun e W' ⟨he, bel⟩ => ?_
  subst he
  exact ⟨_, rfl, _, _, _, [], _, [], hW', trodAll_mk1 (shut_bool Try.underlying4 _), (trodAll_cons_mk (Below.trod laidOut (by kernel_rfl) (of_decide_eq_true (by kernel_rfl)) k0 bel lt0) (trodAll_cons_mk (Below.trod laidOut (by kernel_rfl) (of_decide_eq_true (by kernel_rfl)) k1 bel lt1) (trodAll_cons_mk (Below.trod laidOut (by kernel_rfl) (of_decide_eq_true (by kernel_rfl)) k2 bel lt2) trodAll_mk0))), rfl, bel.frame _, fun h => by cases h⟩

theorem over : Rows.ipBackRow.holds Try.pinned (OpenSpec.ofChange Rows.ipBackSpec) :=
  OpenClaim.holds_of_wide 6 Try.f6 rfl rfl rfl rfl rfl rfl rfl ⟨rfl, rfl, rfl, rfl, rfl⟩ rfl rfl rfl rfl rfl (by kernel_rfl) Try.func6 (by kernel_rfl)
    (of_decide_eq_true (by kernel_rfl)) (by unfold Func.isWrapper; first | (rw [if_pos (by decide +kernel)]; kernel_rfl) | (rw [if_neg (by decide +kernel)]; exact ⟨rfl, rfl⟩))
    (fun os started H enc _ => lifted os started H enc)

end Go.Proofs.Ytdnfabcjkbadoaa.ipBack
namespace Go.Proofs.Ytdnfabcjkbadoaa
theorem ipBack_holds : Rows.IpBackSaid := ipBack.over
end Go.Proofs.Ytdnfabcjkbadoaa
