/- Proved: what is told about a packet begins with its header, and of what tells such nothing may be told; no condition. -/
import Derived.Test.YtbbeepkcejiafaaRows
import Derived.Test.YtbbeepkcejiafaaIca
import Derived.Test.YtbbeepkcejiafaaIcp
import Derived.WalkKit
import Derived.ProofKit
import Derived.OpenShut
import Derived.ShutString
import Derived.ChangeOld
import Derived.Below
import Derived.Carry
import Derived.SizedLaws
import Derived.Deep.Fields
namespace Go.Proofs.Ytbbeepkcejiafaa.icmpAbout
open Go.ChangeShapes Go.WideShapes Go.ChangeAt Go.RowKit
open Go.ChangeMaps (open_string)
set_option linter.unusedVariables false

theorem own : ownKnob Try.prog.godebug = none := by kernel_rfl
theorem laidOut : laidOutB Try.prog = true := by kernel_rfl

theorem open_fields {H : Type} {enc : TypeId × Value → H} {P : Program} {w : World} {base : Nat} {spare : Nat → Bool} {held : Bool} {r : Reach} {b0 : Nat} {t : TypeId} {fs : Array Field} {v : Value} {d : DataW H} {p : List MemPlace} (hs : P.underlying t = some (.struct fs)) (hone : Go.Deep.oneCellFields P fs = true) (hC : P.cellsOf t = fs.size)
    (hv : Value.okWide P w r b0 t v) (h : DataW.Trod enc P w base spare held t v d p) :
    ∃ (cs : Array Value) (parts : List (DataW H)), v = .agg cs ∧ d = .agg parts ∧ cs.size = fs.size ∧ ∀ (i : Nat) (f : Field), fs[i]? = some f → ∃ n x, DataW.trod enc P w base spare held n f.type ((cs.toList.drop i).take 1) = some x ∧ parts[i]? = some x.1 := by
  obtain ⟨cs, rfl, hsz⟩ := okWide_struct hs hv
  obtain ⟨fuel, hf⟩ := h
  obtain ⟨xs, n, _, hx, hl, hlen, hfs⟩ := DataW.trod_struct hs hf
  have hd : d = .agg (xs.map (·.1)) := congrArg Prod.fst hx
  refine ⟨cs, xs.map (·.1), rfl, hd, hsz.trans hC, fun i f hi => ?_⟩
  obtain ⟨o1, k1⟩ := Go.Deep.hone_of hone i f hi
  have := hfs i f hi
  have hlt : i < xs.length := by rw [hlen]; exact (Array.getElem?_eq_some_iff.1 hi).1
  rw [o1, k1, List.getElem?_eq_getElem hlt] at this
  exact ⟨n, _, by simpa [Value.cells] using this, by simp [List.getElem?_eq_getElem hlt]⟩
theorem sized_field {H : Type} {P : Program} {ts : List TypeId} {ds : List (DataW H)} (h : (DataW.weightsEach P ts ds).all (· ≤ reachBytes) = true) {j i : Nat} {t ft : TypeId} {fs : Array Field} {parts : List (DataW H)} {bytes : List UInt8} (ht : ts[j]? = some t) (hd : ds[j]? = some (.agg parts)) (hu : P.underlying t = some (.struct fs)) (hf : (fs.toList.map (·.type))[i]? = some ft) (hp : parts[i]? = some (.lit (.string bytes))) : bytes.length ≤ reachBytes := by
  have := List.all_eq_true.1 h _ (DataW.weights_mem_each ht hd bytes.length (by simp only [DataW.weights, hu]; exact DataW.weights_mem_each hf hp _ (by simp [DataW.weights])))
  simpa using this

theorem cells35 : Try.prog.cellsOf 35 = 10 := by kernel_rfl
theorem open35 {H : Type} {enc : TypeId × Value → H} {w : World} {base : Nat} {spare : Nat → Bool} {held : Bool} {r : Reach} {b0 : Nat} {v : Value} {d : DataW H} {p : List MemPlace} (hv : Value.okWide Try.prog w r b0 35 v) (h : DataW.Trod enc Try.prog w base spare held 35 v d p) :
    ∃ (f0 : Int) (f1 : Int) (f2 : Int) (f3 : Int) (f4 : Int) (f5 : Int) (f6 : Bool) (f7 : Bool) (f8 : ByteArray) (f9 : ByteArray) (parts : List (DataW H)), v = .agg #[.int .i64 f0, .int .i64 f1, .int .i64 f2, .int .i64 f3, .int .i64 f4, .int .i64 f5, .bool f6, .bool f7, .string f8, .string f9] ∧ d = .agg parts ∧ (Lit.int .i64 f0).wf = true ∧ (Lit.int .i64 f1).wf = true ∧ (Lit.int .i64 f2).wf = true ∧ (Lit.int .i64 f3).wf = true ∧ (Lit.int .i64 f4).wf = true ∧ (Lit.int .i64 f5).wf = true ∧ f8.size ≤ maxLen ∧ f9.size ≤ maxLen ∧ parts[8]? = some (.lit (.string f8.data.toList)) ∧ parts[9]? = some (.lit (.string f9.data.toList)) := by
  obtain ⟨⟨l⟩, parts, rfl, hdp, hz, hf⟩ := open_fields Try.underlying35 (by kernel_rfl) cells35 hv h
  have hz' : l.length = 10 := by simpa using hz
  match l, hz' with
  | [c0, c1, c2, c3, c4, c5, c6, c7, c8, c9], _ =>
    obtain ⟨n0, x0, t0, m0⟩ := hf 0 _ rfl
    obtain ⟨f0, q0, -, e0⟩ := DataW.trod_int Try.underlying3 t0
    have p0 : c0 = .int .i64 f0 := by simpa using q0
    obtain ⟨n1, x1, t1, m1⟩ := hf 1 _ rfl
    obtain ⟨f1, q1, -, e1⟩ := DataW.trod_int Try.underlying3 t1
    have p1 : c1 = .int .i64 f1 := by simpa using q1
    obtain ⟨n2, x2, t2, m2⟩ := hf 2 _ rfl
    obtain ⟨f2, q2, -, e2⟩ := DataW.trod_int Try.underlying3 t2
    have p2 : c2 = .int .i64 f2 := by simpa using q2
    obtain ⟨n3, x3, t3, m3⟩ := hf 3 _ rfl
    obtain ⟨f3, q3, -, e3⟩ := DataW.trod_int Try.underlying3 t3
    have p3 : c3 = .int .i64 f3 := by simpa using q3
    obtain ⟨n4, x4, t4, m4⟩ := hf 4 _ rfl
    obtain ⟨f4, q4, -, e4⟩ := DataW.trod_int Try.underlying3 t4
    have p4 : c4 = .int .i64 f4 := by simpa using q4
    obtain ⟨n5, x5, t5, m5⟩ := hf 5 _ rfl
    obtain ⟨f5, q5, -, e5⟩ := DataW.trod_int Try.underlying3 t5
    have p5 : c5 = .int .i64 f5 := by simpa using q5
    obtain ⟨n6, x6, t6, m6⟩ := hf 6 _ rfl
    obtain ⟨f6, q6, -⟩ := DataW.trod_bool Try.underlying4 t6
    have p6 : c6 = .bool f6 := by simpa using q6
    obtain ⟨n7, x7, t7, m7⟩ := hf 7 _ rfl
    obtain ⟨f7, q7, -⟩ := DataW.trod_bool Try.underlying4 t7
    have p7 : c7 = .bool f7 := by simpa using q7
    obtain ⟨n8, x8, t8, m8⟩ := hf 8 _ rfl
    obtain ⟨f8, q8, y8, e8⟩ := DataW.trod_string Try.underlying9 t8
    rw [y8] at m8
    have p8 : c8 = .string f8 := by simpa using q8
    obtain ⟨n9, x9, t9, m9⟩ := hf 9 _ rfl
    obtain ⟨f9, q9, y9, e9⟩ := DataW.trod_string Try.underlying9 t9
    rw [y9] at m9
    have p9 : c9 = .string f9 := by simpa using q9
    subst p0 p1 p2 p3 p4 p5 p6 p7 p8 p9
    exact ⟨f0, f1, f2, f3, f4, f5, f6, f7, f8, f9, parts, rfl, hdp, e0, e1, e2, e3, e4, e5, e8, e9, m8, m9⟩

-- WALK
theorem run_to (s : ByteArray) (b : Int) (x : ByteArray) (hx : s.extract 0 b.toNat = x) (h : b ≤ s.size) (h0 : 0 ≤ b) : ∀ W, (Instr.slice 9 (.string s) none (some (.int .i64 b)) none).run Try.prog W = .ok (.string x) W := fun W => by
  rw [run_slice_string_to_if W 9 s .i64 b Try.underlying9, if_pos ⟨h0, h⟩, hx]
theorem quiet_about {k : Int} {D : ByteArray} (m : Bool) (hk : k = 3 ∨ k = 11) (hm : mayI k 1 0 0 D.size = true) : tellB 10 11 1 0 (encI k 1 0 0 D) m = false := by
  have h0 : b0 (encI k 1 0 0 D) = k := by
    have hz := encI_size k 1 0 0 D
    rw [← b0_is _ (by omega), byte_num _ 0 (by omega)]
    exact (encI_back hm).1
  have : echoB (encI k 1 0 0 D) = false := by
    unfold echoB
    rw [h0]
    rcases hk with rfl | rfl <;> rfl
  unfold tellB
  rw [this]
  cases m <;> rfl

set_option maxRecDepth 100000 in
set_option maxHeartbeats 2000000 in
theorem walk_r {k : Int} {f t tl pr id fr : Int} {mo dn : Bool} {op da : ByteArray} (w : World) (ho : op.size ≤ 1125899906842624) (hd : da.size ≤ 1125899906842624) (hk : kindB k 1 = false) :
    Calls Try.prog 7 #[.agg #[.int .i64 f, .int .i64 t, .int .i64 tl, .int .i64 pr, .int .i64 id, .int .i64 fr, .bool mo, .bool dn, .string op, .string da], .int .i64 k] w fun e w' => e = .returned (.bool true) ∧ Below w.heap.size w w' := by
  have hA := At.box w #[.int .i64 f, .int .i64 t, .int .i64 tl, .int .i64 pr, .int .i64 id, .int .i64 fr, .bool mo, .bool dn, .string op, .string da] 35
  have hl := bel1 w (.cells #[.int .i64 f, .int .i64 t, .int .i64 tl, .int .i64 pr, .int .i64 id, .int .i64 fr, .bool mo, .bool dn, .string op, .string da] 35)
  go_enter Try.func7, Try.ntmps7
  go_wp2_with fail
  refine (iworks_any _).mono ?_
  rintro e w1 ⟨rfl, hb⟩
  replace hl := bt hl hb
  replace hA := hA.later hb
  clear hb
  obtain ⟨⟨c0, c1, c2, c3, c4, c5, c6, c7, c8, c9⟩, -, -⟩ := hA.ten
  go_wp2_with fail
  refine (abo_r f t tl pr id fr mo dn op da hk _).mono ?_
  rintro e w2 ⟨rfl, hb⟩
  replace hl := bt (bt hl hb) (bel1 w2 (.cells #[.int .i64 0, .int .i64 0, .int .i64 0, .int .i64 0, .string ⟨#[]⟩] 23))
  clear hb
  go_wp2
  go_ret
  exact ⟨rfl, hl⟩

set_option maxRecDepth 100000 in
set_option maxHeartbeats 2000000 in
theorem walk_n {k : Int} {f t tl pr id fr : Int} {mo dn : Bool} {op da : ByteArray} (w : World) (ho : op.size ≤ 1125899906842624) (hd : da.size ≤ 1125899906842624) (hk : kindB k 1 = true) (hm : mayP f t tl pr id fr mo op.size da.size = false) :
    Calls Try.prog 7 #[.agg #[.int .i64 f, .int .i64 t, .int .i64 tl, .int .i64 pr, .int .i64 id, .int .i64 fr, .bool mo, .bool dn, .string op, .string da], .int .i64 k] w fun e w' => e = .returned (.bool true) ∧ Below w.heap.size w w' := by
  have hA := At.box w #[.int .i64 f, .int .i64 t, .int .i64 tl, .int .i64 pr, .int .i64 id, .int .i64 fr, .bool mo, .bool dn, .string op, .string da] 35
  have hl := bel1 w (.cells #[.int .i64 f, .int .i64 t, .int .i64 tl, .int .i64 pr, .int .i64 id, .int .i64 fr, .bool mo, .bool dn, .string op, .string da] 35)
  go_enter Try.func7, Try.ntmps7
  go_wp2_with fail
  refine (iworks_any _).mono ?_
  rintro e w1 ⟨rfl, hb⟩
  replace hl := bt hl hb
  replace hA := hA.later hb
  clear hb
  obtain ⟨⟨c0, c1, c2, c3, c4, c5, c6, c7, c8, c9⟩, -, -⟩ := hA.ten
  go_wp2_with fail
  refine (abo_n hk hm ho hd _).mono ?_
  rintro e w2 ⟨rfl, hb⟩
  replace hl := bt (bt hl hb) (bel1 w2 (.cells #[.int .i64 0, .int .i64 0, .int .i64 0, .int .i64 0, .string ⟨#[]⟩] 23))
  clear hb
  go_wp2
  go_ret
  exact ⟨rfl, hl⟩

set_option maxRecDepth 100000 in
set_option maxHeartbeats 4000000 in
theorem walk_y {k : Int} {f t tl pr id fr : Int} {mo dn : Bool} {op da : ByteArray} (w : World) (hk : kindB k 1 = true) (hm : mayP f t tl pr id fr mo op.size da.size = true) :
    Calls Try.prog 7 #[.agg #[.int .i64 f, .int .i64 t, .int .i64 tl, .int .i64 pr, .int .i64 id, .int .i64 fr, .bool mo, .bool dn, .string op, .string da], .int .i64 k] w fun e w' => e = .returned (.bool true) ∧ Below w.heap.size w w' := by
  have hA := At.box w #[.int .i64 f, .int .i64 t, .int .i64 tl, .int .i64 pr, .int .i64 id, .int .i64 fr, .bool mo, .bool dn, .string op, .string da] 35
  have hl := bel1 w (.cells #[.int .i64 f, .int .i64 t, .int .i64 tl, .int .i64 pr, .int .i64 id, .int .i64 fr, .bool mo, .bool dn, .string op, .string da] 35)
  have hk3 : k = 3 ∨ k = 11 := (of_decide_eq_true hk).1
  obtain ⟨-, -, -, -, -, -, -, o40, -, hz, -⟩ := mayP_q hm
  have hAb := fun W => abo_y (dn := dn) hk hm W
  have hEn := fun W => enc_y (dn := dn) hm W
  have hez := encP_size f t tl pr id fr mo dn op da
  generalize encP f t tl pr id fr mo dn op da = E at *
  have hN : 20 ≤ aboN op da ∧ aboN op da ≤ 68 ∧ aboN op da ≤ E.size := by unfold aboN; omega
  generalize aboN op da = N at *
  obtain ⟨D, hD⟩ : ∃ D, D = E.extract 0 N := ⟨_, rfl⟩
  have hDz : D.size = N := by rw [hD, ByteArray.size_extract]; omega
  have r1 := run_to E (D.size : Int) D (by rw [hDz, hD]; rfl) (by omega) (by omega)
  rw [← hD] at hAb
  have hmi : mayI k 1 0 0 D.size = true := mayI_t ⟨by omega, by decide, by decide, by decide, by omega⟩
  have hEi := fun W => ienc_y hmi W
  have hbz := encI_size k 1 0 0 D
  have hq := fun m => quiet_about m hk3 hmi
  generalize encI k 1 0 0 D = B at *
  have hTe := fun W => tell_any 10 11 9 1 0 0 false false ⟨#[]⟩ B W (by decide) (by omega)
  rw [hq] at hTe
  have g1 : decide ((E.size : Int) < (D.size : Int)) = false := decide_eq_false (by omega)
  have g1' : decide (E.size < D.size) = false := decide_eq_false (by omega)
  have g1n : ¬ E.size < D.size := by omega
  have g2 : (20 : Int) ≤ (D.size : Int) := by omega
  have g3 : (D.size : Int) ≤ 68 := by omega
  have g4 : (E.size : Int) ≤ 65535 := by omega
  have g5 : decide ((D.size : Int) < 20) = false := decide_eq_false (by omega)
  have g5' : decide (D.size < 20) = false := decide_eq_false (by omega)
  have g5n : ¬ D.size < 20 := by omega
  have g6 : decide ((68 : Int) < (D.size : Int)) = false := decide_eq_false (by omega)
  have g6' : decide (68 < D.size) = false := decide_eq_false (by omega)
  have g6n : ¬ 68 < D.size := by omega
  clear hk hk3 hz hez hN hDz hD hmi hbz hq hm
  go_enter Try.func7, Try.ntmps7
  go_wp2_with fail
  refine (iworks_any _).mono ?_
  rintro e w1 ⟨rfl, hb⟩
  replace hl := bt hl hb
  replace hA := hA.later hb
  clear hb
  obtain ⟨⟨c0, c1, c2, c3, c4, c5, c6, c7, c8, c9⟩, -, -⟩ := hA.ten
  go_wp2_with fail
  refine (hAb _).mono ?_
  rintro e w2 ⟨rfl, hb⟩
  replace hl := bt (bt hl hb) (bel1 w2 (.cells #[.int .i64 k, .int .i64 1, .int .i64 0, .int .i64 0, .string D] 23))
  replace hA := (hA.later hb).later (bel1 w2 (.cells #[.int .i64 k, .int .i64 1, .int .i64 0, .int .i64 0, .string D] 23))
  have hX := At.box w2 #[.int .i64 k, .int .i64 1, .int .i64 0, .int .i64 0, .string D] 23
  clear hb c0 c1 c2 c3 c4 c5 c6 c7 c8 c9 hAb
  obtain ⟨⟨c0, c1, c2, c3, c4, c5, c6, c7, c8, c9⟩, -, -⟩ := hA.ten
  go_wp2_with fail
  refine (hEn _).mono ?_
  rintro e w3 ⟨rfl, hb⟩
  replace hl := bt hl hb
  replace hX := hX.later hb
  clear hb c0 c1 c2 c3 c4 c5 c6 c7 c8 c9 hEn hA
  have hX0 : At w3.drew w2.heap.size #[.int .i64 k, .int .i64 1, .int .i64 0, .int .i64 0, .string D] := hX
  have hl0 : Below w.heap.size w w3.drew := hl.drew
  clear hX hl
  have hx4 : w3.drew.cell? ⟨w2.heap.size, 4, none⟩ = some (.string D) := (hX0.five).1.2.2.2.2
  go_wp2
  go_region_held3 (fun W => W.cell? ⟨w2.heap.size, 4, none⟩ = some (.string D)) (first | exact hx4 | assumption) (fail)
  all_goals
    obtain ⟨⟨c0, c1, c2, c3, c4⟩, -, -⟩ := hX0.five
    go_wp2_with fail
    refine (hEi _).mono ?_
    rintro e w4 ⟨rfl, hb⟩
    have hl := bt hl0 hb
    clear hb
    go_wp2_with fail
    refine (hTe _).mono ?_
    rintro e w5 ⟨rfl, hb⟩
    replace hl := bt hl hb
    go_wp2
    go_ret
    exact ⟨rfl, hl⟩

theorem walk (f : Int) (_ : (Lit.int .i64 f).wf = true) (t : Int) (_ : (Lit.int .i64 t).wf = true) (tl : Int) (_ : (Lit.int .i64 tl).wf = true) (pr : Int) (_ : (Lit.int .i64 pr).wf = true) (id : Int) (_ : (Lit.int .i64 id).wf = true) (fr : Int) (_ : (Lit.int .i64 fr).wf = true) (mo : Bool) (dn : Bool) (op : ByteArray) (_ : op.size ≤ maxLen) (zop : op.size ≤ 140737488351232) (da : ByteArray) (_ : da.size ≤ maxLen) (zda : da.size ≤ 140737488351232) (k : Int) (_ : (Lit.int .i64 k).wf = true) (w : World) :
    Calls Try.prog 7 #[.agg #[.int .i64 f, .int .i64 t, .int .i64 tl, .int .i64 pr, .int .i64 id, .int .i64 fr, .bool mo, .bool dn, .string op, .string da], .int .i64 k] w fun e w' => e = .returned (.bool true) ∧ Below w.heap.size w w' := by
  have ho : op.size ≤ 1125899906842624 := by omega
  have hd : da.size ≤ 1125899906842624 := by omega
  cases hk : kindB k 1
  · exact walk_r w ho hd hk
  · cases hm : mayP f t tl pr id fr mo op.size da.size
    · exact walk_n w ho hd hk hm
    · exact walk_y w hk hm

set_option maxRecDepth 100000 in
theorem lifted (os : Os) (started : os.Started) (H : Type) (enc : TypeId × Value → H) :
    ReturnsInHanded {} Try.checked os 7 .any (Rows.icmpAboutSpec.pre6 enc Try.prog Try.f7 Rows.icmpAboutRow.domain false) (Rows.icmpAboutSpec.post enc Try.prog Try.f7 false true false false) := by
  refine returnsInHanded_of_change_sized (C := Try.checked) own started (by kernel_rfl) Try.func7
    (ChangeSpec.witness6 (enc := enc) (C := Try.checked) false ⟨#[], #[.agg #[.int .i64 0, .int .i64 0, .int .i64 0, .int .i64 0, .int .i64 0, .int .i64 0, .bool false, .bool false, .string ByteArray.empty, .string ByteArray.empty], .int .i64 0], []⟩ 8 (by kernel_rfl) (by kernel_rfl) (by kernel_rfl) (by kernel_rfl)) ?_
  intro W base args ds gs before hval0 hW hcnd hsz0 _
  have hsz : (DataW.weightsEach Try.prog (Try.f7.params.toList ++ Rows.icmpAboutSpec.plain.varTypes Try.prog) (ds ++ gs)).all (· ≤ reachBytes) = true := hsz0
  have hval : ∀ (j : Nat) t v, Try.f7.params[j]? = some t → args[j]? = some v → Value.okWide Try.prog W .any base t v := hval0
  have hW' := hW
  obtain ⟨p, q, hA0, hV, rfl, hfz, hnd⟩ := hW
  have hA : DataW.TrodAll enc Try.prog W 0 (fun _ => true) true Try.f7.params.toList args.toList ds p := hA0
  rw [Try.params7] at hA hval hsz
  obtain ⟨v0, vs0, d0, ds0, p0, q0, hargs, rfl, rfl, h0, r0⟩ := trodAll_cons hA
  obtain ⟨v1, vs1, d1, ds1, p1, q1, rfl, rfl, rfl, h1, r1⟩ := trodAll_cons r0
  obtain ⟨rfl, rfl, rfl⟩ := trodAll_nil r1
  obtain rfl : args = #[v0, v1] := by cases args; simp_all
  obtain ⟨rfl, rfl⟩ := trodVars_none hV
  have k0 := h0
  have lt0 : ∀ x ∈ p0, x.block < W.heap.size := by obtain ⟨m, hm⟩ := k0; exact DataW.trod_lt m _ _ _ hm
  have k1 := h1
  have lt1 : ∀ x ∈ p1, x.block < W.heap.size := by obtain ⟨m, hm⟩ := k1; exact DataW.trod_lt m _ _ _ hm
  obtain ⟨f0_0, f0_1, f0_2, f0_3, f0_4, f0_5, f0_6, f0_7, f0_8, f0_9, parts0, rfl, hdp0, e0_0, e0_1, e0_2, e0_3, e0_4, e0_5, e0_8, e0_9, m0_8, m0_9⟩ := open35 (hval 0 35 v0 rfl rfl) h0
  have z0_8 : f0_8.size ≤ 140737488351232 := by
    have := sized_field hsz (j := 0) (i := 8) (t := 35) rfl (by rw [hdp0]; rfl) Try.underlying35 rfl m0_8
    simp only [reachBytes] at this
    simpa using this
  have z0_9 : f0_9.size ≤ 140737488351232 := by
    have := sized_field hsz (j := 0) (i := 9) (t := 35) rfl (by rw [hdp0]; rfl) Try.underlying35 rfl m0_9
    simp only [reachBytes] at this
    simpa using this
  obtain ⟨a1, rfl, -, -, w1⟩ := open_int Try.underlying3 (hval 1 3 v1 rfl rfl) h1
  clear hA0 hval0
  refine (walk f0_0 e0_0 f0_1 e0_1 f0_2 e0_2 f0_3 e0_3 f0_4 e0_4 f0_5 e0_5 f0_6 f0_7 f0_8 e0_8 z0_8 f0_9 e0_9 z0_9 a1 w1 W ).mono fun e W' ⟨he, bel⟩ => ?_
  subst he
  exact ⟨_, rfl, _, _, _, [], _, [], hW', trodAll_mk1 (shut_bool Try.underlying4 _), (trodAll_cons_mk (Below.trod laidOut (by kernel_rfl) (of_decide_eq_true (by kernel_rfl)) k0 bel lt0) (trodAll_cons_mk (Below.trod laidOut (by kernel_rfl) (of_decide_eq_true (by kernel_rfl)) k1 bel lt1) trodAll_mk0)), rfl, bel.frame _, fun h => by cases h⟩

theorem over : Rows.icmpAboutRow.holds Try.pinned (OpenSpec.ofChange Rows.icmpAboutSpec) :=
  OpenClaim.holds_of_wide 7 Try.f7 rfl rfl rfl rfl rfl rfl rfl ⟨rfl, rfl, rfl, rfl, rfl⟩ rfl rfl rfl rfl rfl (by kernel_rfl) Try.func7 (by kernel_rfl)
    (of_decide_eq_true (by kernel_rfl)) (by unfold Func.isWrapper; first | (rw [if_pos (by decide +kernel)]; kernel_rfl) | (rw [if_neg (by decide +kernel)]; exact ⟨rfl, rfl⟩))
    (fun os started H enc _ => lifted os started H enc)

end Go.Proofs.Ytbbeepkcejiafaa.icmpAbout
namespace Go.Proofs.Ytbbeepkcejiafaa
theorem icmpAbout_holds : Rows.IcmpAboutSaid := icmpAbout.over
end Go.Proofs.Ytbbeepkcejiafaa
