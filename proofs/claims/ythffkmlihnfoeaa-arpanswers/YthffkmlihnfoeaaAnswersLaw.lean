/- An answer by ARP goes back to who asked, from who has what was asked for; it is no question; and of a claim it is one: for every packet and every number. -/
import Derived.Test.YthffkmlihnfoeaaRows
import Derived.Test.YthffkmlihnfoeaaAsets
import Derived.Deep.RegionHeld3
import Derived.WalkKit
import Derived.ProofKit
import Derived.OpenShut
import Derived.ShutString
import Derived.ChangeOld
import Derived.Below
import Derived.Carry
import Derived.SizedLaws
import Derived.Deep.Fields
namespace Go.Proofs.Ythffkmlihnfoeaa.arpAnswers
open Go.ChangeShapes Go.WideShapes Go.ChangeAt Go.RowKit
open Go.ChangeMaps (open_string)
set_option linter.unusedVariables false

theorem own : ownKnob Try.prog.godebug = none := by kernel_rfl
theorem laidOut : laidOutB Try.prog = true := by kernel_rfl

theorem open_fields {H : Type} {enc : TypeId × Value → H} {P : Program} {w : World} {base : Nat} {spare : Nat → Bool} {held : Bool} {r : Reach} {b0 : Nat} {t : TypeId} {fs : Array Field} {v : Value} {d : DataW H} {p : List MemPlace} (hs : P.underlying t = some (.struct fs)) (hone : Go.Deep.oneCellFields P fs = true) (hC : P.cellsOf t = fs.size)
    (hv : Value.okWide P w r b0 t v) (h : DataW.Trod enc P w base spare held t v d p) :
    ∃ cs : Array Value, v = .agg cs ∧ cs.size = fs.size ∧ ∀ (i : Nat) (f : Field), fs[i]? = some f → ∃ n x, DataW.trod enc P w base spare held n f.type ((cs.toList.drop i).take 1) = some x := by
  obtain ⟨cs, rfl, hsz⟩ := okWide_struct hs hv
  obtain ⟨fuel, hf⟩ := h
  obtain ⟨xs, n, _, hx, hl, hlen, hfs⟩ := DataW.trod_struct hs hf
  refine ⟨cs, rfl, hsz.trans hC, fun i f hi => ?_⟩
  obtain ⟨o1, k1⟩ := Go.Deep.hone_of hone i f hi
  have := hfs i f hi
  have hlt : i < xs.length := by rw [hlen]; exact (Array.getElem?_eq_some_iff.1 hi).1
  rw [o1, k1, List.getElem?_eq_getElem hlt] at this
  exact ⟨n, _, by simpa [Value.cells] using this⟩

theorem cells23 : Try.prog.cellsOf 23 = 5 := by kernel_rfl
theorem open23 {H : Type} {enc : TypeId × Value → H} {w : World} {base : Nat} {spare : Nat → Bool} {held : Bool} {r : Reach} {b0 : Nat} {v : Value} {d : DataW H} {p : List MemPlace} (hv : Value.okWide Try.prog w r b0 23 v) (h : DataW.Trod enc Try.prog w base spare held 23 v d p) :
    ∃ (f0 : Int) (f1 : Int) (f2 : Int) (f3 : Int) (f4 : Int), v = .agg #[.int .i64 f0, .int .i64 f1, .int .i64 f2, .int .i64 f3, .int .i64 f4] ∧ (Lit.int .i64 f0).wf = true ∧ (Lit.int .i64 f1).wf = true ∧ (Lit.int .i64 f2).wf = true ∧ (Lit.int .i64 f3).wf = true ∧ (Lit.int .i64 f4).wf = true := by
  obtain ⟨⟨l⟩, rfl, hz, hf⟩ := open_fields Try.underlying23 (by kernel_rfl) cells23 hv h
  have hz' : l.length = 5 := by simpa using hz
  match l, hz' with
  | [c0, c1, c2, c3, c4], _ =>
    obtain ⟨n0, x0, t0⟩ := hf 0 _ rfl
    obtain ⟨f0, q0, -, e0⟩ := DataW.trod_int Try.underlying3 t0
    have p0 : c0 = .int .i64 f0 := by simpa using q0
    obtain ⟨n1, x1, t1⟩ := hf 1 _ rfl
    obtain ⟨f1, q1, -, e1⟩ := DataW.trod_int Try.underlying3 t1
    have p1 : c1 = .int .i64 f1 := by simpa using q1
    obtain ⟨n2, x2, t2⟩ := hf 2 _ rfl
    obtain ⟨f2, q2, -, e2⟩ := DataW.trod_int Try.underlying3 t2
    have p2 : c2 = .int .i64 f2 := by simpa using q2
    obtain ⟨n3, x3, t3⟩ := hf 3 _ rfl
    obtain ⟨f3, q3, -, e3⟩ := DataW.trod_int Try.underlying3 t3
    have p3 : c3 = .int .i64 f3 := by simpa using q3
    obtain ⟨n4, x4, t4⟩ := hf 4 _ rfl
    obtain ⟨f4, q4, -, e4⟩ := DataW.trod_int Try.underlying3 t4
    have p4 : c4 = .int .i64 f4 := by simpa using q4
    subst p0 p1 p2 p3 p4
    exact ⟨f0, f1, f2, f3, f4, rfl, e0, e1, e2, e3, e4⟩

-- WALK
theorem keep10 {w W x : World} {a0 a1 a2 a3 a4 a5 a6 a7 a8 a9 : Addr} {v0 v1 v2 v3 v4 v5 v6 v7 v8 v9 : Value} (hb : Below W.heap.size W x) (h : Below w.heap.size w W ∧ W.cell? a0 = some v0 ∧ W.cell? a1 = some v1 ∧ W.cell? a2 = some v2 ∧ W.cell? a3 = some v3 ∧ W.cell? a4 = some v4 ∧ W.cell? a5 = some v5 ∧ W.cell? a6 = some v6 ∧ W.cell? a7 = some v7 ∧ W.cell? a8 = some v8 ∧ W.cell? a9 = some v9) :
    Below w.heap.size w x ∧ x.cell? a0 = some v0 ∧ x.cell? a1 = some v1 ∧ x.cell? a2 = some v2 ∧ x.cell? a3 = some v3 ∧ x.cell? a4 = some v4 ∧ x.cell? a5 = some v5 ∧ x.cell? a6 = some v6 ∧ x.cell? a7 = some v7 ∧ x.cell? a8 = some v8 ∧ x.cell? a9 = some v9 :=
  ⟨bt h.1 hb, later hb h.2.1, later hb h.2.2.1, later hb h.2.2.2.1, later hb h.2.2.2.2.1, later hb h.2.2.2.2.2.1, later hb h.2.2.2.2.2.2.1, later hb h.2.2.2.2.2.2.2.1, later hb h.2.2.2.2.2.2.2.2.1, later hb h.2.2.2.2.2.2.2.2.2.1, later hb h.2.2.2.2.2.2.2.2.2.2⟩
theorem claim_same {o fm fi tm ti mac : Int} (h : tellB o fm fi tm ti mac = true) : clB 2 mac ti fm fi = clB o fm fi tm ti := by
  unfold tellB at h
  unfold clB
  rw [Bool.and_eq_true, Bool.and_eq_true] at h
  rw [h.1.1, h.2, Bool.true_and, Bool.true_and]
  exact BEq.comm
theorem again_f (mac ti fm fi : Int) : tellB 2 mac ti fm fi mac = false := by
  unfold tellB
  rw [show ((2 : Int) == 1) = false from rfl, Bool.and_false, Bool.false_and]

set_option maxRecDepth 100000 in
set_option maxHeartbeats 4000000 in
theorem walk_f (o fm fi tm ti mac : Int) (w : World) (h : tellB o fm fi tm ti mac = false) :
    Calls Try.prog 7 #[.agg #[.int .i64 o, .int .i64 fm, .int .i64 fi, .int .i64 tm, .int .i64 ti], .int .i64 mac] w fun e w' => e = .returned (.bool true) ∧ Below w.heap.size w w' := by
  have hA := At.box w #[.int .i64 o, .int .i64 fm, .int .i64 fi, .int .i64 tm, .int .i64 ti] 23
  have hl := bel1 w (.cells #[.int .i64 o, .int .i64 fm, .int .i64 fi, .int .i64 tm, .int .i64 ti] 23)
  go_enter Try.func7, Try.ntmps7
  go_wp2_with fail
  refine (works_any _).mono ?_
  rintro e w1 ⟨rfl, l⟩
  have hl := bt hl l
  have hA := hA.later l
  obtain ⟨⟨a0, a1, a2, a3, a4⟩, -, -⟩ := hA.five
  go_wp2_with fail
  refine (tell_f h _).mono ?_
  rintro e w2 ⟨rfl, l⟩
  have hl := bt (bt hl l) (bel1 w2 (.cells #[.int .i64 0, .int .i64 0, .int .i64 0, .int .i64 0, .int .i64 0] 23))
  go_wp2
  go_ret
  exact ⟨rfl, hl⟩

set_option maxRecDepth 100000 in
set_option maxHeartbeats 4000000 in
theorem walk_t (o fm fi tm ti mac : Int) (w : World) (h : tellB o fm fi tm ti mac = true) :
    Calls Try.prog 7 #[.agg #[.int .i64 o, .int .i64 fm, .int .i64 fi, .int .i64 tm, .int .i64 ti], .int .i64 mac] w fun e w' => e = .returned (.bool true) ∧ Below w.heap.size w w' := by
  have hA := At.box w #[.int .i64 o, .int .i64 fm, .int .i64 fi, .int .i64 tm, .int .i64 ti] 23
  have hl := bel1 w (.cells #[.int .i64 o, .int .i64 fm, .int .i64 fi, .int .i64 tm, .int .i64 ti] 23)
  go_enter Try.func7, Try.ntmps7
  go_wp2_with fail
  refine (works_any _).mono ?_
  rintro e w1 ⟨rfl, l⟩
  have hl := bt hl l
  have hA := hA.later l
  obtain ⟨⟨a0, a1, a2, a3, a4⟩, -, -⟩ := hA.five
  go_wp2_with fail
  refine (tell_y h _).mono ?_
  rintro e w2 ⟨rfl, l⟩
  clear a0 a1 a2 a3 a4
  have hl := bt (bt hl l) (bel1 w2 (.cells #[.int .i64 2, .int .i64 mac, .int .i64 ti, .int .i64 fm, .int .i64 fi] 23))
  have hA := (hA.later l).later (bel1 w2 (.cells #[.int .i64 2, .int .i64 mac, .int .i64 ti, .int .i64 fm, .int .i64 fi] 23))
  have hB := At.box w2 #[.int .i64 2, .int .i64 mac, .int .i64 ti, .int .i64 fm, .int .i64 fi] 23
  go_wp2_with fail
  refine (tell_f (again_f _ _ _ _) _).mono ?_
  rintro e w3 ⟨rfl, l⟩
  have hl := bt (bt hl l) (bel1 w3 (.cells #[.int .i64 0, .int .i64 0, .int .i64 0, .int .i64 0, .int .i64 0] 23))
  have hA := (hA.later l).later (bel1 w3 (.cells #[.int .i64 0, .int .i64 0, .int .i64 0, .int .i64 0, .int .i64 0] 23))
  have hB := (hB.later l).later (bel1 w3 (.cells #[.int .i64 0, .int .i64 0, .int .i64 0, .int .i64 0, .int .i64 0] 23))
  clear l
  obtain ⟨⟨a0, a1, a2, a3, a4⟩, -, -⟩ := hA.five
  obtain ⟨⟨c0, c1, c2, c3, c4⟩, -, -⟩ := hB.five
  clear hA hB
  generalize w2.heap.size = b2 at *
  go_wp2
  generalize w3.alloc (.cells #[.int .i64 0, .int .i64 0, .int .i64 0, .int .i64 0, .int .i64 0] 23) = W3 at *
  go_region_held3 (fun W => Below w.heap.size w W ∧ W.cell? ⟨w.heap.size, 0, none⟩ = some (.int .i64 o) ∧ W.cell? ⟨w.heap.size, 1, none⟩ = some (.int .i64 fm) ∧ W.cell? ⟨w.heap.size, 2, none⟩ = some (.int .i64 fi) ∧ W.cell? ⟨w.heap.size, 3, none⟩ = some (.int .i64 tm) ∧ W.cell? ⟨w.heap.size, 4, none⟩ = some (.int .i64 ti) ∧ W.cell? ⟨b2, 0, none⟩ = some (.int .i64 2) ∧ W.cell? ⟨b2, 1, none⟩ = some (.int .i64 mac) ∧ W.cell? ⟨b2, 2, none⟩ = some (.int .i64 ti) ∧ W.cell? ⟨b2, 3, none⟩ = some (.int .i64 fm) ∧ W.cell? ⟨b2, 4, none⟩ = some (.int .i64 fi)) (first | exact ⟨hl.drew, a0, a1, a2, a3, a4, c0, c1, c2, c3, c4⟩ | (refine keep10 hb ?_; assumption)) ((go_at_call 13; refine (isc_any _ _ _ _ _ _).mono ?_; rintro e w' ⟨rfl, hb⟩))
  all_goals
    go_wp2
    go_ret
    rename_i hq
    exact ⟨by simp [claim_same h], hq.1⟩

theorem walk (o : Int) (_ : (Lit.int .i64 o).wf = true) (fm : Int) (_ : (Lit.int .i64 fm).wf = true) (fi : Int) (_ : (Lit.int .i64 fi).wf = true) (tm : Int) (_ : (Lit.int .i64 tm).wf = true) (ti : Int) (_ : (Lit.int .i64 ti).wf = true) (mac : Int) (_ : (Lit.int .i64 mac).wf = true) (w : World) :
    Calls Try.prog 7 #[.agg #[.int .i64 o, .int .i64 fm, .int .i64 fi, .int .i64 tm, .int .i64 ti], .int .i64 mac] w fun e w' => e = .returned (.bool true) ∧ Below w.heap.size w w' := by
  rcases Bool.eq_false_or_eq_true (tellB o fm fi tm ti mac) with h | h
  · exact walk_t o fm fi tm ti mac w h
  · exact walk_f o fm fi tm ti mac w h

set_option maxRecDepth 100000 in
theorem lifted (os : Os) (started : os.Started) (H : Type) (enc : TypeId × Value → H) :
    ReturnsInHanded {} Try.checked os 7 .any (Rows.arpAnswersSpec.pre6 enc Try.prog Try.f7 Rows.arpAnswersRow.domain false) (Rows.arpAnswersSpec.post enc Try.prog Try.f7 false true false false) := by
  refine returnsInHanded_of_change (C := Try.checked) own started (by kernel_rfl) Try.func7
    (ChangeSpec.witness6 (enc := enc) (C := Try.checked) false ⟨#[], #[.agg #[.int .i64 0, .int .i64 0, .int .i64 0, .int .i64 0, .int .i64 0], .int .i64 0], []⟩ 8 (by kernel_rfl) (by kernel_rfl) (by kernel_rfl) (by kernel_rfl)) ?_
  intro W base args ds gs before hval0 hW hcnd _
  have hval : ∀ (j : Nat) t v, Try.f7.params[j]? = some t → args[j]? = some v → Value.okWide Try.prog W .any base t v := hval0
  have hW' := hW
  obtain ⟨p, q, hA0, hV, rfl, hfz, hnd⟩ := hW
  have hA : DataW.TrodAll enc Try.prog W 0 (fun _ => true) true Try.f7.params.toList args.toList ds p := hA0
  rw [Try.params7] at hA hval
  obtain ⟨v0, vs0, d0, ds0, p0, q0, hargs, rfl, rfl, h0, r0⟩ := trodAll_cons hA
  obtain ⟨v1, vs1, d1, ds1, p1, q1, rfl, rfl, rfl, h1, r1⟩ := trodAll_cons r0
  obtain ⟨rfl, rfl, rfl⟩ := trodAll_nil r1
  obtain rfl : args = #[v0, v1] := by cases args; simp_all
  obtain ⟨rfl, rfl⟩ := trodVars_none hV
  have k0 := h0
  have lt0 : ∀ x ∈ p0, x.block < W.heap.size := by obtain ⟨m, hm⟩ := k0; exact DataW.trod_lt m _ _ _ hm
  have k1 := h1
  have lt1 : ∀ x ∈ p1, x.block < W.heap.size := by obtain ⟨m, hm⟩ := k1; exact DataW.trod_lt m _ _ _ hm
  obtain ⟨f0_0, f0_1, f0_2, f0_3, f0_4, rfl, e0_0, e0_1, e0_2, e0_3, e0_4⟩ := open23 (hval 0 23 v0 rfl rfl) h0
  obtain ⟨a1, rfl, -, -, w1⟩ := open_int Try.underlying3 (hval 1 3 v1 rfl rfl) h1
  clear hA0 hval0
  refine (walk f0_0 e0_0 f0_1 e0_1 f0_2 e0_2 f0_3 e0_3 f0_4 e0_4 a1 w1 W ).mono fun e W' ⟨he, bel⟩ => ?_
  subst he
  exact ⟨_, rfl, _, _, _, [], _, [], hW', trodAll_mk1 (shut_bool Try.underlying4 _), (trodAll_cons_mk (Below.trod laidOut (by kernel_rfl) (of_decide_eq_true (by kernel_rfl)) k0 bel lt0) (trodAll_cons_mk (Below.trod laidOut (by kernel_rfl) (of_decide_eq_true (by kernel_rfl)) k1 bel lt1) trodAll_mk0)), rfl, bel.frame _, fun h => by cases h⟩

theorem over : Rows.arpAnswersRow.holds Try.pinned (OpenSpec.ofChange Rows.arpAnswersSpec) :=
  OpenClaim.holds_of_wide 7 Try.f7 rfl rfl rfl rfl rfl rfl rfl ⟨rfl, rfl, rfl, rfl, rfl⟩ rfl rfl rfl rfl rfl (by kernel_rfl) Try.func7 (by kernel_rfl)
    (of_decide_eq_true (by kernel_rfl)) (by unfold Func.isWrapper; first | (rw [if_pos (by decide +kernel)]; kernel_rfl) | (rw [if_neg (by decide +kernel)]; exact ⟨rfl, rfl⟩))
    (fun os started H enc _ => lifted os started H enc)

end Go.Proofs.Ythffkmlihnfoeaa.arpAnswers
namespace Go.Proofs.Ythffkmlihnfoeaa
theorem arpAnswers_holds : Rows.ArpAnswersSaid := arpAnswers.over
end Go.Proofs.Ythffkmlihnfoeaa
