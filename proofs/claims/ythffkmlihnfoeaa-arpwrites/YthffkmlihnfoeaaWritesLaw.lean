/- Which ARP packets may be, their bytes, and which are claims, is as the document has it, for every packet. -/
import Derived.Test.YthffkmlihnfoeaaRows
import Derived.Test.YthffkmlihnfoeaaAenc
import Derived.Deep.RegionHeld3
import Derived.WalkKit
import Derived.ProofKit
import Derived.OpenShut
import Derived.ShutString
import Derived.ChangeOld
import Derived.Below
import Derived.Carry
import Derived.SizedLaws
import Derived.Deep.Fields
namespace Go.Proofs.Ythffkmlihnfoeaa.arpWrites
open Go.ChangeShapes Go.WideShapes Go.ChangeAt Go.RowKit
open Go.ChangeMaps (open_string)
set_option linter.unusedVariables false

theorem own : ownKnob Try.prog.godebug = none := by kernel_rfl
theorem laidOut : laidOutB Try.prog = true := by kernel_rfl

theorem open_fields {H : Type} {enc : TypeId × Value → H} {P : Program} {w : World} {base : Nat} {spare : Nat → Bool} {held : Bool} {r : Reach} {b0 : Nat} {t : TypeId} {fs : Array Field} {v : Value} {d : DataW H} {p : List MemPlace} (hs : P.underlying t = some (.struct fs)) (hone : Go.Deep.oneCellFields P fs = true) (hC : P.cellsOf t = fs.size)
    (hv : Value.okWide P w r b0 t v) (h : DataW.Trod enc P w base spare held t v d p) :
    ∃ cs : Array Value, v = .agg cs ∧ cs.size = fs.size ∧ ∀ (i : Nat) (f : Field), fs[i]? = some f → ∃ n x, DataW.trod enc P w base spare held n f.type ((cs.toList.drop i).take 1) = some x := by
  obtain ⟨cs, rfl, hsz⟩ := okWide_struct hs hv
  obtain ⟨fuel, hf⟩ := h
  obtain ⟨xs, n, _, hx, hl, hlen, hfs⟩ := DataW.trod_struct hs hf
  refine ⟨cs, rfl, hsz.trans hC, fun i f hi => ?_⟩
  obtain ⟨o1, k1⟩ := Go.Deep.hone_of hone i f hi
  have := hfs i f hi
  have hlt : i < xs.length := by rw [hlen]; exact (Array.getElem?_eq_some_iff.1 hi).1
  rw [o1, k1, List.getElem?_eq_getElem hlt] at this
  exact ⟨n, _, by simpa [Value.cells] using this⟩

theorem cells23 : Try.prog.cellsOf 23 = 5 := by kernel_rfl
theorem open23 {H : Type} {enc : TypeId × Value → H} {w : World} {base : Nat} {spare : Nat → Bool} {held : Bool} {r : Reach} {b0 : Nat} {v : Value} {d : DataW H} {p : List MemPlace} (hv : Value.okWide Try.prog w r b0 23 v) (h : DataW.Trod enc Try.prog w base spare held 23 v d p) :
    ∃ (f0 : Int) (f1 : Int) (f2 : Int) (f3 : Int) (f4 : Int), v = .agg #[.int .i64 f0, .int .i64 f1, .int .i64 f2, .int .i64 f3, .int .i64 f4] ∧ (Lit.int .i64 f0).wf = true ∧ (Lit.int .i64 f1).wf = true ∧ (Lit.int .i64 f2).wf = true ∧ (Lit.int .i64 f3).wf = true ∧ (Lit.int .i64 f4).wf = true := by
  obtain ⟨⟨l⟩, rfl, hz, hf⟩ := open_fields Try.underlying23 (by kernel_rfl) cells23 hv h
  have hz' : l.length = 5 := by simpa using hz
  match l, hz' with
  | [c0, c1, c2, c3, c4], _ =>
    obtain ⟨n0, x0, t0⟩ := hf 0 _ rfl
    obtain ⟨f0, q0, -, e0⟩ := DataW.trod_int Try.underlying3 t0
    have p0 : c0 = .int .i64 f0 := by simpa using q0
    obtain ⟨n1, x1, t1⟩ := hf 1 _ rfl
    obtain ⟨f1, q1, -, e1⟩ := DataW.trod_int Try.underlying3 t1
    have p1 : c1 = .int .i64 f1 := by simpa using q1
    obtain ⟨n2, x2, t2⟩ := hf 2 _ rfl
    obtain ⟨f2, q2, -, e2⟩ := DataW.trod_int Try.underlying3 t2
    have p2 : c2 = .int .i64 f2 := by simpa using q2
    obtain ⟨n3, x3, t3⟩ := hf 3 _ rfl
    obtain ⟨f3, q3, -, e3⟩ := DataW.trod_int Try.underlying3 t3
    have p3 : c3 = .int .i64 f3 := by simpa using q3
    obtain ⟨n4, x4, t4⟩ := hf 4 _ rfl
    obtain ⟨f4, q4, -, e4⟩ := DataW.trod_int Try.underlying3 t4
    have p4 : c4 = .int .i64 f4 := by simpa using q4
    subst p0 p1 p2 p3 p4
    exact ⟨f0, f1, f2, f3, f4, rfl, e0, e1, e2, e3, e4⟩

-- WALK
set_option maxRecDepth 100000 in
set_option maxHeartbeats 4000000 in
theorem walk_true (o fm fi tm ti : Int) (w : World) (h : mayA o fm fi tm ti = true) :
    Calls Try.prog 3 #[.agg #[.int .i64 o, .int .i64 fm, .int .i64 fi, .int .i64 tm, .int .i64 ti]] w fun e w' => e = .returned (.bool true) ∧ Below w.heap.size w w' := by
  have hA := At.box w #[.int .i64 o, .int .i64 fm, .int .i64 fi, .int .i64 tm, .int .i64 ti] 23
  have hl := bel1 w (.cells #[.int .i64 o, .int .i64 fm, .int .i64 fi, .int .i64 tm, .int .i64 ti] 23)
  go_enter Try.func3, Try.ntmps3
  go_wp2_with fail
  refine (enc_y h _).mono ?_
  rintro e w1 ⟨rfl, l1⟩
  have hA := hA.later l1
  have hl := bt hl l1
  obtain ⟨⟨a0, a1, a2, a3, a4⟩, -, -⟩ := hA.five
  go_wp2_with fail
  refine (renc_y h _).mono ?_
  rintro e w2 ⟨rfl, l2⟩
  have hA := hA.later l2
  have hl := bt hl l2
  clear a0 a1 a2 a3 a4 l1 l2
  obtain ⟨a, -, -⟩ := hA.five
  clear hA
  go_wp2
  go_region_held3 (fun W => Below w.heap.size w W ∧ W.cell? ⟨w.heap.size, 0, none⟩ = some (.int .i64 o) ∧ W.cell? ⟨w.heap.size, 1, none⟩ = some (.int .i64 fm) ∧ W.cell? ⟨w.heap.size, 2, none⟩ = some (.int .i64 fi) ∧ W.cell? ⟨w.heap.size, 3, none⟩ = some (.int .i64 tm) ∧ W.cell? ⟨w.heap.size, 4, none⟩ = some (.int .i64 ti)) (first | exact ⟨hl.drew, a.1, a.2.1, a.2.2.1, a.2.2.2.1, a.2.2.2.2⟩ | (refine keep5 hb ?_; assumption)) (first | (go_at_call 11; refine (ach_t h _).mono ?_; rintro e w' ⟨rfl, hb⟩) | (go_at_call 12; refine (rchk_t h _).mono ?_; rintro e w' ⟨rfl, hb⟩) | (go_at_call 13; refine (isc_any _ _ _ _ _ _).mono ?_; rintro e w' ⟨rfl, hb⟩) | (go_at_call 14; refine (risc_any _ _ _ _ _ _).mono ?_; rintro e w' ⟨rfl, hb⟩) | (go_at_call 15; refine (works_any _).mono ?_; rintro e w' ⟨rfl, hb⟩))
  all_goals
    go_wp2
    go_ret
    rename_i hq
    exact ⟨rfl, hq.1⟩
set_option maxRecDepth 100000 in
set_option maxHeartbeats 4000000 in
theorem walk_false (o fm fi tm ti : Int) (w : World) (h : mayA o fm fi tm ti = false) :
    Calls Try.prog 3 #[.agg #[.int .i64 o, .int .i64 fm, .int .i64 fi, .int .i64 tm, .int .i64 ti]] w fun e w' => e = .returned (.bool true) ∧ Below w.heap.size w w' := by
  have hA := At.box w #[.int .i64 o, .int .i64 fm, .int .i64 fi, .int .i64 tm, .int .i64 ti] 23
  have hl := bel1 w (.cells #[.int .i64 o, .int .i64 fm, .int .i64 fi, .int .i64 tm, .int .i64 ti] 23)
  go_enter Try.func3, Try.ntmps3
  go_wp2_with fail
  refine (enc_n h _).mono ?_
  rintro e w1 ⟨rfl, l1⟩
  have hA := hA.later l1
  have hl := bt hl l1
  obtain ⟨⟨a0, a1, a2, a3, a4⟩, -, -⟩ := hA.five
  go_wp2_with fail
  refine (renc_n h _).mono ?_
  rintro e w2 ⟨rfl, l2⟩
  have hA := hA.later l2
  have hl := bt hl l2
  clear a0 a1 a2 a3 a4 l1 l2
  obtain ⟨a, -, -⟩ := hA.five
  clear hA
  go_wp2
  go_region_held3 (fun W => Below w.heap.size w W ∧ W.cell? ⟨w.heap.size, 0, none⟩ = some (.int .i64 o) ∧ W.cell? ⟨w.heap.size, 1, none⟩ = some (.int .i64 fm) ∧ W.cell? ⟨w.heap.size, 2, none⟩ = some (.int .i64 fi) ∧ W.cell? ⟨w.heap.size, 3, none⟩ = some (.int .i64 tm) ∧ W.cell? ⟨w.heap.size, 4, none⟩ = some (.int .i64 ti)) (first | exact ⟨hl.drew, a.1, a.2.1, a.2.2.1, a.2.2.2.1, a.2.2.2.2⟩ | (refine keep5 hb ?_; assumption)) (first | (go_at_call 11; refine (ach_f h _).mono ?_; rintro e w' ⟨rfl, hb⟩) | (go_at_call 12; refine (rchk_f h _).mono ?_; rintro e w' ⟨rfl, hb⟩) | (go_at_call 13; refine (isc_any _ _ _ _ _ _).mono ?_; rintro e w' ⟨rfl, hb⟩) | (go_at_call 14; refine (risc_any _ _ _ _ _ _).mono ?_; rintro e w' ⟨rfl, hb⟩) | (go_at_call 15; refine (works_any _).mono ?_; rintro e w' ⟨rfl, hb⟩))
  all_goals
    go_wp2
    go_ret
    rename_i hq
    exact ⟨rfl, hq.1⟩
theorem walk (o : Int) (_ : (Lit.int .i64 o).wf = true) (fm : Int) (_ : (Lit.int .i64 fm).wf = true) (fi : Int) (_ : (Lit.int .i64 fi).wf = true) (tm : Int) (_ : (Lit.int .i64 tm).wf = true) (ti : Int) (_ : (Lit.int .i64 ti).wf = true) (w : World) :
    Calls Try.prog 3 #[.agg #[.int .i64 o, .int .i64 fm, .int .i64 fi, .int .i64 tm, .int .i64 ti]] w fun e w' => e = .returned (.bool true) ∧ Below w.heap.size w w' := by
  rcases Bool.eq_false_or_eq_true (mayA o fm fi tm ti) with h | h
  · exact walk_true o fm fi tm ti w h
  · exact walk_false o fm fi tm ti w h

set_option maxRecDepth 100000 in
theorem lifted (os : Os) (started : os.Started) (H : Type) (enc : TypeId × Value → H) :
    ReturnsInHanded {} Try.checked os 3 .any (Rows.arpWritesSpec.pre6 enc Try.prog Try.f3 Rows.arpWritesRow.domain false) (Rows.arpWritesSpec.post enc Try.prog Try.f3 false true false false) := by
  refine returnsInHanded_of_change (C := Try.checked) own started (by kernel_rfl) Try.func3
    (ChangeSpec.witness6 (enc := enc) (C := Try.checked) false ⟨#[], #[.agg #[.int .i64 0, .int .i64 0, .int .i64 0, .int .i64 0, .int .i64 0]], []⟩ 8 (by kernel_rfl) (by kernel_rfl) (by kernel_rfl) (by kernel_rfl)) ?_
  intro W base args ds gs before hval0 hW hcnd _
  have hval : ∀ (j : Nat) t v, Try.f3.params[j]? = some t → args[j]? = some v → Value.okWide Try.prog W .any base t v := hval0
  have hW' := hW
  obtain ⟨p, q, hA0, hV, rfl, hfz, hnd⟩ := hW
  have hA : DataW.TrodAll enc Try.prog W 0 (fun _ => true) true Try.f3.params.toList args.toList ds p := hA0
  rw [Try.params3] at hA hval
  obtain ⟨v0, vs0, d0, ds0, p0, q0, hargs, rfl, rfl, h0, r0⟩ := trodAll_cons hA
  obtain ⟨rfl, rfl, rfl⟩ := trodAll_nil r0
  obtain rfl : args = #[v0] := by cases args; simp_all
  obtain ⟨rfl, rfl⟩ := trodVars_none hV
  have k0 := h0
  have lt0 : ∀ x ∈ p0, x.block < W.heap.size := by obtain ⟨m, hm⟩ := k0; exact DataW.trod_lt m _ _ _ hm
  obtain ⟨f0_0, f0_1, f0_2, f0_3, f0_4, rfl, e0_0, e0_1, e0_2, e0_3, e0_4⟩ := open23 (hval 0 23 v0 rfl rfl) h0
  clear hA0 hval0
  refine (walk f0_0 e0_0 f0_1 e0_1 f0_2 e0_2 f0_3 e0_3 f0_4 e0_4 W ).mono fun e W' ⟨he, bel⟩ => ?_
  subst he
  exact ⟨_, rfl, _, _, _, [], _, [], hW', trodAll_mk1 (shut_bool Try.underlying4 _), (trodAll_cons_mk (Below.trod laidOut (by kernel_rfl) (of_decide_eq_true (by kernel_rfl)) k0 bel lt0) trodAll_mk0), rfl, bel.frame _, fun h => by cases h⟩

theorem over : Rows.arpWritesRow.holds Try.pinned (OpenSpec.ofChange Rows.arpWritesSpec) :=
  OpenClaim.holds_of_wide 3 Try.f3 rfl rfl rfl rfl rfl rfl rfl ⟨rfl, rfl, rfl, rfl, rfl⟩ rfl rfl rfl rfl rfl (by kernel_rfl) Try.func3 (by kernel_rfl)
    (of_decide_eq_true (by kernel_rfl)) (by unfold Func.isWrapper; first | (rw [if_pos (by decide +kernel)]; kernel_rfl) | (rw [if_neg (by decide +kernel)]; exact ⟨rfl, rfl⟩))
    (fun os started H enc _ => lifted os started H enc)

end Go.Proofs.Ythffkmlihnfoeaa.arpWrites
namespace Go.Proofs.Ythffkmlihnfoeaa
theorem arpWrites_holds : Rows.ArpWritesSaid := arpWrites.over
end Go.Proofs.Ythffkmlihnfoeaa
