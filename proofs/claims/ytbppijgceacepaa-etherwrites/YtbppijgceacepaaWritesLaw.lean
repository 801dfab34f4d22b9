/- Proved: for all frames and lists of numbers ether.Encode, Check and For answer as the document has it, and the list stays as it is; no condition. -/
import Derived.Test.YtbppijgceacepaaRows
import Derived.Test.YtbppijgceacepaaLends
import Derived.Test.YtbppijgceacepaaDecodes
import Derived.Deep.RegionHeld3
import Derived.WalkKit
import Derived.ProofKit
import Derived.OpenShut
import Derived.ShutString
import Derived.ChangeOld
import Derived.Below
import Derived.Carry
import Derived.SizedLaws
import Derived.Deep.Fields
import Derived.ChangeSlices
import Derived.Laws.AppendOwnNone
import Derived.Laws.AppendOwn
namespace Go.Proofs.Ytbppijgceacepaa.etherWrites
open Go.ChangeShapes Go.WideShapes Go.ChangeAt Go.RowKit
open Go.ChangeMaps (open_string)
set_option linter.unusedVariables false

theorem own : ownKnob Try.prog.godebug = none := by kernel_rfl
theorem laidOut : laidOutB Try.prog = true := by kernel_rfl

theorem open_fields {H : Type} {enc : TypeId × Value → H} {P : Program} {w : World} {base : Nat} {spare : Nat → Bool} {held : Bool} {r : Reach} {b0 : Nat} {t : TypeId} {fs : Array Field} {v : Value} {d : DataW H} {p : List MemPlace} (hs : P.underlying t = some (.struct fs)) (hone : Go.Deep.oneCellFields P fs = true) (hC : P.cellsOf t = fs.size)
    (hv : Value.okWide P w r b0 t v) (h : DataW.Trod enc P w base spare held t v d p) :
    ∃ cs : Array Value, v = .agg cs ∧ cs.size = fs.size ∧ ∀ (i : Nat) (f : Field), fs[i]? = some f → ∃ n x, DataW.trod enc P w base spare held n f.type ((cs.toList.drop i).take 1) = some x := by
  obtain ⟨cs, rfl, hsz⟩ := okWide_struct hs hv
  obtain ⟨fuel, hf⟩ := h
  obtain ⟨xs, n, _, hx, hl, hlen, hfs⟩ := DataW.trod_struct hs hf
  refine ⟨cs, rfl, hsz.trans hC, fun i f hi => ?_⟩
  obtain ⟨o1, k1⟩ := Go.Deep.hone_of hone i f hi
  have := hfs i f hi
  have hlt : i < xs.length := by rw [hlen]; exact (Array.getElem?_eq_some_iff.1 hi).1
  rw [o1, k1, List.getElem?_eq_getElem hlt] at this
  exact ⟨n, _, by simpa [Value.cells] using this⟩

theorem cells23 : Try.prog.cellsOf 23 = 4 := by kernel_rfl
theorem open23 {H : Type} {enc : TypeId × Value → H} {w : World} {base : Nat} {spare : Nat → Bool} {held : Bool} {r : Reach} {b0 : Nat} {v : Value} {d : DataW H} {p : List MemPlace} (hv : Value.okWide Try.prog w r b0 23 v) (h : DataW.Trod enc Try.prog w base spare held 23 v d p) :
    ∃ (f0 : Int) (f1 : Int) (f2 : Int) (f3 : ByteArray), v = .agg #[.int .i64 f0, .int .i64 f1, .int .i64 f2, .string f3] ∧ (Lit.int .i64 f0).wf = true ∧ (Lit.int .i64 f1).wf = true ∧ (Lit.int .i64 f2).wf = true ∧ f3.size ≤ maxLen := by
  obtain ⟨⟨l⟩, rfl, hz, hf⟩ := open_fields Try.underlying23 (by kernel_rfl) cells23 hv h
  have hz' : l.length = 4 := by simpa using hz
  match l, hz' with
  | [c0, c1, c2, c3], _ =>
    obtain ⟨n0, x0, t0⟩ := hf 0 _ rfl
    obtain ⟨f0, q0, -, e0⟩ := DataW.trod_int Try.underlying3 t0
    have p0 : c0 = .int .i64 f0 := by simpa using q0
    obtain ⟨n1, x1, t1⟩ := hf 1 _ rfl
    obtain ⟨f1, q1, -, e1⟩ := DataW.trod_int Try.underlying3 t1
    have p1 : c1 = .int .i64 f1 := by simpa using q1
    obtain ⟨n2, x2, t2⟩ := hf 2 _ rfl
    obtain ⟨f2, q2, -, e2⟩ := DataW.trod_int Try.underlying3 t2
    have p2 : c2 = .int .i64 f2 := by simpa using q2
    obtain ⟨n3, x3, t3⟩ := hf 3 _ rfl
    obtain ⟨f3, q3, -, e3⟩ := DataW.trod_string Try.underlying9 t3
    have p3 : c3 = .string f3 := by simpa using q3
    subst p0 p1 p2 p3
    exact ⟨f0, f1, f2, f3, rfl, e0, e1, e2, e3⟩

/-- What the walk is told of a list of numbers that came in: it is nil, or it leads to a row of cells that hold the numbers. -/
def IsInts (w : World) (a : Option Addr) (cap : Nat) (zs : List Int) : Prop :=
  (a = none ∧ cap = 0 ∧ zs = []) ∨ ∃ x, a = some x ∧ (∀ i, i < zs.length → w.cell? (x.add i) = some (.int .i64 (zs.getD i 0))) ∧ ∀ z ∈ zs, (Lit.int .i64 z).wf = true
theorem bytes3 : Try.prog.bytesOf 3 = 8 := by kernel_rfl

-- WALK
theorem row_of {w : World} {a : Option Addr} {cap : Nat} {zs : List Int} (h : IsInts w a cap zs) : Row w a zs ∧ (a = none → zs = []) := by
  rcases h with ⟨rfl, rfl, rfl⟩ | ⟨x, rfl, hc, _⟩
  · exact ⟨Or.inl rfl, fun _ => rfl⟩
  · refine ⟨?_, fun q => by cases q⟩
    cases zs with
    | nil => exact Or.inl rfl
    | cons z l =>
      right
      obtain ⟨b, off, spot⟩ := x
      have hspot : spot = none := by
        have := World.cell?_spot (hc 0 (by simp))
        simpa [Addr.add] using this
      subst hspot
      exact ⟨b, off, rfl, fun j hj => by have := hc j hj; rwa [Addr.add_lit] at this⟩

theorem keepW {w W x : World} {b : Nat} {v0 v1 v2 v3 : Value} {a : Option Addr} {g cap : Nat} {zs : List Int} (hb : Below W.heap.size W x)
    (h : Below w.heap.size w W ∧ W.cell? ⟨b, 0, none⟩ = some v0 ∧ W.cell? ⟨b, 1, none⟩ = some v1 ∧ W.cell? ⟨b, 2, none⟩ = some v2 ∧ W.cell? ⟨b, 3, none⟩ = some v3 ∧ Row W a zs ∧ Lent W g cap zs) :
    Below w.heap.size w x ∧ x.cell? ⟨b, 0, none⟩ = some v0 ∧ x.cell? ⟨b, 1, none⟩ = some v1 ∧ x.cell? ⟨b, 2, none⟩ = some v2 ∧ x.cell? ⟨b, 3, none⟩ = some v3 ∧ Row x a zs ∧ Lent x g cap zs :=
  ⟨bt h.1 hb, later hb h.2.1, later hb h.2.2.1, later hb h.2.2.2.1, later hb h.2.2.2.2.1, h.2.2.2.2.2.1.later hb, h.2.2.2.2.2.2.later hb⟩

theorem for_held (t f k : Int) (d : ByteArray) {w W : World} {b : Nat} {v0 v1 v2 v3 : Value} {a : Option Addr} {g cap' : Nat} {zs : List Int} (hd : d.size ≤ maxLen) (hz : zs.length * 8 ≤ 140737488351232) (h : Below w.heap.size w W ∧ W.cell? ⟨b, 0, none⟩ = some v0 ∧ W.cell? ⟨b, 1, none⟩ = some v1 ∧ W.cell? ⟨b, 2, none⟩ = some v2 ∧ W.cell? ⟨b, 3, none⟩ = some v3 ∧ Row W a zs ∧ Lent W g cap' zs) :
    Calls Try.prog 12 #[.agg #[.int .i64 t, .int .i64 f, .int .i64 k, .string d], .slice (some ⟨g, 0, none⟩) zs.length cap'] W fun e w' => e = .returned (.bool (forB t f k d.size zs)) ∧ Below W.heap.size W w' :=
  for_any t f k d _ _ zs W hd (by omega) h.2.2.2.2.2.2.2.1
theorem rfor_held (t f k : Int) (d : ByteArray) {w W : World} {b : Nat} {v0 v1 v2 v3 : Value} {a : Option Addr} {g cap' : Nat} {zs : List Int} (cap : Nat) (hd : d.size ≤ maxLen) (hz : zs.length * 8 ≤ 140737488351232) (h : Below w.heap.size w W ∧ W.cell? ⟨b, 0, none⟩ = some v0 ∧ W.cell? ⟨b, 1, none⟩ = some v1 ∧ W.cell? ⟨b, 2, none⟩ = some v2 ∧ W.cell? ⟨b, 3, none⟩ = some v3 ∧ Row W a zs ∧ Lent W g cap' zs) :
    Calls Try.prog 13 #[.agg #[.int .i64 t, .int .i64 f, .int .i64 k, .string d], .slice a zs.length cap] W fun e w' => e = .returned (.bool (forB t f k d.size zs)) ∧ Below W.heap.size W w' :=
  rfor_any t f k d _ _ zs W hd (by omega) h.2.2.2.2.2.1
theorem kept_held {w W : World} {b : Nat} {v0 v1 v2 v3 : Value} {a : Option Addr} {g cap' : Nat} {zs : List Int} (cap : Nat) (hz : zs.length * 8 ≤ 140737488351232) (h : Below w.heap.size w W ∧ W.cell? ⟨b, 0, none⟩ = some v0 ∧ W.cell? ⟨b, 1, none⟩ = some v1 ∧ W.cell? ⟨b, 2, none⟩ = some v2 ∧ W.cell? ⟨b, 3, none⟩ = some v3 ∧ Row W a zs ∧ Lent W g cap' zs) :
    Calls Try.prog 14 #[.slice (some ⟨g, 0, none⟩) zs.length cap', .slice a zs.length cap] W fun e w' => e = .returned (.bool true) ∧ Below W.heap.size W w' :=
  kept_any g cap' a cap zs W hz h.2.2.2.2.2.2 h.2.2.2.2.2.1

set_option maxHeartbeats 4000000 in
theorem walk (t : Int) (wt : (Lit.int .i64 t).wf = true) (f : Int) (wf : (Lit.int .i64 f).wf = true) (k : Int) (wk : (Lit.int .i64 k).wf = true) (d : ByteArray) (hd : d.size ≤ maxLen) (a : Option Addr) (cap : Nat) (zs : List Int) (w : World) (hi : IsInts w a cap zs) (hz : zs.length * 8 ≤ 140737488351232) :
    Calls Try.prog 3 #[.agg #[.int .i64 t, .int .i64 f, .int .i64 k, .string d], .slice a zs.length cap] w fun e w' => e = .returned (.bool true) ∧ Below w.heap.size w w' := by
  clear wt wf wk
  obtain ⟨hr, hn⟩ := row_of hi
  clear hi
  have hA := at_box w (.int .i64 t) (.int .i64 f) (.int .i64 k) (.string d) 23
  have hl := bel1 w (.cells #[.int .i64 t, .int .i64 f, .int .i64 k, .string d] 23)
  have hbig : zs.length ≤ 9223372036854775807 := by omega
  go_enter Try.func3, Try.ntmps3
  go_wp2_with fail
  refine (enc_any _ _ _ _ _ hd).mono ?_
  rintro e u1 ⟨rfl, l1⟩
  have hA := hA.later l1
  have hr := (hr.later hl).later l1
  have hl := bt hl l1
  clear l1
  have hA' := hA
  obtain ⟨⟨a0, a1, a2, a3⟩, -, -⟩ := hA'
  go_wp2_with fail
  refine (renc_any _ _ _ _ _ hd).mono ?_
  rintro e u2 ⟨rfl, l2⟩
  clear a0 a1 a2 a3
  have hA := hA.later l2
  have hr := hr.later l2
  have hl := bt hl l2
  clear l2
  go_wp2_with fail
  refine (lend_any _ _ zs _ hz hr hn).mono ?_
  rintro e u3 ⟨g, cap', rfl, hL, l3⟩
  have hA := hA.later l3
  have hr := hr.later l3
  have hl := bt hl l3
  clear l3
  obtain ⟨⟨a0, a1, a2, a3⟩, -, -⟩ := hA
  generalize encV t f k d = E
  generalize mayB t f k d.size = M
  go_wp2
  go_region_held3 (fun W => Below w.heap.size w W ∧ W.cell? ⟨w.heap.size, 0, none⟩ = some (.int .i64 t) ∧ W.cell? ⟨w.heap.size, 1, none⟩ = some (.int .i64 f) ∧ W.cell? ⟨w.heap.size, 2, none⟩ = some (.int .i64 k) ∧ W.cell? ⟨w.heap.size, 3, none⟩ = some (.string d) ∧ Row W a zs ∧ Lent W g cap' zs) (first | exact ⟨hl.drew, a0, a1, a2, a3, hr, hL⟩ | (refine keepW hb ?_; assumption)) (first | (go_at_call 10; refine (check_any _ _ _ _ _ hd).mono ?_; rintro e x ⟨rfl, hb⟩) | (go_at_call 11; refine (rcheck_any _ _ _ _ _ hd).mono ?_; rintro e x ⟨rfl, hb⟩) | (go_at_call 12; refine (for_held _ _ _ _ hd hz (by assumption)).mono ?_; rintro e x ⟨rfl, hb⟩) | (go_at_call 13; refine (rfor_held _ _ _ _ _ hd hz (by assumption)).mono ?_; rintro e x ⟨rfl, hb⟩) | (go_at_call 14; refine (kept_held _ hz (by assumption)).mono ?_; rintro e x ⟨rfl, hb⟩) | (go_at_call 15; refine (works_any _).mono ?_; rintro e x ⟨rfl, hb⟩))
  all_goals
    go_wp2
    go_ret
    rename_i hq
    exact ⟨rfl, hq.1⟩


set_option maxRecDepth 100000 in
theorem lifted (os : Os) (started : os.Started) (H : Type) (enc : TypeId × Value → H) :
    ReturnsInHanded {} Try.checked os 3 .any (Rows.etherWritesSpec.pre6 enc Try.prog Try.f3 Rows.etherWritesRow.domain false) (Rows.etherWritesSpec.post enc Try.prog Try.f3 false true false false) := by
  refine returnsInHanded_of_change_sized (C := Try.checked) own started (by kernel_rfl) Try.func3
    (ChangeSpec.witness6 (enc := enc) (C := Try.checked) false ⟨#[], #[.agg #[.int .i64 0, .int .i64 0, .int .i64 0, .string ByteArray.empty], .slice none 0 0], []⟩ 8 (by kernel_rfl) (by kernel_rfl) (by kernel_rfl) (by kernel_rfl)) ?_
  intro W base args ds gs before hval0 hW hcnd hsz0 _
  have hsz : (DataW.weightsEach Try.prog (Try.f3.params.toList ++ Rows.etherWritesSpec.plain.varTypes Try.prog) (ds ++ gs)).all (· ≤ reachBytes) = true := hsz0
  have hval : ∀ (j : Nat) t v, Try.f3.params[j]? = some t → args[j]? = some v → Value.okWide Try.prog W .any base t v := hval0
  have hW' := hW
  obtain ⟨p, q, hA0, hV, rfl, hfz, hnd⟩ := hW
  have hA : DataW.TrodAll enc Try.prog W 0 (fun _ => true) true Try.f3.params.toList args.toList ds p := hA0
  rw [Try.params3] at hA hval hsz
  obtain ⟨v0, vs0, d0, ds0, p0, q0, hargs, rfl, rfl, h0, r0⟩ := trodAll_cons hA
  obtain ⟨v1, vs1, d1, ds1, p1, q1, rfl, rfl, rfl, h1, r1⟩ := trodAll_cons r0
  obtain ⟨rfl, rfl, rfl⟩ := trodAll_nil r1
  obtain rfl : args = #[v0, v1] := by cases args; simp_all
  obtain ⟨rfl, rfl⟩ := trodVars_none hV
  have k0 := h0
  have lt0 : ∀ x ∈ p0, x.block < W.heap.size := by obtain ⟨m, hm⟩ := k0; exact DataW.trod_lt m _ _ _ hm
  have k1 := h1
  have lt1 : ∀ x ∈ p1, x.block < W.heap.size := by obtain ⟨m, hm⟩ := k1; exact DataW.trod_lt m _ _ _ hm
  obtain ⟨f0_0, f0_1, f0_2, f0_3, rfl, e0_0, e0_1, e0_2, e0_3⟩ := open23 (hval 0 23 v0 rfl rfl) h0
  obtain ⟨a1, len1, c1, rfl⟩ := okWide_slice Try.underlying24 (hval 1 24 v1 rfl rfl)
  obtain ⟨zs1, hlen1, g1, y1⟩ : ∃ zs : List Int, zs.length = len1 ∧ IsInts W a1 c1 zs ∧ zs.length * 8 ≤ 140737488351232 := by
    obtain ⟨fuel, hf⟩ := h1
    rcases open_ints Try.underlying24 Try.underlying3 (by kernel_rfl) hf with ⟨hcs, _⟩ | ⟨x, l, c, zs, hcs, _, hl, hm, hz, hx, hcell, hwz⟩
    · simp [Value.cells] at hcs
      obtain ⟨rfl, rfl, rfl⟩ := hcs
      exact ⟨[], rfl, .inl ⟨rfl, rfl, rfl⟩, by simp⟩
    · simp [Value.cells] at hcs
      obtain ⟨rfl, rfl, rfl⟩ := hcs
      simp only [if_true] at hz
      have hd : d1 = .slice (lits .i64 (zs.take len1)) (lits .i64 (zs.drop len1)) := congrArg Prod.fst hx
      have hsl := sized_slice hsz (j := 1) (t := 24) (e := 3) rfl (by rw [hd]; rfl) Try.underlying24
      rw [bytes3] at hsl
      simp only [lits, List.length_map, List.length_take, List.length_drop, reachBytes] at hsl
      have htl : (zs.take len1).length = len1 := by rw [List.length_take]; omega
      refine ⟨zs.take len1, htl, .inr ⟨x, rfl, ?_, fun z hzm => hwz z (List.mem_of_mem_take hzm)⟩, ?_⟩
      · intro i hi
        rw [htl] at hi
        have e : (zs.take len1).getD i 0 = zs.getD i 0 := by
          simp only [List.getD, List.getElem?_take, if_pos hi]
        rw [e]
        exact hcell i (by omega)
      · rw [htl]; omega
  subst hlen1
  clear hA0 hval0
  refine (walk f0_0 e0_0 f0_1 e0_1 f0_2 e0_2 f0_3 e0_3 a1 c1 zs1 W g1 y1).mono fun e W' ⟨he, bel⟩ => ?_
  subst he
  exact ⟨_, rfl, _, _, _, [], _, [], hW', trodAll_mk1 (shut_bool Try.underlying4 _), (trodAll_cons_mk (Below.trod laidOut (by kernel_rfl) (of_decide_eq_true (by kernel_rfl)) k0 bel lt0) (trodAll_cons_mk (Below.trod laidOut (by kernel_rfl) (of_decide_eq_true (by kernel_rfl)) k1 bel lt1) trodAll_mk0)), rfl, bel.frame _, fun h => by cases h⟩

theorem over : Rows.etherWritesRow.holds Try.pinned (OpenSpec.ofChange Rows.etherWritesSpec) :=
  OpenClaim.holds_of_wide 3 Try.f3 rfl rfl rfl rfl rfl rfl rfl ⟨rfl, rfl, rfl, rfl, rfl⟩ rfl rfl rfl rfl rfl (by kernel_rfl) Try.func3 (by kernel_rfl)
    (of_decide_eq_true (by kernel_rfl)) (by unfold Func.isWrapper; first | (rw [if_pos (by decide +kernel)]; kernel_rfl) | (rw [if_neg (by decide +kernel)]; exact ⟨rfl, rfl⟩))
    (fun os started H enc _ => lifted os started H enc)

end Go.Proofs.Ytbppijgceacepaa.etherWrites
namespace Go.Proofs.Ytbppijgceacepaa
theorem etherWrites_holds : Rows.EtherWritesSaid := etherWrites.over
end Go.Proofs.Ytbppijgceacepaa
