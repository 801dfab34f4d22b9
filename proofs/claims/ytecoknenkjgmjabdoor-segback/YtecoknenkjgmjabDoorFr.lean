/- How options that came in are opened: their parts, and a row of ranges; the order of the kinds as the program's text lays it. Conditions: none of our own. -/
import Derived.Test.YtecoknenkjgmjabDoorRows
import Derived.Test.YtecoknenkjgmjabDoorOa
import Derived.WalkKit
import Derived.ProofKit
import Derived.OpenShut
import Derived.ShutString
import Derived.ChangeOld
import Derived.Below
import Derived.Carry
import Derived.SizedLaws
import Derived.Deep.Fields
import Derived.Deep.SlicePairs
import Derived.LaidMore
import Derived.Lib.LaidTab
namespace Go.Proofs.YtecoknenkjgmjabDoor
open Go.ChangeShapes Go.WideShapes Go.ChangeAt Go.RowKit
set_option maxRecDepth 100000
open Go.ChangeMaps (open_string)

theorem ownK : ownKnob Tryd.prog.godebug = none := by kernel_rfl
theorem laidOutK : laidOutB Tryd.prog = true := by kernel_rfl
theorem gOrder : Tryd.prog.globalNamed "sternpost/opts.order" = some 0 := by kernel_rfl
theorem tOrder : (Tryd.prog.globals[0]?).map (·.type) = some 95 := by kernel_rfl
def laidL : List (String × DataW Unit) := [("sternpost/opts.order", Rows.laid_sternpost_opts_order)]
theorem door_met (os : Os) (args : Array Value) : laidMetH Tryd.prog laidL ((World.doorLaid Tryd.prog 400 os).forCall (fun _ _ => 0) ⟨#[], args, []⟩).memory :=
  laidMetH_of_parts3 (fuel := 8) (laidMet_of_run' 8 (by kernel_rfl) (by kernel_rfl)) (by kernel_rfl) (by kernel_rfl)
theorem ord_of {W : World} (h : laidMetH Tryd.prog laidL W) : Ord W := by
  rw [MakeChecks.laidMetH_plain _ _ _ (by kernel_rfl)] at h
  have hT : Lib.TabIs Tryd.prog W "sternpost/opts.order" .i64 [2, 3, 4, 8, 5] := Lib.tabIs_of_head gOrder tOrder Tryd.underlying95 Tryd.underlying3 (by kernel_rfl) (by kernel_rfl) h
  exact ⟨hT.cell gOrder 0 (by decide), hT.cell gOrder 1 (by decide), hT.cell gOrder 2 (by decide), hT.cell gOrder 3 (by decide), hT.cell gOrder 4 (by decide)⟩
theorem open_fields {H : Type} {enc : TypeId × Value → H} {P : Program} {w : World} {base : Nat} {spare : Nat → Bool} {held : Bool} {r : Reach} {b0 : Nat} {t : TypeId} {fs : Array Field} {v : Value} {d : DataW H} {p : List MemPlace} (hs : P.underlying t = some (.struct fs)) (hone : Go.Deep.oneCellFields P fs = true) (hC : P.cellsOf t = fs.size)
    (hv : Value.okWide P w r b0 t v) (h : DataW.Trod enc P w base spare held t v d p) :
    ∃ (cs : Array Value) (parts : List (DataW H)), v = .agg cs ∧ d = .agg parts ∧ cs.size = fs.size ∧ ∀ (i : Nat) (f : Field), fs[i]? = some f → ∃ n x, DataW.trod enc P w base spare held n f.type ((cs.toList.drop i).take 1) = some x ∧ parts[i]? = some x.1 := by
  obtain ⟨cs, rfl, hsz⟩ := okWide_struct hs hv
  obtain ⟨fuel, hf⟩ := h
  obtain ⟨xs, n, _, hx, hl, hlen, hfs⟩ := DataW.trod_struct hs hf
  have hd : d = .agg (xs.map (·.1)) := congrArg Prod.fst hx
  refine ⟨cs, xs.map (·.1), rfl, hd, hsz.trans hC, fun i f hi => ?_⟩
  obtain ⟨o1, k1⟩ := Go.Deep.hone_of hone i f hi
  have := hfs i f hi
  have hlt : i < xs.length := by rw [hlen]; exact (Array.getElem?_eq_some_iff.1 hi).1
  rw [o1, k1, List.getElem?_eq_getElem hlt] at this
  exact ⟨n, _, by simpa [Value.cells] using this, by simp [List.getElem?_eq_getElem hlt]⟩
theorem sized_row {H : Type} {P : Program} {ts : List TypeId} {ds : List (DataW H)} (h : (DataW.weightsEach P ts ds).all (· ≤ reachBytes) = true) {j i : Nat} {t ft e : TypeId} {fs : Array Field} {parts elems sp : List (DataW H)} (ht : ts[j]? = some t) (hd : ds[j]? = some (.agg parts)) (hu : P.underlying t = some (.struct fs)) (hf : (fs.toList.map (·.type))[i]? = some ft) (hp : parts[i]? = some (.slice elems sp)) (hs : P.underlying ft = some (.slice e)) : (elems.length + sp.length) * P.bytesOf e ≤ reachBytes := by
  have := List.all_eq_true.1 h _ (DataW.weights_mem_each ht hd ((elems.length + sp.length) * P.bytesOf e) (by simp only [DataW.weights, hu]; exact DataW.weights_mem_each hf hp _ (by simp [DataW.weights, hs])))
  simpa using this
theorem cells26 : Tryd.prog.cellsOf 26 = 8 := by kernel_rfl
theorem bytes77 : Tryd.prog.bytesOf 77 = 16 := by kernel_rfl
theorem rgs_of {H : Type} {enc : TypeId × Value → H} {w : World} {base : Nat} {spare : Nat → Bool} {held : Bool} {n : Nat} {c : Value} {x : DataW H × List MemPlace} (h : DataW.trod enc Tryd.prog w base spare held n 24 [c] = some x) :
    ∃ rs : List (Int × Int), Rgs w c rs ∧ (rs = [] ∨ ∃ elems sp, x.1 = .slice elems sp ∧ elems.length = rs.length) := by
  rcases Go.Deep.open_slice_pairs Tryd.underlying24 Tryd.underlying77 (by kernel_rfl) rfl rfl (by kernel_rfl) (by kernel_rfl) h with ⟨hc, -⟩ | ⟨a, len, cap, mm, nn, V0, V1, D0, D1, P0, P1, hc, -, hl, -, hm, hx, hcell⟩
  · obtain rfl : c = .slice none 0 0 := by simpa using hc
    exact ⟨[], Rgs.nil w, .inl rfl⟩
  · obtain rfl : c = .slice (some a) len cap := by simpa using hc
    have hlm : len ≤ mm := by rw [hm]; split <;> omega
    have each : ∀ i, i < len → ∃ r : Int × Int, V0 i = .int .i64 r.1 ∧ V1 i = .int .i64 r.2 := by
      intro i hi
      obtain ⟨-, -, t0, t1⟩ := hcell i (by omega)
      obtain ⟨k0, e0, -, -⟩ := DataW.trod_int Tryd.underlying3 t0
      obtain ⟨k1, e1, -, -⟩ := DataW.trod_int Tryd.underlying3 t1
      exact ⟨(k0, k1), by simpa using e0, by simpa using e1⟩
    obtain ⟨f, hf⟩ := Go.Deep.choose_lt each
    have hlen : ((List.range len).map f).length = len := by simp
    refine ⟨(List.range len).map f, ⟨some a, cap, by rw [hlen], ⟨by omega, fun h => by cases h⟩, ?_⟩, .inr ⟨_, _, by rw [hx], by simp⟩⟩
    by_cases h0 : len = 0
    · left; subst h0; rfl
    · right
      obtain ⟨b, off, spot⟩ := a
      have hs : spot = none := by
        have := (hcell 0 (by omega)).1
        rw [Nat.zero_mul] at this
        have e : (⟨b, off, spot⟩ : Addr).add 0 = ⟨b, off, spot⟩ := by simp [Addr.add]
        rw [e] at this
        unfold World.cell? at this
        cases spot with
        | none => rfl
        | some s =>
          exfalso
          revert this
          simp only
          split <;> simp
      subst hs
      refine ⟨b, off, rfl, fun j r hr => ?_⟩
      obtain ⟨hj, e⟩ := List.getElem?_eq_some_iff.1 hr
      rw [hlen] at hj
      have e' : f j = r := by simpa using e
      obtain ⟨c0, c1, -, -⟩ := hcell j (by omega)
      rw [(hf j hj).1, e'] at c0
      rw [(hf j hj).2, e'] at c1
      rw [Addr.add_lit] at c0 c1
      exact ⟨c0, by rw [Nat.add_assoc]; exact c1⟩
theorem open26 {H : Type} {enc : TypeId × Value → H} {w : World} {base : Nat} {spare : Nat → Bool} {held : Bool} {r : Reach} {b0 : Nat} {v : Value} {d : DataW H} {p : List MemPlace} (hv : Value.okWide Tryd.prog w r b0 26 v) (h : DataW.Trod enc Tryd.prog w base spare held 26 v d p) :
    ∃ (m c t ec : Int) (sd ok sp : Bool) (u : Value) (rs : List (Int × Int)) (parts : List (DataW H)), v = .agg #[.int .i64 m, .int .i64 c, .int .i64 t, .int .i64 ec, .bool sd, .bool ok, .bool sp, u] ∧ d = .agg parts ∧ Rgs w u rs ∧ (rs = [] ∨ ∃ elems sp, parts[7]? = some (.slice elems sp) ∧ elems.length = rs.length) := by
  obtain ⟨⟨l⟩, parts, rfl, hdp, hz, hf⟩ := open_fields Tryd.underlying26 (by kernel_rfl) cells26 hv h
  have hz' : l.length = 8 := by simpa using hz
  match l, hz' with
  | [c0, c1, c2, c3, c4, c5, c6, c7], _ =>
    obtain ⟨n0, x0, t0, -⟩ := hf 0 _ rfl
    obtain ⟨f0, q0, -, -⟩ := DataW.trod_int Tryd.underlying3 t0
    obtain ⟨n1, x1, t1, -⟩ := hf 1 _ rfl
    obtain ⟨f1, q1, -, -⟩ := DataW.trod_int Tryd.underlying3 t1
    obtain ⟨n2, x2, t2, -⟩ := hf 2 _ rfl
    obtain ⟨f2, q2, -, -⟩ := DataW.trod_int Tryd.underlying3 t2
    obtain ⟨n3, x3, t3, -⟩ := hf 3 _ rfl
    obtain ⟨f3, q3, -, -⟩ := DataW.trod_int Tryd.underlying3 t3
    obtain ⟨n4, x4, t4, -⟩ := hf 4 _ rfl
    obtain ⟨f4, q4, -⟩ := DataW.trod_bool Tryd.underlying4 t4
    obtain ⟨n5, x5, t5, -⟩ := hf 5 _ rfl
    obtain ⟨f5, q5, -⟩ := DataW.trod_bool Tryd.underlying4 t5
    obtain ⟨n6, x6, t6, -⟩ := hf 6 _ rfl
    obtain ⟨f6, q6, -⟩ := DataW.trod_bool Tryd.underlying4 t6
    obtain ⟨n7, x7, t7, m7⟩ := hf 7 _ rfl
    obtain ⟨rs, hr, hw⟩ := rgs_of (show DataW.trod enc Tryd.prog w base spare held n7 24 [c7] = some x7 from t7)
    have p0 : c0 = .int .i64 f0 := by simpa using q0
    have p1 : c1 = .int .i64 f1 := by simpa using q1
    have p2 : c2 = .int .i64 f2 := by simpa using q2
    have p3 : c3 = .int .i64 f3 := by simpa using q3
    have p4 : c4 = .bool f4 := by simpa using q4
    have p5 : c5 = .bool f5 := by simpa using q5
    have p6 : c6 = .bool f6 := by simpa using q6
    subst p0 p1 p2 p3 p4 p5 p6
    refine ⟨f0, f1, f2, f3, f4, f5, f6, c7, rs, parts, rfl, hdp, hr, ?_⟩
    rcases hw with h | ⟨elems, sp, h1, h2⟩
    · exact .inl h
    · exact .inr ⟨elems, sp, by rw [m7, h1], h2⟩
theorem sized_26 {H : Type} {ts : List TypeId} {ds : List (DataW H)} (h : (DataW.weightsEach Tryd.prog ts ds).all (· ≤ reachBytes) = true) {j : Nat} {parts : List (DataW H)} {rs : List (Int × Int)} (ht : ts[j]? = some 26) (hd : ds[j]? = some (.agg parts)) (hw : rs = [] ∨ ∃ elems sp, parts[7]? = some (.slice elems sp) ∧ elems.length = rs.length) : rs.length * 16 ≤ 140737488351232 := by
  rcases hw with rfl | ⟨elems, sp, h1, h2⟩
  · simp
  · have := sized_row h ht hd Tryd.underlying26 (i := 7) rfl h1 Tryd.underlying24
    rw [bytes77] at this
    simp only [reachBytes] at this
    omega
end Go.Proofs.YtecoknenkjgmjabDoor
