/- How a segment that came in is opened: its parts, its options, and a row of ranges. Conditions: none of our own. -/
import Derived.Test.YtecoknenkjgmjabDoorSa
import Derived.Test.YtecoknenkjgmjabDoorFr
namespace Go.Proofs.YtecoknenkjgmjabDoor
open Go.ChangeShapes Go.WideShapes Go.ChangeAt Go.RowKit
open Go.ChangeMaps (open_string)
set_option maxRecDepth 100000
set_option linter.unusedVariables false

theorem cells28 : Tryd.prog.cellsOf 28 = 16 := by kernel_rfl
theorem cells3 : Tryd.prog.cellsOf 3 = 1 := by kernel_rfl
theorem cells4 : Tryd.prog.cellsOf 4 = 1 := by kernel_rfl
theorem cells9 : Tryd.prog.cellsOf 9 = 1 := by kernel_rfl
theorem cells24 : Tryd.prog.cellsOf 24 = 1 := by kernel_rfl
theorem open28 {H : Type} {enc : TypeId × Value → H} {w : World} {base : Nat} {spare : Nat → Bool} {held : Bool} {r : Reach} {b0 : Nat} {v : Value} {d : DataW H} {p : List MemPlace} (hv : Value.okWide Tryd.prog w r b0 28 v) (h : DataW.Trod enc Tryd.prog w base spare held 28 v d p) :
    ∃ (s : Sg) (u : Value) (parts oparts : List (DataW H)), v = .agg #[.int .i64 s.fr, .int .i64 s.dt, .int .i64 s.sq, .int .i64 s.ak, .int .i64 s.fl, .int .i64 s.wi, .int .i64 s.ur, .int .i64 s.o.m, .int .i64 s.o.c, .int .i64 s.o.t, .int .i64 s.o.ec, .bool s.o.sd, .bool s.o.ok, .bool s.o.sp, u, .string s.da] ∧ d = .agg parts ∧ parts[7]? = some (.agg oparts) ∧ parts[8]? = some (.lit (.string s.da.data.toList)) ∧ Rgs w u s.o.rs ∧ (s.o.rs = [] ∨ ∃ elems sp, oparts[7]? = some (.slice elems sp) ∧ elems.length = s.o.rs.length) := by
  obtain ⟨⟨l⟩, rfl, hsz⟩ := okWide_struct Tryd.underlying28 hv
  obtain ⟨fuel, hf⟩ := h
  obtain ⟨xs, n, _, hx, hl, hlen, hfs⟩ := DataW.trod_struct Tryd.underlying28 hf
  have hd : d = .agg (xs.map (·.1)) := congrArg Prod.fst hx
  have hz' : l.length = 16 := by rw [cells28] at hsz; simpa using hsz
  have hlen' : xs.length = 9 := hlen
  match l, hz' with
  | [c0, c1, c2, c3, c4, c5, c6, c7, c8, c9, c10, c11, c12, c13, c14, c15], _ =>
    have t0 : DataW.trod enc Tryd.prog w base spare held n 3 ((([c0, c1, c2, c3, c4, c5, c6, c7, c8, c9, c10, c11, c12, c13, c14, c15] : List Value).drop 0).take (Tryd.prog.cellsOf 3)) = xs[0]? := hfs 0 _ rfl
    rw [cells3, List.getElem?_eq_getElem (by omega)] at t0
    have t0' : DataW.trod enc Tryd.prog w base spare held n 3 [c0] = some xs[0] := t0
    obtain ⟨f0, q0, -, -⟩ := DataW.trod_int Tryd.underlying3 t0'
    have e0 : c0 = .int .i64 f0 := by simpa using q0
    subst e0
    have t1 : DataW.trod enc Tryd.prog w base spare held n 3 ((([.int .i64 f0, c1, c2, c3, c4, c5, c6, c7, c8, c9, c10, c11, c12, c13, c14, c15] : List Value).drop 1).take (Tryd.prog.cellsOf 3)) = xs[1]? := hfs 1 _ rfl
    rw [cells3, List.getElem?_eq_getElem (by omega)] at t1
    have t1' : DataW.trod enc Tryd.prog w base spare held n 3 [c1] = some xs[1] := t1
    obtain ⟨f1, q1, -, -⟩ := DataW.trod_int Tryd.underlying3 t1'
    have e1 : c1 = .int .i64 f1 := by simpa using q1
    subst e1
    have t2 : DataW.trod enc Tryd.prog w base spare held n 3 ((([.int .i64 f0, .int .i64 f1, c2, c3, c4, c5, c6, c7, c8, c9, c10, c11, c12, c13, c14, c15] : List Value).drop 2).take (Tryd.prog.cellsOf 3)) = xs[2]? := hfs 2 _ rfl
    rw [cells3, List.getElem?_eq_getElem (by omega)] at t2
    have t2' : DataW.trod enc Tryd.prog w base spare held n 3 [c2] = some xs[2] := t2
    obtain ⟨f2, q2, -, -⟩ := DataW.trod_int Tryd.underlying3 t2'
    have e2 : c2 = .int .i64 f2 := by simpa using q2
    subst e2
    have t3 : DataW.trod enc Tryd.prog w base spare held n 3 ((([.int .i64 f0, .int .i64 f1, .int .i64 f2, c3, c4, c5, c6, c7, c8, c9, c10, c11, c12, c13, c14, c15] : List Value).drop 3).take (Tryd.prog.cellsOf 3)) = xs[3]? := hfs 3 _ rfl
    rw [cells3, List.getElem?_eq_getElem (by omega)] at t3
    have t3' : DataW.trod enc Tryd.prog w base spare held n 3 [c3] = some xs[3] := t3
    obtain ⟨f3, q3, -, -⟩ := DataW.trod_int Tryd.underlying3 t3'
    have e3 : c3 = .int .i64 f3 := by simpa using q3
    subst e3
    have t4 : DataW.trod enc Tryd.prog w base spare held n 3 ((([.int .i64 f0, .int .i64 f1, .int .i64 f2, .int .i64 f3, c4, c5, c6, c7, c8, c9, c10, c11, c12, c13, c14, c15] : List Value).drop 4).take (Tryd.prog.cellsOf 3)) = xs[4]? := hfs 4 _ rfl
    rw [cells3, List.getElem?_eq_getElem (by omega)] at t4
    have t4' : DataW.trod enc Tryd.prog w base spare held n 3 [c4] = some xs[4] := t4
    obtain ⟨f4, q4, -, -⟩ := DataW.trod_int Tryd.underlying3 t4'
    have e4 : c4 = .int .i64 f4 := by simpa using q4
    subst e4
    have t5 : DataW.trod enc Tryd.prog w base spare held n 3 ((([.int .i64 f0, .int .i64 f1, .int .i64 f2, .int .i64 f3, .int .i64 f4, c5, c6, c7, c8, c9, c10, c11, c12, c13, c14, c15] : List Value).drop 5).take (Tryd.prog.cellsOf 3)) = xs[5]? := hfs 5 _ rfl
    rw [cells3, List.getElem?_eq_getElem (by omega)] at t5
    have t5' : DataW.trod enc Tryd.prog w base spare held n 3 [c5] = some xs[5] := t5
    obtain ⟨f5, q5, -, -⟩ := DataW.trod_int Tryd.underlying3 t5'
    have e5 : c5 = .int .i64 f5 := by simpa using q5
    subst e5
    have t6 : DataW.trod enc Tryd.prog w base spare held n 3 ((([.int .i64 f0, .int .i64 f1, .int .i64 f2, .int .i64 f3, .int .i64 f4, .int .i64 f5, c6, c7, c8, c9, c10, c11, c12, c13, c14, c15] : List Value).drop 6).take (Tryd.prog.cellsOf 3)) = xs[6]? := hfs 6 _ rfl
    rw [cells3, List.getElem?_eq_getElem (by omega)] at t6
    have t6' : DataW.trod enc Tryd.prog w base spare held n 3 [c6] = some xs[6] := t6
    obtain ⟨f6, q6, -, -⟩ := DataW.trod_int Tryd.underlying3 t6'
    have e6 : c6 = .int .i64 f6 := by simpa using q6
    subst e6
    have t7 : DataW.trod enc Tryd.prog w base spare held n 26 ((([.int .i64 f0, .int .i64 f1, .int .i64 f2, .int .i64 f3, .int .i64 f4, .int .i64 f5, .int .i64 f6, c7, c8, c9, c10, c11, c12, c13, c14, c15] : List Value).drop 7).take (Tryd.prog.cellsOf 26)) = xs[7]? := hfs 7 _ rfl
    rw [cells26, List.getElem?_eq_getElem (by omega)] at t7
    have t7' : DataW.trod enc Tryd.prog w base spare held n 26 [c7, c8, c9, c10, c11, c12, c13, c14] = some xs[7] := t7
    obtain ⟨ys, n2, _, hy, _, hlen2, hfs2⟩ := DataW.trod_struct Tryd.underlying26 t7'
    have hlen2' : ys.length = 8 := hlen2
    have hd7 : xs[7].1 = .agg (ys.map (·.1)) := congrArg Prod.fst hy
    have s0 : DataW.trod enc Tryd.prog w base spare held n2 3 ((([c7, c8, c9, c10, c11, c12, c13, c14] : List Value).drop 0).take (Tryd.prog.cellsOf 3)) = ys[0]? := hfs2 0 _ rfl
    rw [cells3, List.getElem?_eq_getElem (by omega)] at s0
    have s0' : DataW.trod enc Tryd.prog w base spare held n2 3 [c7] = some ys[0] := s0
    obtain ⟨g0, p0, -, -⟩ := DataW.trod_int Tryd.underlying3 s0'
    have h0 : c7 = .int .i64 g0 := by simpa using p0
    subst h0
    have s1 : DataW.trod enc Tryd.prog w base spare held n2 3 ((([.int .i64 g0, c8, c9, c10, c11, c12, c13, c14] : List Value).drop 1).take (Tryd.prog.cellsOf 3)) = ys[1]? := hfs2 1 _ rfl
    rw [cells3, List.getElem?_eq_getElem (by omega)] at s1
    have s1' : DataW.trod enc Tryd.prog w base spare held n2 3 [c8] = some ys[1] := s1
    obtain ⟨g1, p1, -, -⟩ := DataW.trod_int Tryd.underlying3 s1'
    have h1 : c8 = .int .i64 g1 := by simpa using p1
    subst h1
    have s2 : DataW.trod enc Tryd.prog w base spare held n2 3 ((([.int .i64 g0, .int .i64 g1, c9, c10, c11, c12, c13, c14] : List Value).drop 2).take (Tryd.prog.cellsOf 3)) = ys[2]? := hfs2 2 _ rfl
    rw [cells3, List.getElem?_eq_getElem (by omega)] at s2
    have s2' : DataW.trod enc Tryd.prog w base spare held n2 3 [c9] = some ys[2] := s2
    obtain ⟨g2, p2, -, -⟩ := DataW.trod_int Tryd.underlying3 s2'
    have h2 : c9 = .int .i64 g2 := by simpa using p2
    subst h2
    have s3 : DataW.trod enc Tryd.prog w base spare held n2 3 ((([.int .i64 g0, .int .i64 g1, .int .i64 g2, c10, c11, c12, c13, c14] : List Value).drop 3).take (Tryd.prog.cellsOf 3)) = ys[3]? := hfs2 3 _ rfl
    rw [cells3, List.getElem?_eq_getElem (by omega)] at s3
    have s3' : DataW.trod enc Tryd.prog w base spare held n2 3 [c10] = some ys[3] := s3
    obtain ⟨g3, p3, -, -⟩ := DataW.trod_int Tryd.underlying3 s3'
    have h3 : c10 = .int .i64 g3 := by simpa using p3
    subst h3
    have s4 : DataW.trod enc Tryd.prog w base spare held n2 4 ((([.int .i64 g0, .int .i64 g1, .int .i64 g2, .int .i64 g3, c11, c12, c13, c14] : List Value).drop 4).take (Tryd.prog.cellsOf 4)) = ys[4]? := hfs2 4 _ rfl
    rw [cells4, List.getElem?_eq_getElem (by omega)] at s4
    have s4' : DataW.trod enc Tryd.prog w base spare held n2 4 [c11] = some ys[4] := s4
    obtain ⟨g4, p4, -⟩ := DataW.trod_bool Tryd.underlying4 s4'
    have h4 : c11 = .bool g4 := by simpa using p4
    subst h4
    have s5 : DataW.trod enc Tryd.prog w base spare held n2 4 ((([.int .i64 g0, .int .i64 g1, .int .i64 g2, .int .i64 g3, .bool g4, c12, c13, c14] : List Value).drop 5).take (Tryd.prog.cellsOf 4)) = ys[5]? := hfs2 5 _ rfl
    rw [cells4, List.getElem?_eq_getElem (by omega)] at s5
    have s5' : DataW.trod enc Tryd.prog w base spare held n2 4 [c12] = some ys[5] := s5
    obtain ⟨g5, p5, -⟩ := DataW.trod_bool Tryd.underlying4 s5'
    have h5 : c12 = .bool g5 := by simpa using p5
    subst h5
    have s6 : DataW.trod enc Tryd.prog w base spare held n2 4 ((([.int .i64 g0, .int .i64 g1, .int .i64 g2, .int .i64 g3, .bool g4, .bool g5, c13, c14] : List Value).drop 6).take (Tryd.prog.cellsOf 4)) = ys[6]? := hfs2 6 _ rfl
    rw [cells4, List.getElem?_eq_getElem (by omega)] at s6
    have s6' : DataW.trod enc Tryd.prog w base spare held n2 4 [c13] = some ys[6] := s6
    obtain ⟨g6, p6, -⟩ := DataW.trod_bool Tryd.underlying4 s6'
    have h6 : c13 = .bool g6 := by simpa using p6
    subst h6
    have s7 : DataW.trod enc Tryd.prog w base spare held n2 24 ((([.int .i64 g0, .int .i64 g1, .int .i64 g2, .int .i64 g3, .bool g4, .bool g5, .bool g6, c14] : List Value).drop 7).take (Tryd.prog.cellsOf 24)) = ys[7]? := hfs2 7 _ rfl
    rw [cells24, List.getElem?_eq_getElem (by omega)] at s7
    have s7' : DataW.trod enc Tryd.prog w base spare held n2 24 [c14] = some ys[7] := s7
    obtain ⟨rs, hr, hw⟩ := rgs_of s7'
    have t8 : DataW.trod enc Tryd.prog w base spare held n 9 ((([.int .i64 f0, .int .i64 f1, .int .i64 f2, .int .i64 f3, .int .i64 f4, .int .i64 f5, .int .i64 f6, .int .i64 g0, .int .i64 g1, .int .i64 g2, .int .i64 g3, .bool g4, .bool g5, .bool g6, c14, c15] : List Value).drop 15).take (Tryd.prog.cellsOf 9)) = xs[8]? := hfs 8 _ rfl
    rw [cells9, List.getElem?_eq_getElem (by omega)] at t8
    have t8' : DataW.trod enc Tryd.prog w base spare held n 9 [c15] = some xs[8] := t8
    obtain ⟨da, q15, hx8, -⟩ := DataW.trod_string Tryd.underlying9 t8'
    have e15 : c15 = .string da := by simpa using q15
    subst e15
    refine ⟨⟨f0, f1, f2, f3, f4, f5, f6, ⟨g0, g1, g2, g3, g4, g5, g6, rs⟩, da⟩, c14, xs.map (·.1), ys.map (·.1), rfl, hd, ?_, ?_, hr, ?_⟩
    · rw [List.getElem?_map, List.getElem?_eq_getElem (by omega), Option.map_some, hd7]
    · rw [List.getElem?_map, List.getElem?_eq_getElem (by omega), Option.map_some, hx8]
    · rcases hw with h | ⟨elems, sp, h1, h2⟩
      · exact .inl h
      · exact .inr ⟨elems, sp, by rw [List.getElem?_map, List.getElem?_eq_getElem (by omega), Option.map_some, h1], h2⟩
theorem sized_28 {H : Type} {ts : List TypeId} {ds : List (DataW H)} (h : (DataW.weightsEach Tryd.prog ts ds).all (· ≤ reachBytes) = true) {j : Nat} {parts oparts : List (DataW H)} {rs : List (Int × Int)} {da : ByteArray} (ht : ts[j]? = some 28) (hd : ds[j]? = some (.agg parts)) (h7 : parts[7]? = some (.agg oparts)) (h8 : parts[8]? = some (.lit (.string da.data.toList))) (hw : rs = [] ∨ ∃ elems sp, oparts[7]? = some (.slice elems sp) ∧ elems.length = rs.length) : rs.length * 16 ≤ 140737488351232 ∧ da.size ≤ 140737488351232 := by
  constructor
  · rcases hw with rfl | ⟨elems, sp, h1, h2⟩
    · simp
    · have := List.all_eq_true.1 h _ (DataW.weights_mem_each ht hd ((elems.length + sp.length) * Tryd.prog.bytesOf 77) (by simp only [DataW.weights, Tryd.underlying28]; exact DataW.weights_mem_each (j := 7) rfl h7 _ (by simp only [DataW.weights, Tryd.underlying26]; exact DataW.weights_mem_each (j := 7) rfl h1 _ (by simp [DataW.weights, Tryd.underlying24]))))
      rw [bytes77] at this
      have := of_decide_eq_true this
      simp only [reachBytes] at this
      omega
  · have := List.all_eq_true.1 h _ (DataW.weights_mem_each ht hd da.data.toList.length (by simp only [DataW.weights, Tryd.underlying28]; exact DataW.weights_mem_each (j := 8) rfl h8 _ (by simp [DataW.weights])))
    have := of_decide_eq_true this
    simp only [reachBytes, Array.length_toList] at this
    exact this
end Go.Proofs.YtecoknenkjgmjabDoor
