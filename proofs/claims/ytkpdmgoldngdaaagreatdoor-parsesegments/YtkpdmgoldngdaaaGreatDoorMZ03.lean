/- the texts Fr, Fs, Vq, Vr, in part, merged by program -/
import Derived.Test.YtkpdmgoldngdaaaGreatDoorProg
import Derived.Test.YtkpdmgoldngdaaaGreatDoorRows
import Derived.WalkKit
import Derived.ProofKit
import Derived.OpenShut
import Derived.ShutString
import Derived.ChangeOld
import Derived.Below
import Derived.Carry
import Derived.SizedLaws
import Derived.Deep.Fields
import Derived.Deep.SlicePairs
import Derived.LaidMore
import Derived.Lib.LaidTab
import Derived.LaidLaws
import Derived.LaidHandle
import Derived.WalkSpells
import Derived.Laws.OwnMore
import Derived.Laws.AppendOwn
import Derived.Laws.AppendOwnNone
import Derived.RegionTactic
import Derived.Deep.LoopGhost
import Derived.Deep.RegionHeld3
import Derived.Deep.QuietTactic
import Derived.BigQuiet
import Derived.WalkSmall
import Derived.Laws.StructEq
import Derived.Shelf.Strings.Repeat
import Derived.Deep.MidRow
import Derived.Deep.RegionWith
import Derived.LoopN
import Derived.Laws.Tables
import Derived.Great.BuildSlice
import Derived.BigRegion
import Derived.Deep.Light
import Derived.Deep.Cut
import Derived.Deep.CutRange
import Derived.Test.YtkpdmgoldngdaaaGreatDoorMA01
import Derived.Test.YtkpdmgoldngdaaaGreatDoorMA02
import Derived.Test.YtkpdmgoldngdaaaGreatDoorMA03
import Derived.Test.YtkpdmgoldngdaaaGreatDoorMA04
import Derived.Test.YtkpdmgoldngdaaaGreatDoorMA05
import Derived.Test.YtkpdmgoldngdaaaGreatDoorMA06
import Derived.Test.YtkpdmgoldngdaaaGreatDoorMA07
import Derived.Test.YtkpdmgoldngdaaaGreatDoorMB01
import Derived.Test.YtkpdmgoldngdaaaGreatDoorMB02
import Derived.Test.YtkpdmgoldngdaaaGreatDoorMC01
import Derived.Test.YtkpdmgoldngdaaaGreatDoorMD01
import Derived.Test.YtkpdmgoldngdaaaGreatDoorMD02
import Derived.Test.YtkpdmgoldngdaaaGreatDoorMD03
import Derived.Test.YtkpdmgoldngdaaaGreatDoorMD04
import Derived.Test.YtkpdmgoldngdaaaGreatDoorMD05
import Derived.Test.YtkpdmgoldngdaaaGreatDoorME01
import Derived.Test.YtkpdmgoldngdaaaGreatDoorME02
import Derived.Test.YtkpdmgoldngdaaaGreatDoorMF01
import Derived.Test.YtkpdmgoldngdaaaGreatDoorMG01
import Derived.Test.YtkpdmgoldngdaaaGreatDoorMG02
import Derived.Test.YtkpdmgoldngdaaaGreatDoorMG03
import Derived.Test.YtkpdmgoldngdaaaGreatDoorMG04
import Derived.Test.YtkpdmgoldngdaaaGreatDoorMG05
import Derived.Test.YtkpdmgoldngdaaaGreatDoorMG06
import Derived.Test.YtkpdmgoldngdaaaGreatDoorMH01
import Derived.Test.YtkpdmgoldngdaaaGreatDoorMH02
import Derived.Test.YtkpdmgoldngdaaaGreatDoorMH03
import Derived.Test.YtkpdmgoldngdaaaGreatDoorMH04
import Derived.Test.YtkpdmgoldngdaaaGreatDoorMI01
import Derived.Test.YtkpdmgoldngdaaaGreatDoorMJ01
import Derived.Test.YtkpdmgoldngdaaaGreatDoorMK01
import Derived.Test.YtkpdmgoldngdaaaGreatDoorML01
import Derived.Test.YtkpdmgoldngdaaaGreatDoorMM01
import Derived.Test.YtkpdmgoldngdaaaGreatDoorMN01
import Derived.Test.YtkpdmgoldngdaaaGreatDoorMN02
import Derived.Test.YtkpdmgoldngdaaaGreatDoorMO01
import Derived.Test.YtkpdmgoldngdaaaGreatDoorMO02
import Derived.Test.YtkpdmgoldngdaaaGreatDoorMO03
import Derived.Test.YtkpdmgoldngdaaaGreatDoorMO04
import Derived.Test.YtkpdmgoldngdaaaGreatDoorMP01
import Derived.Test.YtkpdmgoldngdaaaGreatDoorMP02
import Derived.Test.YtkpdmgoldngdaaaGreatDoorMP04
import Derived.Test.YtkpdmgoldngdaaaGreatDoorMQ01
import Derived.Test.YtkpdmgoldngdaaaGreatDoorMQ02
import Derived.Test.YtkpdmgoldngdaaaGreatDoorMQ03
import Derived.Test.YtkpdmgoldngdaaaGreatDoorMR01
import Derived.Test.YtkpdmgoldngdaaaGreatDoorMS01
import Derived.Test.YtkpdmgoldngdaaaGreatDoorMS02
import Derived.Test.YtkpdmgoldngdaaaGreatDoorMT01
import Derived.Test.YtkpdmgoldngdaaaGreatDoorMU01
import Derived.Test.YtkpdmgoldngdaaaGreatDoorMV01
import Derived.Test.YtkpdmgoldngdaaaGreatDoorMW01
import Derived.Test.YtkpdmgoldngdaaaGreatDoorMX01
import Derived.Test.YtkpdmgoldngdaaaGreatDoorMX02
import Derived.Test.YtkpdmgoldngdaaaGreatDoorMY02
import Derived.Test.YtkpdmgoldngdaaaGreatDoorMZ01
import Derived.Test.YtkpdmgoldngdaaaGreatDoorMZ02
namespace Go.Proofs.YtkpdmgoldngdaaaGreatDoor
open Go.ChangeShapes Go.WideShapes Go.ChangeAt Go.RowKit
set_option maxRecDepth 100000
open Go.ChangeMaps (open_string)
theorem cells32 : Tryz.prog.cellsOf 32 = 8 := by kernel_rfl
theorem bytes148 : Tryz.prog.bytesOf 148 = 16 := by kernel_rfl
theorem rgs_of {H : Type} {enc : TypeId × Value → H} {w : World} {base : Nat} {spare : Nat → Bool} {held : Bool} {n : Nat} {c : Value} {x : DataW H × List MemPlace} (h : DataW.trod enc Tryz.prog w base spare held n 30 [c] = some x) :
    ∃ rs : List (Int × Int), Rgs w c rs ∧ (rs = [] ∨ ∃ elems sp, x.1 = .slice elems sp ∧ elems.length = rs.length) := by
  rcases Go.Deep.open_slice_pairs Tryz.underlying30 Tryz.underlying148 (by kernel_rfl) rfl rfl (by kernel_rfl) (by kernel_rfl) h with ⟨hc, -⟩ | ⟨a, len, cap, mm, nn, V0, V1, D0, D1, P0, P1, hc, -, hl, -, hm, hx, hcell⟩
  · obtain rfl : c = .slice none 0 0 := by simpa using hc
    exact ⟨[], Rgs.nil w, .inl rfl⟩
  · obtain rfl : c = .slice (some a) len cap := by simpa using hc
    have hlm : len ≤ mm := by rw [hm]; split <;> omega
    have each : ∀ i, i < len → ∃ r : Int × Int, V0 i = .int .i64 r.1 ∧ V1 i = .int .i64 r.2 := by
      intro i hi
      obtain ⟨-, -, t0, t1⟩ := hcell i (by omega)
      obtain ⟨k0, e0, -, -⟩ := DataW.trod_int Tryz.underlying3 t0
      obtain ⟨k1, e1, -, -⟩ := DataW.trod_int Tryz.underlying3 t1
      exact ⟨(k0, k1), by simpa using e0, by simpa using e1⟩
    obtain ⟨f, hf⟩ := Go.Deep.choose_lt each
    have hlen : ((List.range len).map f).length = len := by simp
    refine ⟨(List.range len).map f, ⟨some a, cap, by rw [hlen], ⟨by omega, fun h => by cases h⟩, ?_⟩, .inr ⟨_, _, by rw [hx], by simp⟩⟩
    by_cases h0 : len = 0
    · left; subst h0; rfl
    · right
      obtain ⟨b, off, spot⟩ := a
      have hs : spot = none := by
        have := (hcell 0 (by omega)).1
        rw [Nat.zero_mul] at this
        have e : (⟨b, off, spot⟩ : Addr).add 0 = ⟨b, off, spot⟩ := by simp [Addr.add]
        rw [e] at this
        unfold World.cell? at this
        cases spot with
        | none => rfl
        | some s =>
          exfalso
          revert this
          simp only
          split <;> simp
      subst hs
      refine ⟨b, off, rfl, fun j r hr => ?_⟩
      obtain ⟨hj, e⟩ := List.getElem?_eq_some_iff.1 hr
      rw [hlen] at hj
      have e' : f j = r := by simpa using e
      obtain ⟨c0, c1, -, -⟩ := hcell j (by omega)
      rw [(hf j hj).1, e'] at c0
      rw [(hf j hj).2, e'] at c1
      rw [Addr.add_lit] at c0 c1
      exact ⟨c0, by rw [Nat.add_assoc]; exact c1⟩
end Go.Proofs.YtkpdmgoldngdaaaGreatDoor

namespace Go.Proofs.YtkpdmgoldngdaaaGreatDoor
open Go.ChangeShapes Go.WideShapes Go.ChangeAt Go.RowKit
open Go.ChangeMaps (open_string)
set_option maxRecDepth 100000
set_option linter.unusedVariables false

theorem cells34 : Tryz.prog.cellsOf 34 = 16 := by kernel_rfl
theorem cells3 : Tryz.prog.cellsOf 3 = 1 := by kernel_rfl
theorem cells4 : Tryz.prog.cellsOf 4 = 1 := by kernel_rfl
theorem cells9 : Tryz.prog.cellsOf 9 = 1 := by kernel_rfl
theorem cells30 : Tryz.prog.cellsOf 30 = 1 := by kernel_rfl
theorem open34 {H : Type} {enc : TypeId × Value → H} {w : World} {base : Nat} {spare : Nat → Bool} {held : Bool} {r : Reach} {b0 : Nat} {v : Value} {d : DataW H} {p : List MemPlace} (hv : Value.okWide Tryz.prog w r b0 34 v) (h : DataW.Trod enc Tryz.prog w base spare held 34 v d p) :
    ∃ (s : Sg) (u : Value) (parts oparts : List (DataW H)), v = .agg #[.int .i64 s.fr, .int .i64 s.dt, .int .i64 s.sq, .int .i64 s.ak, .int .i64 s.fl, .int .i64 s.wi, .int .i64 s.ur, .int .i64 s.o.m, .int .i64 s.o.c, .int .i64 s.o.t, .int .i64 s.o.ec, .bool s.o.sd, .bool s.o.ok, .bool s.o.sp, u, .string s.da] ∧ d = .agg parts ∧ parts[7]? = some (.agg oparts) ∧ parts[8]? = some (.lit (.string s.da.data.toList)) ∧ Rgs w u s.o.rs ∧ (s.o.rs = [] ∨ ∃ elems sp, oparts[7]? = some (.slice elems sp) ∧ elems.length = s.o.rs.length) := by
  obtain ⟨⟨l⟩, rfl, hsz⟩ := okWide_struct Tryz.underlying34 hv
  obtain ⟨fuel, hf⟩ := h
  obtain ⟨xs, n, _, hx, hl, hlen, hfs⟩ := DataW.trod_struct Tryz.underlying34 hf
  have hd : d = .agg (xs.map (·.1)) := congrArg Prod.fst hx
  have hz' : l.length = 16 := by rw [cells34] at hsz; simpa using hsz
  have hlen' : xs.length = 9 := hlen
  match l, hz' with
  | [c0, c1, c2, c3, c4, c5, c6, c7, c8, c9, c10, c11, c12, c13, c14, c15], _ =>
    have t0 : DataW.trod enc Tryz.prog w base spare held n 3 ((([c0, c1, c2, c3, c4, c5, c6, c7, c8, c9, c10, c11, c12, c13, c14, c15] : List Value).drop 0).take (Tryz.prog.cellsOf 3)) = xs[0]? := hfs 0 _ rfl
    rw [cells3, List.getElem?_eq_getElem (by omega)] at t0
    have t0' : DataW.trod enc Tryz.prog w base spare held n 3 [c0] = some xs[0] := t0
    obtain ⟨f0, q0, -, -⟩ := DataW.trod_int Tryz.underlying3 t0'
    have e0 : c0 = .int .i64 f0 := by simpa using q0
    subst e0
    have t1 : DataW.trod enc Tryz.prog w base spare held n 3 ((([.int .i64 f0, c1, c2, c3, c4, c5, c6, c7, c8, c9, c10, c11, c12, c13, c14, c15] : List Value).drop 1).take (Tryz.prog.cellsOf 3)) = xs[1]? := hfs 1 _ rfl
    rw [cells3, List.getElem?_eq_getElem (by omega)] at t1
    have t1' : DataW.trod enc Tryz.prog w base spare held n 3 [c1] = some xs[1] := t1
    obtain ⟨f1, q1, -, -⟩ := DataW.trod_int Tryz.underlying3 t1'
    have e1 : c1 = .int .i64 f1 := by simpa using q1
    subst e1
    have t2 : DataW.trod enc Tryz.prog w base spare held n 3 ((([.int .i64 f0, .int .i64 f1, c2, c3, c4, c5, c6, c7, c8, c9, c10, c11, c12, c13, c14, c15] : List Value).drop 2).take (Tryz.prog.cellsOf 3)) = xs[2]? := hfs 2 _ rfl
    rw [cells3, List.getElem?_eq_getElem (by omega)] at t2
    have t2' : DataW.trod enc Tryz.prog w base spare held n 3 [c2] = some xs[2] := t2
    obtain ⟨f2, q2, -, -⟩ := DataW.trod_int Tryz.underlying3 t2'
    have e2 : c2 = .int .i64 f2 := by simpa using q2
    subst e2
    have t3 : DataW.trod enc Tryz.prog w base spare held n 3 ((([.int .i64 f0, .int .i64 f1, .int .i64 f2, c3, c4, c5, c6, c7, c8, c9, c10, c11, c12, c13, c14, c15] : List Value).drop 3).take (Tryz.prog.cellsOf 3)) = xs[3]? := hfs 3 _ rfl
    rw [cells3, List.getElem?_eq_getElem (by omega)] at t3
    have t3' : DataW.trod enc Tryz.prog w base spare held n 3 [c3] = some xs[3] := t3
    obtain ⟨f3, q3, -, -⟩ := DataW.trod_int Tryz.underlying3 t3'
    have e3 : c3 = .int .i64 f3 := by simpa using q3
    subst e3
    have t4 : DataW.trod enc Tryz.prog w base spare held n 3 ((([.int .i64 f0, .int .i64 f1, .int .i64 f2, .int .i64 f3, c4, c5, c6, c7, c8, c9, c10, c11, c12, c13, c14, c15] : List Value).drop 4).take (Tryz.prog.cellsOf 3)) = xs[4]? := hfs 4 _ rfl
    rw [cells3, List.getElem?_eq_getElem (by omega)] at t4
    have t4' : DataW.trod enc Tryz.prog w base spare held n 3 [c4] = some xs[4] := t4
    obtain ⟨f4, q4, -, -⟩ := DataW.trod_int Tryz.underlying3 t4'
    have e4 : c4 = .int .i64 f4 := by simpa using q4
    subst e4
    have t5 : DataW.trod enc Tryz.prog w base spare held n 3 ((([.int .i64 f0, .int .i64 f1, .int .i64 f2, .int .i64 f3, .int .i64 f4, c5, c6, c7, c8, c9, c10, c11, c12, c13, c14, c15] : List Value).drop 5).take (Tryz.prog.cellsOf 3)) = xs[5]? := hfs 5 _ rfl
    rw [cells3, List.getElem?_eq_getElem (by omega)] at t5
    have t5' : DataW.trod enc Tryz.prog w base spare held n 3 [c5] = some xs[5] := t5
    obtain ⟨f5, q5, -, -⟩ := DataW.trod_int Tryz.underlying3 t5'
    have e5 : c5 = .int .i64 f5 := by simpa using q5
    subst e5
    have t6 : DataW.trod enc Tryz.prog w base spare held n 3 ((([.int .i64 f0, .int .i64 f1, .int .i64 f2, .int .i64 f3, .int .i64 f4, .int .i64 f5, c6, c7, c8, c9, c10, c11, c12, c13, c14, c15] : List Value).drop 6).take (Tryz.prog.cellsOf 3)) = xs[6]? := hfs 6 _ rfl
    rw [cells3, List.getElem?_eq_getElem (by omega)] at t6
    have t6' : DataW.trod enc Tryz.prog w base spare held n 3 [c6] = some xs[6] := t6
    obtain ⟨f6, q6, -, -⟩ := DataW.trod_int Tryz.underlying3 t6'
    have e6 : c6 = .int .i64 f6 := by simpa using q6
    subst e6
    have t7 : DataW.trod enc Tryz.prog w base spare held n 32 ((([.int .i64 f0, .int .i64 f1, .int .i64 f2, .int .i64 f3, .int .i64 f4, .int .i64 f5, .int .i64 f6, c7, c8, c9, c10, c11, c12, c13, c14, c15] : List Value).drop 7).take (Tryz.prog.cellsOf 32)) = xs[7]? := hfs 7 _ rfl
    rw [cells32, List.getElem?_eq_getElem (by omega)] at t7
    have t7' : DataW.trod enc Tryz.prog w base spare held n 32 [c7, c8, c9, c10, c11, c12, c13, c14] = some xs[7] := t7
    obtain ⟨ys, n2, _, hy, _, hlen2, hfs2⟩ := DataW.trod_struct Tryz.underlying32 t7'
    have hlen2' : ys.length = 8 := hlen2
    have hd7 : xs[7].1 = .agg (ys.map (·.1)) := congrArg Prod.fst hy
    have s0 : DataW.trod enc Tryz.prog w base spare held n2 3 ((([c7, c8, c9, c10, c11, c12, c13, c14] : List Value).drop 0).take (Tryz.prog.cellsOf 3)) = ys[0]? := hfs2 0 _ rfl
    rw [cells3, List.getElem?_eq_getElem (by omega)] at s0
    have s0' : DataW.trod enc Tryz.prog w base spare held n2 3 [c7] = some ys[0] := s0
    obtain ⟨g0, p0, -, -⟩ := DataW.trod_int Tryz.underlying3 s0'
    have h0 : c7 = .int .i64 g0 := by simpa using p0
    subst h0
    have s1 : DataW.trod enc Tryz.prog w base spare held n2 3 ((([.int .i64 g0, c8, c9, c10, c11, c12, c13, c14] : List Value).drop 1).take (Tryz.prog.cellsOf 3)) = ys[1]? := hfs2 1 _ rfl
    rw [cells3, List.getElem?_eq_getElem (by omega)] at s1
    have s1' : DataW.trod enc Tryz.prog w base spare held n2 3 [c8] = some ys[1] := s1
    obtain ⟨g1, p1, -, -⟩ := DataW.trod_int Tryz.underlying3 s1'
    have h1 : c8 = .int .i64 g1 := by simpa using p1
    subst h1
    have s2 : DataW.trod enc Tryz.prog w base spare held n2 3 ((([.int .i64 g0, .int .i64 g1, c9, c10, c11, c12, c13, c14] : List Value).drop 2).take (Tryz.prog.cellsOf 3)) = ys[2]? := hfs2 2 _ rfl
    rw [cells3, List.getElem?_eq_getElem (by omega)] at s2
    have s2' : DataW.trod enc Tryz.prog w base spare held n2 3 [c9] = some ys[2] := s2
    obtain ⟨g2, p2, -, -⟩ := DataW.trod_int Tryz.underlying3 s2'
    have h2 : c9 = .int .i64 g2 := by simpa using p2
    subst h2
    have s3 : DataW.trod enc Tryz.prog w base spare held n2 3 ((([.int .i64 g0, .int .i64 g1, .int .i64 g2, c10, c11, c12, c13, c14] : List Value).drop 3).take (Tryz.prog.cellsOf 3)) = ys[3]? := hfs2 3 _ rfl
    rw [cells3, List.getElem?_eq_getElem (by omega)] at s3
    have s3' : DataW.trod enc Tryz.prog w base spare held n2 3 [c10] = some ys[3] := s3
    obtain ⟨g3, p3, -, -⟩ := DataW.trod_int Tryz.underlying3 s3'
    have h3 : c10 = .int .i64 g3 := by simpa using p3
    subst h3
    have s4 : DataW.trod enc Tryz.prog w base spare held n2 4 ((([.int .i64 g0, .int .i64 g1, .int .i64 g2, .int .i64 g3, c11, c12, c13, c14] : List Value).drop 4).take (Tryz.prog.cellsOf 4)) = ys[4]? := hfs2 4 _ rfl
    rw [cells4, List.getElem?_eq_getElem (by omega)] at s4
    have s4' : DataW.trod enc Tryz.prog w base spare held n2 4 [c11] = some ys[4] := s4
    obtain ⟨g4, p4, -⟩ := DataW.trod_bool Tryz.underlying4 s4'
    have h4 : c11 = .bool g4 := by simpa using p4
    subst h4
    have s5 : DataW.trod enc Tryz.prog w base spare held n2 4 ((([.int .i64 g0, .int .i64 g1, .int .i64 g2, .int .i64 g3, .bool g4, c12, c13, c14] : List Value).drop 5).take (Tryz.prog.cellsOf 4)) = ys[5]? := hfs2 5 _ rfl
    rw [cells4, List.getElem?_eq_getElem (by omega)] at s5
    have s5' : DataW.trod enc Tryz.prog w base spare held n2 4 [c12] = some ys[5] := s5
    obtain ⟨g5, p5, -⟩ := DataW.trod_bool Tryz.underlying4 s5'
    have h5 : c12 = .bool g5 := by simpa using p5
    subst h5
    have s6 : DataW.trod enc Tryz.prog w base spare held n2 4 ((([.int .i64 g0, .int .i64 g1, .int .i64 g2, .int .i64 g3, .bool g4, .bool g5, c13, c14] : List Value).drop 6).take (Tryz.prog.cellsOf 4)) = ys[6]? := hfs2 6 _ rfl
    rw [cells4, List.getElem?_eq_getElem (by omega)] at s6
    have s6' : DataW.trod enc Tryz.prog w base spare held n2 4 [c13] = some ys[6] := s6
    obtain ⟨g6, p6, -⟩ := DataW.trod_bool Tryz.underlying4 s6'
    have h6 : c13 = .bool g6 := by simpa using p6
    subst h6
    have s7 : DataW.trod enc Tryz.prog w base spare held n2 30 ((([.int .i64 g0, .int .i64 g1, .int .i64 g2, .int .i64 g3, .bool g4, .bool g5, .bool g6, c14] : List Value).drop 7).take (Tryz.prog.cellsOf 30)) = ys[7]? := hfs2 7 _ rfl
    rw [cells30, List.getElem?_eq_getElem (by omega)] at s7
    have s7' : DataW.trod enc Tryz.prog w base spare held n2 30 [c14] = some ys[7] := s7
    obtain ⟨rs, hr, hw⟩ := rgs_of s7'
    have t8 : DataW.trod enc Tryz.prog w base spare held n 9 ((([.int .i64 f0, .int .i64 f1, .int .i64 f2, .int .i64 f3, .int .i64 f4, .int .i64 f5, .int .i64 f6, .int .i64 g0, .int .i64 g1, .int .i64 g2, .int .i64 g3, .bool g4, .bool g5, .bool g6, c14, c15] : List Value).drop 15).take (Tryz.prog.cellsOf 9)) = xs[8]? := hfs 8 _ rfl
    rw [cells9, List.getElem?_eq_getElem (by omega)] at t8
    have t8' : DataW.trod enc Tryz.prog w base spare held n 9 [c15] = some xs[8] := t8
    obtain ⟨da, q15, hx8, -⟩ := DataW.trod_string Tryz.underlying9 t8'
    have e15 : c15 = .string da := by simpa using q15
    subst e15
    refine ⟨⟨f0, f1, f2, f3, f4, f5, f6, ⟨g0, g1, g2, g3, g4, g5, g6, rs⟩, da⟩, c14, xs.map (·.1), ys.map (·.1), rfl, hd, ?_, ?_, hr, ?_⟩
    · rw [List.getElem?_map, List.getElem?_eq_getElem (by omega), Option.map_some, hd7]
    · rw [List.getElem?_map, List.getElem?_eq_getElem (by omega), Option.map_some, hx8]
    · rcases hw with h | ⟨elems, sp, h1, h2⟩
      · exact .inl h
      · exact .inr ⟨elems, sp, by rw [List.getElem?_map, List.getElem?_eq_getElem (by omega), Option.map_some, h1], h2⟩
theorem sized_34 {H : Type} {ts : List TypeId} {ds : List (DataW H)} (h : (DataW.weightsEach Tryz.prog ts ds).all (· ≤ reachBytes) = true) {j : Nat} {parts oparts : List (DataW H)} {rs : List (Int × Int)} {da : ByteArray} (ht : ts[j]? = some 34) (hd : ds[j]? = some (.agg parts)) (h7 : parts[7]? = some (.agg oparts)) (h8 : parts[8]? = some (.lit (.string da.data.toList))) (hw : rs = [] ∨ ∃ elems sp, oparts[7]? = some (.slice elems sp) ∧ elems.length = rs.length) : rs.length * 16 ≤ 140737488351232 ∧ da.size ≤ 140737488351232 := by
  constructor
  · rcases hw with rfl | ⟨elems, sp, h1, h2⟩
    · simp
    · have := List.all_eq_true.1 h _ (DataW.weights_mem_each ht hd ((elems.length + sp.length) * Tryz.prog.bytesOf 148) (by simp only [DataW.weights, Tryz.underlying34]; exact DataW.weights_mem_each (j := 7) rfl h7 _ (by simp only [DataW.weights, Tryz.underlying32]; exact DataW.weights_mem_each (j := 7) rfl h1 _ (by simp [DataW.weights, Tryz.underlying30]))))
      rw [bytes148] at this
      have := of_decide_eq_true this
      simp only [reachBytes] at this
      omega
  · have := List.all_eq_true.1 h _ (DataW.weights_mem_each ht hd da.data.toList.length (by simp only [DataW.weights, Tryz.underlying34]; exact DataW.weights_mem_each (j := 8) rfl h8 _ (by simp [DataW.weights])))
    have := of_decide_eq_true this
    simp only [reachBytes, Array.length_toList] at this
    exact this
end Go.Proofs.YtkpdmgoldngdaaaGreatDoor

namespace Go.Proofs.YtkpdmgoldngdaaaGreatDoor
open Go.RowKit
set_option maxRecDepth 100000
set_option linter.unusedVariables false

def PdS (x : FrT) (y : PkT) (s : Sg) : Pd := ⟨4, x, ArT.zero, y, IcT.zero, s⟩
set_option maxHeartbeats 4000000 in
theorem ps_c (x : FrT) (y : PkT) (s : Sg) (v : Value) (b B E : ByteArray) (c : Int) (k : Bool) (w : World) (hG : OrE w) (hv : Rgs w v s.o.rs) (HT : Hid TA) (hc : (c != 0) = true)
    (HS : Hid (∀ W, Rgs W v s.o.rs → OrE W → Calls Tryz.prog 19 #[.int .i64 y.f, .int .i64 y.t, .agg #[.int .i64 s.fr, .int .i64 s.dt, .int .i64 s.sq, .int .i64 s.ak, .int .i64 s.fl, .int .i64 s.wi, .int .i64 s.ur, .int .i64 s.o.m, .int .i64 s.o.c, .int .i64 s.o.t, .int .i64 s.o.ec, .bool s.o.sd, .bool s.o.ok, .bool s.o.sp, v, .string s.da]] W fun e w' => e = .returned (.tuple #[.string b, .int .i64 c]) ∧ Below W.heap.size W w'))
    (HFR : Hid (∀ W, Calls Tryz.prog 20 #[.agg #[.int .i64 x.a, .int .i64 x.b, .int .i64 x.k, .string x.d], .agg #[.int .i64 y.f, .int .i64 y.t, .int .i64 y.tl, .int .i64 6, .int .i64 y.id, .int .i64 0, .bool false, .bool y.dn, .string y.op, .string b]] W fun e w' => e = .returned (.tuple #[.string E, .agg #[.int .i64 x.a, .int .i64 x.b, .int .i64 2048, .string B], .bool k]) ∧ Below W.heap.size W w')) :
    Calls Tryz.prog 6 #[.agg #[.int .i64 x.a, .int .i64 x.b, .int .i64 x.k, .string x.d], .agg #[.int .i64 y.f, .int .i64 y.t, .int .i64 y.tl, .int .i64 y.pr, .int .i64 y.id, .int .i64 y.fg, .bool y.mo, .bool y.dn, .string y.op, .string y.da], .agg #[.int .i64 s.fr, .int .i64 s.dt, .int .i64 s.sq, .int .i64 s.ak, .int .i64 s.fl, .int .i64 s.wi, .int .i64 s.ur, .int .i64 s.o.m, .int .i64 s.o.c, .int .i64 s.o.t, .int .i64 s.o.ec, .bool s.o.sd, .bool s.o.ok, .bool s.o.sp, v, .string s.da]] w fun e w' => e = .returned (.bool true) ∧ Below w.heap.size w w' := by
  have hb1 := bel1 w (.cells #[.int .i64 x.a, .int .i64 x.b, .int .i64 x.k, .string x.d] 23)
  have hb2 := bel1 (w.alloc (.cells #[.int .i64 x.a, .int .i64 x.b, .int .i64 x.k, .string x.d] 23)) (.cells #[.int .i64 y.f, .int .i64 y.t, .int .i64 y.tl, .int .i64 y.pr, .int .i64 y.id, .int .i64 y.fg, .bool y.mo, .bool y.dn, .string y.op, .string y.da] 27)
  have hb3 := bel1 ((w.alloc (.cells #[.int .i64 x.a, .int .i64 x.b, .int .i64 x.k, .string x.d] 23)).alloc (.cells #[.int .i64 y.f, .int .i64 y.t, .int .i64 y.tl, .int .i64 y.pr, .int .i64 y.id, .int .i64 y.fg, .bool y.mo, .bool y.dn, .string y.op, .string y.da] 27)) (.cells #[.int .i64 s.fr, .int .i64 s.dt, .int .i64 s.sq, .int .i64 s.ak, .int .i64 s.fl, .int .i64 s.wi, .int .i64 s.ur, .int .i64 s.o.m, .int .i64 s.o.c, .int .i64 s.o.t, .int .i64 s.o.ec, .bool s.o.sd, .bool s.o.ok, .bool s.o.sp, v, .string s.da] 34)
  have hF := ((At.box w #[.int .i64 x.a, .int .i64 x.b, .int .i64 x.k, .string x.d] 23).later hb2).later hb3
  have hA := (At.box2 w (.cells #[.int .i64 x.a, .int .i64 x.b, .int .i64 x.k, .string x.d] 23) #[.int .i64 y.f, .int .i64 y.t, .int .i64 y.tl, .int .i64 y.pr, .int .i64 y.id, .int .i64 y.fg, .bool y.mo, .bool y.dn, .string y.op, .string y.da] 27).later hb3
  have hS := At.box ((w.alloc (.cells #[.int .i64 x.a, .int .i64 x.b, .int .i64 x.k, .string x.d] 23)).alloc (.cells #[.int .i64 y.f, .int .i64 y.t, .int .i64 y.tl, .int .i64 y.pr, .int .i64 y.id, .int .i64 y.fg, .bool y.mo, .bool y.dn, .string y.op, .string y.da] 27)) #[.int .i64 s.fr, .int .i64 s.dt, .int .i64 s.sq, .int .i64 s.ak, .int .i64 s.fl, .int .i64 s.wi, .int .i64 s.ur, .int .i64 s.o.m, .int .i64 s.o.c, .int .i64 s.o.t, .int .i64 s.o.ec, .bool s.o.sd, .bool s.o.ok, .bool s.o.sp, v, .string s.da] 34
  have hq : ((w.alloc (.cells #[.int .i64 x.a, .int .i64 x.b, .int .i64 x.k, .string x.d] 23)).alloc (.cells #[.int .i64 y.f, .int .i64 y.t, .int .i64 y.tl, .int .i64 y.pr, .int .i64 y.id, .int .i64 y.fg, .bool y.mo, .bool y.dn, .string y.op, .string y.da] 27)).heap.size = w.heap.size + 2 := by
    show ((w.heap.push _).push _).size = _
    rw [Array.size_push, Array.size_push]
  rw [hq] at hS
  have hl := bt (bt hb1 hb2) hb3
  clear hb1 hb2 hb3 hq
  go_enter Tryz.func6, Tryz.ntmps6
  go_upto_region 1 with fail
  generalize hw0 : ((w.alloc (.cells #[.int .i64 x.a, .int .i64 x.b, .int .i64 x.k, .string x.d] 23)).alloc (.cells #[.int .i64 y.f, .int .i64 y.t, .int .i64 y.tl, .int .i64 y.pr, .int .i64 y.id, .int .i64 y.fg, .bool y.mo, .bool y.dn, .string y.op, .string y.da] 27)).alloc (.cells #[.int .i64 s.fr, .int .i64 s.dt, .int .i64 s.sq, .int .i64 s.ak, .int .i64 s.fl, .int .i64 s.wi, .int .i64 s.ur, .int .i64 s.o.m, .int .i64 s.o.c, .int .i64 s.o.t, .int .i64 s.o.ec, .bool s.o.sd, .bool s.o.ok, .bool s.o.sp, v, .string s.da] 34) = w0 at *
  clear hw0
  go_wp2_with fail
  refine (works_p _ (hG.later hl) HT).mono ?_
  rintro e w1 ⟨rfl, hb⟩
  replace hl := bt hl hb
  replace hF := hF.later hb
  replace hA := hA.later hb
  replace hS := hS.later hb
  clear hb
  have c0 := (hA.2 0 _ rfl).1
  have c1 := (hA.2 1 _ rfl).1
  go_wp2_with (refine wpList_loadG 34 _ (by rfl) (by rfl) (w.heap.size + 2) 0 (by rfl) _ _ hS.range Tryz.underlying34 rfl size34 ?_)
  refine (HS.out _ (hv.later hl) (hG.later hl)).mono ?_
  rintro e w2 ⟨rfl, hb⟩
  replace hl := bt hl hb
  replace hF := hF.later hb
  replace hA := hA.later hb
  replace hS := hS.later hb
  clear hb c0 c1 HS
  have c3 := (hA.2 3 _ rfl).1
  have z3 := (hA.2 3 _ rfl).2
  have c5 := (hA.2 5 _ rfl).1
  have z5 := (hA.2 5 _ rfl).2
  have c6 := (hA.2 6 _ rfl).1
  have z6 := (hA.2 6 _ rfl).2
  have c9 := (hA.2 9 _ rfl).1
  have z9 := (hA.2 9 _ rfl).2
  go_upto_region 5 with fail
  replace hA := (((hA.set 3 (.int .i64 6)).set 9 (.string b)).set 5 (.int .i64 0)).set 6 (.bool false)
  replace hF := (((hF.keep (b := w.heap.size + 1) (by omega) 3 (.int .i64 6)).keep (b := w.heap.size + 1) (by omega) 9 (.string b)).keep (b := w.heap.size + 1) (by omega) 5 (.int .i64 0)).keep (b := w.heap.size + 1) (by omega) 6 (.bool false)
  replace hS := (((hS.keep (b := w.heap.size + 1) (by omega) 3 (.int .i64 6)).keep (b := w.heap.size + 1) (by omega) 9 (.string b)).keep (b := w.heap.size + 1) (by omega) 5 (.int .i64 0)).keep (b := w.heap.size + 1) (by omega) 6 (.bool false)
  replace hl := (((hl.setCell (p := ⟨w.heap.size + 1, 3, none⟩) (Nat.le_succ _) (.int .i64 6)).setCell (p := ⟨w.heap.size + 1, 9, none⟩) (Nat.le_succ _) (.string b)).setCell (p := ⟨w.heap.size + 1, 5, none⟩) (Nat.le_succ _) (.int .i64 0)).setCell (p := ⟨w.heap.size + 1, 6, none⟩) (Nat.le_succ _) (.bool false)
  replace hA : At _ (w.heap.size + 1) #[.int .i64 y.f, .int .i64 y.t, .int .i64 y.tl, .int .i64 6, .int .i64 y.id, .int .i64 0, .bool false, .bool y.dn, .string y.op, .string b] := hA
  generalize hw3 : (((w2.setCell ⟨w.heap.size + 1, 3, none⟩ (.int .i64 6)).setCell ⟨w.heap.size + 1, 9, none⟩ (.string b)).setCell ⟨w.heap.size + 1, 5, none⟩ (.int .i64 0)).setCell ⟨w.heap.size + 1, 6, none⟩ (.bool false) = w3 at *
  clear hw3 c3 c5 c6 c9 z3 z5 z6 z9
  go_cut [9, 10, 11] from 14 (fun q g n W => ∃ BG : Nat, q = .string E ∧ g = .pointer (some ⟨BG, 0, none⟩) ∧ n = .bool k ∧ At W BG #[.int .i64 x.a, .int .i64 x.b, .int .i64 2048, .string B] ∧ Below w3.heap.size w3 W)
  case first =>
    go_wp2_with (first | (refine wpList_loadG 23 _ (by rfl) (by rfl) (w.heap.size) 0 (by rfl) _ _ hF.range Tryz.underlying23 rfl size23 ?_) | (refine wpList_loadG 27 _ (by rfl) (by rfl) (w.heap.size + 1) 0 (by rfl) _ _ hA.range Tryz.underlying27 rfl size27 ?_))
    refine (HFR.out _).mono ?_
    rintro e w5 ⟨rfl, hb⟩
    go_wp2
    go_meet
    case rel => exact ⟨w5.heap.size, rfl, rfl, rfl, At.box w5 #[.int .i64 x.a, .int .i64 x.b, .int .i64 2048, .string B] 23, bt hb (bel1 w5 (.cells #[.int .i64 x.a, .int .i64 x.b, .int .i64 2048, .string B] 23))⟩
  case rest =>
  obtain ⟨BG, rfl, rfl, rfl, hg, hb⟩ := hcut
  replace hl := bt hl hb
  replace hA := hA.later hb
  replace hS := hS.later hb
  clear hb hF HFR
  obtain ⟨w4, hw4⟩ : ∃ x, x = wc := ⟨wc, rfl⟩
  subst hw4
  go_wp2
  go_ret
  exact ⟨rfl, hl⟩
set_option maxHeartbeats 4000000 in
theorem ps_k (x : FrT) (y : PkT) (s : Sg) (v : Value) (b B E : ByteArray) (c : Int) (w : World) (hG : OrE w) (hv : Rgs w v s.o.rs) (HT : Hid TA) (hc : (c != 0) = false)
    (HS : Hid (∀ W, Rgs W v s.o.rs → OrE W → Calls Tryz.prog 19 #[.int .i64 y.f, .int .i64 y.t, .agg #[.int .i64 s.fr, .int .i64 s.dt, .int .i64 s.sq, .int .i64 s.ak, .int .i64 s.fl, .int .i64 s.wi, .int .i64 s.ur, .int .i64 s.o.m, .int .i64 s.o.c, .int .i64 s.o.t, .int .i64 s.o.ec, .bool s.o.sd, .bool s.o.ok, .bool s.o.sp, v, .string s.da]] W fun e w' => e = .returned (.tuple #[.string b, .int .i64 c]) ∧ Below W.heap.size W w'))
    (HFR : Hid (∀ W, Calls Tryz.prog 20 #[.agg #[.int .i64 x.a, .int .i64 x.b, .int .i64 x.k, .string x.d], .agg #[.int .i64 y.f, .int .i64 y.t, .int .i64 y.tl, .int .i64 6, .int .i64 y.id, .int .i64 0, .bool false, .bool y.dn, .string y.op, .string b]] W fun e w' => e = .returned (.tuple #[.string E, .agg #[.int .i64 x.a, .int .i64 x.b, .int .i64 2048, .string B], .bool false]) ∧ Below W.heap.size W w')) :
    Calls Tryz.prog 6 #[.agg #[.int .i64 x.a, .int .i64 x.b, .int .i64 x.k, .string x.d], .agg #[.int .i64 y.f, .int .i64 y.t, .int .i64 y.tl, .int .i64 y.pr, .int .i64 y.id, .int .i64 y.fg, .bool y.mo, .bool y.dn, .string y.op, .string y.da], .agg #[.int .i64 s.fr, .int .i64 s.dt, .int .i64 s.sq, .int .i64 s.ak, .int .i64 s.fl, .int .i64 s.wi, .int .i64 s.ur, .int .i64 s.o.m, .int .i64 s.o.c, .int .i64 s.o.t, .int .i64 s.o.ec, .bool s.o.sd, .bool s.o.ok, .bool s.o.sp, v, .string s.da]] w fun e w' => e = .returned (.bool true) ∧ Below w.heap.size w w' := by
  have hb1 := bel1 w (.cells #[.int .i64 x.a, .int .i64 x.b, .int .i64 x.k, .string x.d] 23)
  have hb2 := bel1 (w.alloc (.cells #[.int .i64 x.a, .int .i64 x.b, .int .i64 x.k, .string x.d] 23)) (.cells #[.int .i64 y.f, .int .i64 y.t, .int .i64 y.tl, .int .i64 y.pr, .int .i64 y.id, .int .i64 y.fg, .bool y.mo, .bool y.dn, .string y.op, .string y.da] 27)
  have hb3 := bel1 ((w.alloc (.cells #[.int .i64 x.a, .int .i64 x.b, .int .i64 x.k, .string x.d] 23)).alloc (.cells #[.int .i64 y.f, .int .i64 y.t, .int .i64 y.tl, .int .i64 y.pr, .int .i64 y.id, .int .i64 y.fg, .bool y.mo, .bool y.dn, .string y.op, .string y.da] 27)) (.cells #[.int .i64 s.fr, .int .i64 s.dt, .int .i64 s.sq, .int .i64 s.ak, .int .i64 s.fl, .int .i64 s.wi, .int .i64 s.ur, .int .i64 s.o.m, .int .i64 s.o.c, .int .i64 s.o.t, .int .i64 s.o.ec, .bool s.o.sd, .bool s.o.ok, .bool s.o.sp, v, .string s.da] 34)
  have hF := ((At.box w #[.int .i64 x.a, .int .i64 x.b, .int .i64 x.k, .string x.d] 23).later hb2).later hb3
  have hA := (At.box2 w (.cells #[.int .i64 x.a, .int .i64 x.b, .int .i64 x.k, .string x.d] 23) #[.int .i64 y.f, .int .i64 y.t, .int .i64 y.tl, .int .i64 y.pr, .int .i64 y.id, .int .i64 y.fg, .bool y.mo, .bool y.dn, .string y.op, .string y.da] 27).later hb3
  have hS := At.box ((w.alloc (.cells #[.int .i64 x.a, .int .i64 x.b, .int .i64 x.k, .string x.d] 23)).alloc (.cells #[.int .i64 y.f, .int .i64 y.t, .int .i64 y.tl, .int .i64 y.pr, .int .i64 y.id, .int .i64 y.fg, .bool y.mo, .bool y.dn, .string y.op, .string y.da] 27)) #[.int .i64 s.fr, .int .i64 s.dt, .int .i64 s.sq, .int .i64 s.ak, .int .i64 s.fl, .int .i64 s.wi, .int .i64 s.ur, .int .i64 s.o.m, .int .i64 s.o.c, .int .i64 s.o.t, .int .i64 s.o.ec, .bool s.o.sd, .bool s.o.ok, .bool s.o.sp, v, .string s.da] 34
  have hq : ((w.alloc (.cells #[.int .i64 x.a, .int .i64 x.b, .int .i64 x.k, .string x.d] 23)).alloc (.cells #[.int .i64 y.f, .int .i64 y.t, .int .i64 y.tl, .int .i64 y.pr, .int .i64 y.id, .int .i64 y.fg, .bool y.mo, .bool y.dn, .string y.op, .string y.da] 27)).heap.size = w.heap.size + 2 := by
    show ((w.heap.push _).push _).size = _
    rw [Array.size_push, Array.size_push]
  rw [hq] at hS
  have hl := bt (bt hb1 hb2) hb3
  clear hb1 hb2 hb3 hq
  go_enter Tryz.func6, Tryz.ntmps6
  go_upto_region 1 with fail
  generalize hw0 : ((w.alloc (.cells #[.int .i64 x.a, .int .i64 x.b, .int .i64 x.k, .string x.d] 23)).alloc (.cells #[.int .i64 y.f, .int .i64 y.t, .int .i64 y.tl, .int .i64 y.pr, .int .i64 y.id, .int .i64 y.fg, .bool y.mo, .bool y.dn, .string y.op, .string y.da] 27)).alloc (.cells #[.int .i64 s.fr, .int .i64 s.dt, .int .i64 s.sq, .int .i64 s.ak, .int .i64 s.fl, .int .i64 s.wi, .int .i64 s.ur, .int .i64 s.o.m, .int .i64 s.o.c, .int .i64 s.o.t, .int .i64 s.o.ec, .bool s.o.sd, .bool s.o.ok, .bool s.o.sp, v, .string s.da] 34) = w0 at *
  clear hw0
  go_wp2_with fail
  refine (works_p _ (hG.later hl) HT).mono ?_
  rintro e w1 ⟨rfl, hb⟩
  replace hl := bt hl hb
  replace hF := hF.later hb
  replace hA := hA.later hb
  replace hS := hS.later hb
  clear hb
  have c0 := (hA.2 0 _ rfl).1
  have c1 := (hA.2 1 _ rfl).1
  go_wp2_with (refine wpList_loadG 34 _ (by rfl) (by rfl) (w.heap.size + 2) 0 (by rfl) _ _ hS.range Tryz.underlying34 rfl size34 ?_)
  refine (HS.out _ (hv.later hl) (hG.later hl)).mono ?_
  rintro e w2 ⟨rfl, hb⟩
  replace hl := bt hl hb
  replace hF := hF.later hb
  replace hA := hA.later hb
  replace hS := hS.later hb
  clear hb c0 c1 HS
  have c3 := (hA.2 3 _ rfl).1
  have z3 := (hA.2 3 _ rfl).2
  have c5 := (hA.2 5 _ rfl).1
  have z5 := (hA.2 5 _ rfl).2
  have c6 := (hA.2 6 _ rfl).1
  have z6 := (hA.2 6 _ rfl).2
  have c9 := (hA.2 9 _ rfl).1
  have z9 := (hA.2 9 _ rfl).2
  go_upto_region 5 with fail
  replace hA := (((hA.set 3 (.int .i64 6)).set 9 (.string b)).set 5 (.int .i64 0)).set 6 (.bool false)
  replace hF := (((hF.keep (b := w.heap.size + 1) (by omega) 3 (.int .i64 6)).keep (b := w.heap.size + 1) (by omega) 9 (.string b)).keep (b := w.heap.size + 1) (by omega) 5 (.int .i64 0)).keep (b := w.heap.size + 1) (by omega) 6 (.bool false)
  replace hS := (((hS.keep (b := w.heap.size + 1) (by omega) 3 (.int .i64 6)).keep (b := w.heap.size + 1) (by omega) 9 (.string b)).keep (b := w.heap.size + 1) (by omega) 5 (.int .i64 0)).keep (b := w.heap.size + 1) (by omega) 6 (.bool false)
  replace hl := (((hl.setCell (p := ⟨w.heap.size + 1, 3, none⟩) (Nat.le_succ _) (.int .i64 6)).setCell (p := ⟨w.heap.size + 1, 9, none⟩) (Nat.le_succ _) (.string b)).setCell (p := ⟨w.heap.size + 1, 5, none⟩) (Nat.le_succ _) (.int .i64 0)).setCell (p := ⟨w.heap.size + 1, 6, none⟩) (Nat.le_succ _) (.bool false)
  replace hA : At _ (w.heap.size + 1) #[.int .i64 y.f, .int .i64 y.t, .int .i64 y.tl, .int .i64 6, .int .i64 y.id, .int .i64 0, .bool false, .bool y.dn, .string y.op, .string b] := hA
  generalize hw3 : (((w2.setCell ⟨w.heap.size + 1, 3, none⟩ (.int .i64 6)).setCell ⟨w.heap.size + 1, 9, none⟩ (.string b)).setCell ⟨w.heap.size + 1, 5, none⟩ (.int .i64 0)).setCell ⟨w.heap.size + 1, 6, none⟩ (.bool false) = w3 at *
  clear hw3 c3 c5 c6 c9 z3 z5 z6 z9
  go_cut [9, 10, 11] from 14 (fun q g n W => ∃ BG : Nat, q = .string E ∧ g = .pointer (some ⟨BG, 0, none⟩) ∧ n = .bool false ∧ At W BG #[.int .i64 x.a, .int .i64 x.b, .int .i64 2048, .string B] ∧ Below w3.heap.size w3 W)
  case first =>
    go_wp2_with (first | (refine wpList_loadG 23 _ (by rfl) (by rfl) (w.heap.size) 0 (by rfl) _ _ hF.range Tryz.underlying23 rfl size23 ?_) | (refine wpList_loadG 27 _ (by rfl) (by rfl) (w.heap.size + 1) 0 (by rfl) _ _ hA.range Tryz.underlying27 rfl size27 ?_))
    refine (HFR.out _).mono ?_
    rintro e w5 ⟨rfl, hb⟩
    go_wp2
    go_meet
    case rel => exact ⟨w5.heap.size, rfl, rfl, rfl, At.box w5 #[.int .i64 x.a, .int .i64 x.b, .int .i64 2048, .string B] 23, bt hb (bel1 w5 (.cells #[.int .i64 x.a, .int .i64 x.b, .int .i64 2048, .string B] 23))⟩
  case rest =>
  obtain ⟨BG, rfl, rfl, rfl, hg, hb⟩ := hcut
  replace hl := bt hl hb
  replace hA := hA.later hb
  replace hS := hS.later hb
  clear hb hF HFR
  obtain ⟨w4, hw4⟩ : ∃ x, x = wc := ⟨wc, rfl⟩
  subst hw4
  go_wp2
  go_ret
  exact ⟨rfl, hl⟩
set_option maxHeartbeats 4000000 in
theorem ps_y (x : FrT) (y : PkT) (s : Sg) (v : Value) (b B E : ByteArray) (c : Int) (w : World) (hG : OrE w) (hv : Rgs w v s.o.rs) (HT : Hid TA) (hc : (c != 0) = false) (hn : s.o.rs.length ≤ 4)
    (HP : Hid (∀ W, OrE W → Calls Tryz.prog 9 #[.string E] W fun e w' => ∃ v, e = .returned (.tuple #[.agg ((PdS (⟨x.a, x.b, 2048, B⟩ : FrT) (⟨y.f, y.t, y.tl, 6, y.id, 0, false, y.dn, y.op, b⟩ : PkT) s).v v), .nilIface]) ∧ RgA W.heap.size w' v s.o.rs ∧ Below W.heap.size W w'))
    (HS : Hid (∀ W, Rgs W v s.o.rs → OrE W → Calls Tryz.prog 19 #[.int .i64 y.f, .int .i64 y.t, .agg #[.int .i64 s.fr, .int .i64 s.dt, .int .i64 s.sq, .int .i64 s.ak, .int .i64 s.fl, .int .i64 s.wi, .int .i64 s.ur, .int .i64 s.o.m, .int .i64 s.o.c, .int .i64 s.o.t, .int .i64 s.o.ec, .bool s.o.sd, .bool s.o.ok, .bool s.o.sp, v, .string s.da]] W fun e w' => e = .returned (.tuple #[.string b, .int .i64 c]) ∧ Below W.heap.size W w'))
    (HFR : Hid (∀ W, Calls Tryz.prog 20 #[.agg #[.int .i64 x.a, .int .i64 x.b, .int .i64 x.k, .string x.d], .agg #[.int .i64 y.f, .int .i64 y.t, .int .i64 y.tl, .int .i64 6, .int .i64 y.id, .int .i64 0, .bool false, .bool y.dn, .string y.op, .string b]] W fun e w' => e = .returned (.tuple #[.string E, .agg #[.int .i64 x.a, .int .i64 x.b, .int .i64 2048, .string B], .bool true]) ∧ Below W.heap.size W w')) :
    Calls Tryz.prog 6 #[.agg #[.int .i64 x.a, .int .i64 x.b, .int .i64 x.k, .string x.d], .agg #[.int .i64 y.f, .int .i64 y.t, .int .i64 y.tl, .int .i64 y.pr, .int .i64 y.id, .int .i64 y.fg, .bool y.mo, .bool y.dn, .string y.op, .string y.da], .agg #[.int .i64 s.fr, .int .i64 s.dt, .int .i64 s.sq, .int .i64 s.ak, .int .i64 s.fl, .int .i64 s.wi, .int .i64 s.ur, .int .i64 s.o.m, .int .i64 s.o.c, .int .i64 s.o.t, .int .i64 s.o.ec, .bool s.o.sd, .bool s.o.ok, .bool s.o.sp, v, .string s.da]] w fun e w' => e = .returned (.bool true) ∧ Below w.heap.size w w' := by
  have hb1 := bel1 w (.cells #[.int .i64 x.a, .int .i64 x.b, .int .i64 x.k, .string x.d] 23)
  have hb2 := bel1 (w.alloc (.cells #[.int .i64 x.a, .int .i64 x.b, .int .i64 x.k, .string x.d] 23)) (.cells #[.int .i64 y.f, .int .i64 y.t, .int .i64 y.tl, .int .i64 y.pr, .int .i64 y.id, .int .i64 y.fg, .bool y.mo, .bool y.dn, .string y.op, .string y.da] 27)
  have hb3 := bel1 ((w.alloc (.cells #[.int .i64 x.a, .int .i64 x.b, .int .i64 x.k, .string x.d] 23)).alloc (.cells #[.int .i64 y.f, .int .i64 y.t, .int .i64 y.tl, .int .i64 y.pr, .int .i64 y.id, .int .i64 y.fg, .bool y.mo, .bool y.dn, .string y.op, .string y.da] 27)) (.cells #[.int .i64 s.fr, .int .i64 s.dt, .int .i64 s.sq, .int .i64 s.ak, .int .i64 s.fl, .int .i64 s.wi, .int .i64 s.ur, .int .i64 s.o.m, .int .i64 s.o.c, .int .i64 s.o.t, .int .i64 s.o.ec, .bool s.o.sd, .bool s.o.ok, .bool s.o.sp, v, .string s.da] 34)
  have hF := ((At.box w #[.int .i64 x.a, .int .i64 x.b, .int .i64 x.k, .string x.d] 23).later hb2).later hb3
  have hA := (At.box2 w (.cells #[.int .i64 x.a, .int .i64 x.b, .int .i64 x.k, .string x.d] 23) #[.int .i64 y.f, .int .i64 y.t, .int .i64 y.tl, .int .i64 y.pr, .int .i64 y.id, .int .i64 y.fg, .bool y.mo, .bool y.dn, .string y.op, .string y.da] 27).later hb3
  have hS := At.box ((w.alloc (.cells #[.int .i64 x.a, .int .i64 x.b, .int .i64 x.k, .string x.d] 23)).alloc (.cells #[.int .i64 y.f, .int .i64 y.t, .int .i64 y.tl, .int .i64 y.pr, .int .i64 y.id, .int .i64 y.fg, .bool y.mo, .bool y.dn, .string y.op, .string y.da] 27)) #[.int .i64 s.fr, .int .i64 s.dt, .int .i64 s.sq, .int .i64 s.ak, .int .i64 s.fl, .int .i64 s.wi, .int .i64 s.ur, .int .i64 s.o.m, .int .i64 s.o.c, .int .i64 s.o.t, .int .i64 s.o.ec, .bool s.o.sd, .bool s.o.ok, .bool s.o.sp, v, .string s.da] 34
  have hq : ((w.alloc (.cells #[.int .i64 x.a, .int .i64 x.b, .int .i64 x.k, .string x.d] 23)).alloc (.cells #[.int .i64 y.f, .int .i64 y.t, .int .i64 y.tl, .int .i64 y.pr, .int .i64 y.id, .int .i64 y.fg, .bool y.mo, .bool y.dn, .string y.op, .string y.da] 27)).heap.size = w.heap.size + 2 := by
    show ((w.heap.push _).push _).size = _
    rw [Array.size_push, Array.size_push]
  rw [hq] at hS
  have hl := bt (bt hb1 hb2) hb3
  clear hb1 hb2 hb3 hq
  go_enter Tryz.func6, Tryz.ntmps6
  go_upto_region 1 with fail
  generalize hw0 : ((w.alloc (.cells #[.int .i64 x.a, .int .i64 x.b, .int .i64 x.k, .string x.d] 23)).alloc (.cells #[.int .i64 y.f, .int .i64 y.t, .int .i64 y.tl, .int .i64 y.pr, .int .i64 y.id, .int .i64 y.fg, .bool y.mo, .bool y.dn, .string y.op, .string y.da] 27)).alloc (.cells #[.int .i64 s.fr, .int .i64 s.dt, .int .i64 s.sq, .int .i64 s.ak, .int .i64 s.fl, .int .i64 s.wi, .int .i64 s.ur, .int .i64 s.o.m, .int .i64 s.o.c, .int .i64 s.o.t, .int .i64 s.o.ec, .bool s.o.sd, .bool s.o.ok, .bool s.o.sp, v, .string s.da] 34) = w0 at *
  clear hw0
  go_wp2_with fail
  refine (works_p _ (hG.later hl) HT).mono ?_
  rintro e w1 ⟨rfl, hb⟩
  replace hl := bt hl hb
  replace hF := hF.later hb
  replace hA := hA.later hb
  replace hS := hS.later hb
  clear hb
  have c0 := (hA.2 0 _ rfl).1
  have c1 := (hA.2 1 _ rfl).1
  go_wp2_with (refine wpList_loadG 34 _ (by rfl) (by rfl) (w.heap.size + 2) 0 (by rfl) _ _ hS.range Tryz.underlying34 rfl size34 ?_)
  refine (HS.out _ (hv.later hl) (hG.later hl)).mono ?_
  rintro e w2 ⟨rfl, hb⟩
  replace hl := bt hl hb
  replace hF := hF.later hb
  replace hA := hA.later hb
  replace hS := hS.later hb
  clear hb c0 c1 HS
  have c3 := (hA.2 3 _ rfl).1
  have z3 := (hA.2 3 _ rfl).2
  have c5 := (hA.2 5 _ rfl).1
  have z5 := (hA.2 5 _ rfl).2
  have c6 := (hA.2 6 _ rfl).1
  have z6 := (hA.2 6 _ rfl).2
  have c9 := (hA.2 9 _ rfl).1
  have z9 := (hA.2 9 _ rfl).2
  go_upto_region 5 with fail
  replace hA := (((hA.set 3 (.int .i64 6)).set 9 (.string b)).set 5 (.int .i64 0)).set 6 (.bool false)
  replace hF := (((hF.keep (b := w.heap.size + 1) (by omega) 3 (.int .i64 6)).keep (b := w.heap.size + 1) (by omega) 9 (.string b)).keep (b := w.heap.size + 1) (by omega) 5 (.int .i64 0)).keep (b := w.heap.size + 1) (by omega) 6 (.bool false)
  replace hS := (((hS.keep (b := w.heap.size + 1) (by omega) 3 (.int .i64 6)).keep (b := w.heap.size + 1) (by omega) 9 (.string b)).keep (b := w.heap.size + 1) (by omega) 5 (.int .i64 0)).keep (b := w.heap.size + 1) (by omega) 6 (.bool false)
  replace hl := (((hl.setCell (p := ⟨w.heap.size + 1, 3, none⟩) (Nat.le_succ _) (.int .i64 6)).setCell (p := ⟨w.heap.size + 1, 9, none⟩) (Nat.le_succ _) (.string b)).setCell (p := ⟨w.heap.size + 1, 5, none⟩) (Nat.le_succ _) (.int .i64 0)).setCell (p := ⟨w.heap.size + 1, 6, none⟩) (Nat.le_succ _) (.bool false)
  replace hA : At _ (w.heap.size + 1) #[.int .i64 y.f, .int .i64 y.t, .int .i64 y.tl, .int .i64 6, .int .i64 y.id, .int .i64 0, .bool false, .bool y.dn, .string y.op, .string b] := hA
  generalize hw3 : (((w2.setCell ⟨w.heap.size + 1, 3, none⟩ (.int .i64 6)).setCell ⟨w.heap.size + 1, 9, none⟩ (.string b)).setCell ⟨w.heap.size + 1, 5, none⟩ (.int .i64 0)).setCell ⟨w.heap.size + 1, 6, none⟩ (.bool false) = w3 at *
  clear hw3 c3 c5 c6 c9 z3 z5 z6 z9
  go_cut [9, 10, 11] from 14 (fun q g n W => ∃ BG : Nat, q = .string E ∧ g = .pointer (some ⟨BG, 0, none⟩) ∧ n = .bool true ∧ At W BG #[.int .i64 x.a, .int .i64 x.b, .int .i64 2048, .string B] ∧ Below w3.heap.size w3 W)
  case first =>
    go_wp2_with (first | (refine wpList_loadG 23 _ (by rfl) (by rfl) (w.heap.size) 0 (by rfl) _ _ hF.range Tryz.underlying23 rfl size23 ?_) | (refine wpList_loadG 27 _ (by rfl) (by rfl) (w.heap.size + 1) 0 (by rfl) _ _ hA.range Tryz.underlying27 rfl size27 ?_))
    refine (HFR.out _).mono ?_
    rintro e w5 ⟨rfl, hb⟩
    go_wp2
    go_meet
    case rel => exact ⟨w5.heap.size, rfl, rfl, rfl, At.box w5 #[.int .i64 x.a, .int .i64 x.b, .int .i64 2048, .string B] 23, bt hb (bel1 w5 (.cells #[.int .i64 x.a, .int .i64 x.b, .int .i64 2048, .string B] 23))⟩
  case rest =>
  obtain ⟨BG, rfl, rfl, rfl, hg, hb⟩ := hcut
  replace hl := bt hl hb
  replace hA := hA.later hb
  replace hS := hS.later hb
  clear hb hF HFR
  obtain ⟨w4, hw4⟩ : ∃ x, x = wc := ⟨wc, rfl⟩
  subst hw4
  go_upto_region 8 with fail
  go_cut [12, 13] from 14 (fun q h9 W => ∃ (B6 : Nat) (a0 : Option Addr) (cap0 : Nat), q = .pointer (some ⟨B6, 0, none⟩) ∧ h9 = .nilIface ∧ Below w4.heap.size w4 W ∧ Rgs W (.slice a0 s.o.rs.length cap0) s.o.rs ∧ At W B6 ((PdS (⟨x.a, x.b, 2048, B⟩ : FrT) (⟨y.f, y.t, y.tl, 6, y.id, 0, false, y.dn, y.op, b⟩ : PkT) s).v (.slice a0 s.o.rs.length cap0)))
  case first =>
    go_wp2_with fail
    refine (HP.out _ (hG.later hl)).mono ?_
    rintro e w5 ⟨u, rfl, hu, hb⟩
    obtain ⟨a0, cap0, hve, -⟩ := id hu
    subst hve
    have hX0 : At (w5.alloc (.cells #[.int .i64 0, .int .i64 0, .int .i64 0, .int .i64 0, .string ⟨#[]⟩, .int .i64 0, .int .i64 0, .int .i64 0, .int .i64 0, .int .i64 0, .int .i64 0, .int .i64 0, .int .i64 0, .int .i64 0, .int .i64 0, .int .i64 0, .bool false, .bool false, .string ⟨#[]⟩, .string ⟨#[]⟩, .int .i64 0, .int .i64 0, .int .i64 0, .int .i64 0, .string ⟨#[]⟩, .int .i64 0, .int .i64 0, .int .i64 0, .int .i64 0, .int .i64 0, .int .i64 0, .int .i64 0, .int .i64 0, .int .i64 0, .int .i64 0, .int .i64 0, .bool false, .bool false, .bool false, .slice none 0 0, .string ⟨#[]⟩] 36)) w5.heap.size PZ := At.box w5 #[.int .i64 0, .int .i64 0, .int .i64 0, .int .i64 0, .string ⟨#[]⟩, .int .i64 0, .int .i64 0, .int .i64 0, .int .i64 0, .int .i64 0, .int .i64 0, .int .i64 0, .int .i64 0, .int .i64 0, .int .i64 0, .int .i64 0, .bool false, .bool false, .string ⟨#[]⟩, .string ⟨#[]⟩, .int .i64 0, .int .i64 0, .int .i64 0, .int .i64 0, .string ⟨#[]⟩, .int .i64 0, .int .i64 0, .int .i64 0, .int .i64 0, .int .i64 0, .int .i64 0, .int .i64 0, .int .i64 0, .int .i64 0, .int .i64 0, .int .i64 0, .bool false, .bool false, .bool false, .slice none 0 0, .string ⟨#[]⟩] 36
    have hbx : Below w5.heap.size w5 ((w5.alloc (.cells #[.int .i64 0, .int .i64 0, .int .i64 0, .int .i64 0, .string ⟨#[]⟩, .int .i64 0, .int .i64 0, .int .i64 0, .int .i64 0, .int .i64 0, .int .i64 0, .int .i64 0, .int .i64 0, .int .i64 0, .int .i64 0, .int .i64 0, .bool false, .bool false, .string ⟨#[]⟩, .string ⟨#[]⟩, .int .i64 0, .int .i64 0, .int .i64 0, .int .i64 0, .string ⟨#[]⟩, .int .i64 0, .int .i64 0, .int .i64 0, .int .i64 0, .int .i64 0, .int .i64 0, .int .i64 0, .int .i64 0, .int .i64 0, .int .i64 0, .int .i64 0, .bool false, .bool false, .bool false, .slice none 0 0, .string ⟨#[]⟩] 36)).setCells w5.heap.size 0 ((PdS (⟨x.a, x.b, 2048, B⟩ : FrT) (⟨y.f, y.t, y.tl, 6, y.id, 0, false, y.dn, y.op, b⟩ : PkT) s).v (.slice a0 s.o.rs.length cap0)).toList) := Below.setCells (Nat.le_refl _) _ _ _ (bel1 w5 (.cells #[.int .i64 0, .int .i64 0, .int .i64 0, .int .i64 0, .string ⟨#[]⟩, .int .i64 0, .int .i64 0, .int .i64 0, .int .i64 0, .int .i64 0, .int .i64 0, .int .i64 0, .int .i64 0, .int .i64 0, .int .i64 0, .int .i64 0, .bool false, .bool false, .string ⟨#[]⟩, .string ⟨#[]⟩, .int .i64 0, .int .i64 0, .int .i64 0, .int .i64 0, .string ⟨#[]⟩, .int .i64 0, .int .i64 0, .int .i64 0, .int .i64 0, .int .i64 0, .int .i64 0, .int .i64 0, .int .i64 0, .int .i64 0, .int .i64 0, .int .i64 0, .bool false, .bool false, .bool false, .slice none 0 0, .string ⟨#[]⟩] 36))
    have hX : At ((w5.alloc (.cells #[.int .i64 0, .int .i64 0, .int .i64 0, .int .i64 0, .string ⟨#[]⟩, .int .i64 0, .int .i64 0, .int .i64 0, .int .i64 0, .int .i64 0, .int .i64 0, .int .i64 0, .int .i64 0, .int .i64 0, .int .i64 0, .int .i64 0, .bool false, .bool false, .string ⟨#[]⟩, .string ⟨#[]⟩, .int .i64 0, .int .i64 0, .int .i64 0, .int .i64 0, .string ⟨#[]⟩, .int .i64 0, .int .i64 0, .int .i64 0, .int .i64 0, .int .i64 0, .int .i64 0, .int .i64 0, .int .i64 0, .int .i64 0, .int .i64 0, .int .i64 0, .bool false, .bool false, .bool false, .slice none 0 0, .string ⟨#[]⟩] 36)).setCells w5.heap.size 0 ((PdS (⟨x.a, x.b, 2048, B⟩ : FrT) (⟨y.f, y.t, y.tl, 6, y.id, 0, false, y.dn, y.op, b⟩ : PkT) s).v (.slice a0 s.o.rs.length cap0)).toList) w5.heap.size ((PdS (⟨x.a, x.b, 2048, B⟩ : FrT) (⟨y.f, y.t, y.tl, 6, y.id, 0, false, y.dn, y.op, b⟩ : PkT) s).v (.slice a0 s.o.rs.length cap0)) := At.whole (vs := (PdS (⟨x.a, x.b, 2048, B⟩ : FrT) (⟨y.f, y.t, y.tl, 6, y.id, 0, false, y.dn, y.op, b⟩ : PkT) s).v (.slice a0 s.o.rs.length cap0)) hX0 rfl
    go_wp2_with (refine wpList_store_mid (by rfl) 36 _ _ (by rfl) (w5.heap.size) 0 ((PdS (⟨x.a, x.b, 2048, B⟩ : FrT) (⟨y.f, y.t, y.tl, 6, y.id, 0, false, y.dn, y.op, b⟩ : PkT) s).v (.slice a0 s.o.rs.length cap0)) (by rfl) (by rfl) hX0.there size36 (Pd.one _ rfl) ?_)
    go_wp2
    go_meet
    case rel => exact ⟨w5.heap.size, a0, cap0, rfl, rfl, bt hb hbx, (hu.later hbx).rgs, hX⟩
  case rest =>
  obtain ⟨B6, a0, cap0, rfl, rfl, hb, hu, hXA⟩ := hcut
  replace hl := bt hl hb
  replace hA := hA.later hb
  replace hS := hS.later hb
  replace hg := hg.later hb
  obtain ⟨w6, hw6⟩ : ∃ x, x = wc := ⟨wc, rfl⟩
  subst hw6
  clear hb HP
  have q1 : ∀ W, (binOp .eql 23 (.agg #[.int .i64 x.a, .int .i64 x.b, .int .i64 2048, .string B]) (.agg #[.int .i64 x.a, .int .i64 x.b, .int .i64 2048, .string B])).run Tryz.prog W = .ok (.bool true) W := eqs23 (PdS (⟨x.a, x.b, 2048, B⟩ : FrT) (⟨y.f, y.t, y.tl, 6, y.id, 0, false, y.dn, y.op, b⟩ : PkT) s)
  have q3 : ∀ W, (binOp .eql 27 (.agg #[.int .i64 y.f, .int .i64 y.t, .int .i64 y.tl, .int .i64 6, .int .i64 y.id, .int .i64 0, .bool false, .bool y.dn, .string y.op, .string b]) (.agg #[.int .i64 y.f, .int .i64 y.t, .int .i64 y.tl, .int .i64 6, .int .i64 y.id, .int .i64 0, .bool false, .bool y.dn, .string y.op, .string b])).run Tryz.prog W = .ok (.bool true) W := eqs27 (PdS (⟨x.a, x.b, 2048, B⟩ : FrT) (⟨y.f, y.t, y.tl, 6, y.id, 0, false, y.dn, y.op, b⟩ : PkT) s)
  have ca : w6.cell? ⟨B6, 0, none⟩ = some (.int .i64 4) := (hXA.2 0 (.int .i64 4) rfl).1
  have p1 : w6.rangeAt B6 1 [.int .i64 x.a, .int .i64 x.b, .int .i64 2048, .string B] := hXA.p1
  have p10 : w6.rangeAt B6 10 [.int .i64 y.f, .int .i64 y.t, .int .i64 y.tl, .int .i64 6, .int .i64 y.id, .int .i64 0, .bool false, .bool y.dn, .string y.op, .string b] := hXA.p10
  have p25 : w6.rangeAt B6 25 [.int .i64 s.fr, .int .i64 s.dt, .int .i64 s.sq, .int .i64 s.ak, .int .i64 s.fl, .int .i64 s.wi, .int .i64 s.ur, .int .i64 s.o.m, .int .i64 s.o.c, .int .i64 s.o.t, .int .i64 s.o.ec, .bool s.o.sd, .bool s.o.ok, .bool s.o.sp, (.slice a0 s.o.rs.length cap0), .string s.da] := hXA.p25
  clear hXA
  go_wp2_with (first
    | (refine wpList_loadG 23 _ (by rfl) (by rfl) B6 1 (by rfl) _ _ p1 Tryz.underlying23 rfl size23 ?_)
    | (refine wpList_loadG 23 _ (by rfl) (by rfl) BG 0 (by rfl) _ _ hg.range Tryz.underlying23 rfl size23 ?_)
    | (refine wpList_loadG 27 _ (by rfl) (by rfl) B6 10 (by rfl) _ _ p10 Tryz.underlying27 rfl size27 ?_)
    | (refine wpList_loadG 27 _ (by rfl) (by rfl) (w.heap.size + 1) 0 (by rfl) _ _ hA.range Tryz.underlying27 rfl size27 ?_)
    | (refine wpList_loadG 34 _ (by rfl) (by rfl) B6 25 (by rfl) _ _ p25 Tryz.underlying34 rfl size34 ?_)
    | (refine wpList_loadG 34 _ (by rfl) (by rfl) (w.heap.size + 2) 0 (by rfl) _ _ hS.range Tryz.underlying34 rfl size34 ?_))
  refine (same_s s s _ _ w6 hu (hv.later hl) (by omega) (by omega)).mono ?_
  rintro e x1 ⟨rfl, hb⟩
  rw [sameG_refl]
  go_wp2
  go_ret
  exact ⟨rfl, bt hl hb⟩
end Go.Proofs.YtkpdmgoldngdaaaGreatDoor

namespace Go.Proofs.YtkpdmgoldngdaaaGreatDoor
open Go.RowKit
set_option maxRecDepth 100000
set_option linter.unusedVariables false
theorem ps_any (x : FrT) (y : PkT) (s : Sg) (v : Value) (w : World) (hG : OrE w) (hv : Rgs w v s.o.rs) (hn : s.o.rs.length ≤ 17592186044416) (ho : y.op.size ≤ 140737488355328) (HSN : ShNil) (HSF : ShFail 14) (HT : TA) :
    Calls Tryz.prog 6 #[.agg #[.int .i64 x.a, .int .i64 x.b, .int .i64 x.k, .string x.d], .agg #[.int .i64 y.f, .int .i64 y.t, .int .i64 y.tl, .int .i64 y.pr, .int .i64 y.id, .int .i64 y.fg, .bool y.mo, .bool y.dn, .string y.op, .string y.da], .agg #[.int .i64 s.fr, .int .i64 s.dt, .int .i64 s.sq, .int .i64 s.ak, .int .i64 s.fl, .int .i64 s.wi, .int .i64 s.ur, .int .i64 s.o.m, .int .i64 s.o.c, .int .i64 s.o.t, .int .i64 s.o.ec, .bool s.o.sd, .bool s.o.ok, .bool s.o.sp, v, .string s.da]] w fun e w' => e = .returned (.bool true) ∧ Below w.heap.size w w' := by
  rcases Bool.eq_false_or_eq_true (numB y.f && numB y.t) with h | h
  case inr =>
    obtain ⟨B, E, k, HF, -⟩ := frm_all x ⟨y.f, y.t, y.tl, 6, y.id, 0, false, y.dn, y.op, ⟨#[]⟩⟩ ho (Nat.zero_le _)
    exact ps_c x y s v _ B E 1 k w hG hv HT rfl (fun W _ _ => encs_r y.f y.t s v W h) HF
  rcases Bool.eq_false_or_eq_true (mayG s) with hm | hm
  case inr =>
    obtain ⟨B, E, k, HF, -⟩ := frm_all x ⟨y.f, y.t, y.tl, 6, y.id, 0, false, y.dn, y.op, ⟨#[]⟩⟩ ho (Nat.zero_le _)
    exact ps_c x y s v _ B E 80 k w hG hv HT rfl (fun W hv hG => encs_n y.f y.t s v W hv hn hG.1 h hm) HF
  have HS := fun W (hv : Rgs W v s.o.rs) (hG : OrE W) => encs_y y.f y.t s v W hv hG.1 h hm
  have hb : decG y.f y.t (encS y.f y.t s) = .ok s := back_ok hm h
  have hsz : (encS y.f y.t s).size ≤ 1540 := by rw [encS_size]; exact (lenS_bd hm).2
  obtain ⟨b, hbe⟩ : ∃ b, b = encS y.f y.t s := ⟨_, rfl⟩
  rw [← hbe] at HS hb hsz
  clear hbe
  obtain ⟨-, -, -, -, -, -, -, hso, -⟩ := may_all hm
  obtain ⟨B, E, k, HF, hk⟩ := frm_all x (⟨y.f, y.t, y.tl, 6, y.id, 0, false, y.dn, y.op, b⟩ : PkT) ho (by show b.size ≤ _; omega)
  cases k with
  | false => exact ps_k x y s v b B E 0 w hG hv HT rfl HS HF
  | true =>
    obtain ⟨rfl, rfl, hmp, hmb⟩ := hk rfl
    have h1 : y.op.size ≤ 1125899906842624 := by omega
    have h2 : b.size ≤ 1125899906842624 := by omega
    have e20 : IntKind.i64.wrap (20 + (y.op.size : Int)) = 20 + (y.op.size : Int) := by rw [IntKind.wrap_i64]; omega
    have C1 := fun W => Ip.chk_t (dn := y.dn) hmp W h1 h2
    have W1 := fun W => Ip.whl_any y.f y.t y.tl 6 y.id 0 false y.dn y.op b W
    have D1 := fun W (hW : OrE W) => decs_any y.f y.t b W hW.1 (by omega)
    rw [hb] at D1
    have N1 : ∀ W, OrE W → Calls Tryz.prog 14 #[.agg #[.int .i64 y.f, .int .i64 y.t, .int .i64 y.tl, .int .i64 6, .int .i64 y.id, .int .i64 0, .bool false, .bool y.dn, .string y.op, .string b]] W fun e w' => InnP (.ok ⟨4, FrT.zero, ArT.zero, (⟨y.f, y.t, y.tl, 6, y.id, 0, false, y.dn, y.op, b⟩ : PkT), IcT.zero, s⟩) W e w' := fun W hW => inn_7 (⟨y.f, y.t, y.tl, 6, y.id, 0, false, y.dn, y.op, b⟩ : PkT) s W hW C1 W1 e20 ho rfl rfl D1
    have P1 := par_inn x (⟨y.f, y.t, y.tl, 6, y.id, 0, false, y.dn, y.op, b⟩ : PkT) _ hmp hmb HSN HSF N1 (mayO_short hso) (fun q h => by cases h) ho
    exact ps_y x y s v b _ _ 0 w hG hv HT rfl (mayO_short hso) P1 HS HF
end Go.Proofs.YtkpdmgoldngdaaaGreatDoor
