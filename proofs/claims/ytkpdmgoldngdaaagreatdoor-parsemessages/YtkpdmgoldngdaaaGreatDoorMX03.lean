/- the texts Fp, Vs, Vt, in part, merged by program -/
import Derived.Test.YtkpdmgoldngdaaaGreatDoorProg
import Derived.Test.YtkpdmgoldngdaaaGreatDoorRows
import Derived.WalkKit
import Derived.WalkSpells
import Derived.RegionTactic
import Derived.Below
import Derived.Laws.Tables
import Derived.Great.BuildSlice
import Derived.ProofKit
import Derived.OpenShut
import Derived.ShutString
import Derived.ChangeOld
import Derived.Carry
import Derived.SizedLaws
import Derived.Deep.Fields
import Derived.Deep.SlicePairs
import Derived.LaidMore
import Derived.Lib.LaidTab
import Derived.LaidLaws
import Derived.LaidHandle
import Derived.Laws.OwnMore
import Derived.Laws.AppendOwn
import Derived.Laws.AppendOwnNone
import Derived.Deep.LoopGhost
import Derived.Deep.RegionHeld3
import Derived.Deep.QuietTactic
import Derived.BigQuiet
import Derived.WalkSmall
import Derived.Laws.StructEq
import Derived.Shelf.Strings.Repeat
import Derived.Deep.MidRow
import Derived.Deep.Cut
import Derived.Deep.RegionWith
import Derived.LoopN
import Derived.BigRegion
import Derived.Deep.Light
import Derived.Deep.CutRange
import Derived.Test.YtkpdmgoldngdaaaGreatDoorMA01
import Derived.Test.YtkpdmgoldngdaaaGreatDoorMA02
import Derived.Test.YtkpdmgoldngdaaaGreatDoorMA03
import Derived.Test.YtkpdmgoldngdaaaGreatDoorMA04
import Derived.Test.YtkpdmgoldngdaaaGreatDoorMA05
import Derived.Test.YtkpdmgoldngdaaaGreatDoorMA06
import Derived.Test.YtkpdmgoldngdaaaGreatDoorMA07
import Derived.Test.YtkpdmgoldngdaaaGreatDoorMB01
import Derived.Test.YtkpdmgoldngdaaaGreatDoorMB02
import Derived.Test.YtkpdmgoldngdaaaGreatDoorMC01
import Derived.Test.YtkpdmgoldngdaaaGreatDoorMD01
import Derived.Test.YtkpdmgoldngdaaaGreatDoorMD02
import Derived.Test.YtkpdmgoldngdaaaGreatDoorMD03
import Derived.Test.YtkpdmgoldngdaaaGreatDoorMD04
import Derived.Test.YtkpdmgoldngdaaaGreatDoorMD05
import Derived.Test.YtkpdmgoldngdaaaGreatDoorME01
import Derived.Test.YtkpdmgoldngdaaaGreatDoorME02
import Derived.Test.YtkpdmgoldngdaaaGreatDoorMF01
import Derived.Test.YtkpdmgoldngdaaaGreatDoorMG01
import Derived.Test.YtkpdmgoldngdaaaGreatDoorMG02
import Derived.Test.YtkpdmgoldngdaaaGreatDoorMG03
import Derived.Test.YtkpdmgoldngdaaaGreatDoorMG04
import Derived.Test.YtkpdmgoldngdaaaGreatDoorMG05
import Derived.Test.YtkpdmgoldngdaaaGreatDoorMG06
import Derived.Test.YtkpdmgoldngdaaaGreatDoorMH01
import Derived.Test.YtkpdmgoldngdaaaGreatDoorMH02
import Derived.Test.YtkpdmgoldngdaaaGreatDoorMH03
import Derived.Test.YtkpdmgoldngdaaaGreatDoorMH04
import Derived.Test.YtkpdmgoldngdaaaGreatDoorMI01
import Derived.Test.YtkpdmgoldngdaaaGreatDoorMJ01
import Derived.Test.YtkpdmgoldngdaaaGreatDoorMK01
import Derived.Test.YtkpdmgoldngdaaaGreatDoorML01
import Derived.Test.YtkpdmgoldngdaaaGreatDoorMM01
import Derived.Test.YtkpdmgoldngdaaaGreatDoorMN01
import Derived.Test.YtkpdmgoldngdaaaGreatDoorMN02
import Derived.Test.YtkpdmgoldngdaaaGreatDoorMO01
import Derived.Test.YtkpdmgoldngdaaaGreatDoorMO02
import Derived.Test.YtkpdmgoldngdaaaGreatDoorMO03
import Derived.Test.YtkpdmgoldngdaaaGreatDoorMO04
import Derived.Test.YtkpdmgoldngdaaaGreatDoorMP01
import Derived.Test.YtkpdmgoldngdaaaGreatDoorMP02
import Derived.Test.YtkpdmgoldngdaaaGreatDoorMP04
import Derived.Test.YtkpdmgoldngdaaaGreatDoorMQ01
import Derived.Test.YtkpdmgoldngdaaaGreatDoorMQ02
import Derived.Test.YtkpdmgoldngdaaaGreatDoorMQ03
import Derived.Test.YtkpdmgoldngdaaaGreatDoorMR01
import Derived.Test.YtkpdmgoldngdaaaGreatDoorMS01
import Derived.Test.YtkpdmgoldngdaaaGreatDoorMS02
import Derived.Test.YtkpdmgoldngdaaaGreatDoorMT01
import Derived.Test.YtkpdmgoldngdaaaGreatDoorMU01
import Derived.Test.YtkpdmgoldngdaaaGreatDoorMV01
import Derived.Test.YtkpdmgoldngdaaaGreatDoorMW01
import Derived.Test.YtkpdmgoldngdaaaGreatDoorMX01
import Derived.Test.YtkpdmgoldngdaaaGreatDoorMX02
namespace Go.Proofs.YtkpdmgoldngdaaaGreatDoor
open Go.ChangeShapes Go.WideShapes Go.ChangeAt Go.RowKit
open Go.ChangeMaps (open_string)
set_option maxRecDepth 100000
set_option linter.unusedVariables false
theorem cells29 : Tryz.prog.cellsOf 29 = 5 := by kernel_rfl
theorem open29 {H : Type} {enc : TypeId × Value → H} {w : World} {base : Nat} {spare : Nat → Bool} {held : Bool} {r : Reach} {b0 : Nat} {v : Value} {d : DataW H} {p : List MemPlace} (hv : Value.okWide Tryz.prog w r b0 29 v) (h : DataW.Trod enc Tryz.prog w base spare held 29 v d p) :
    ∃ (x : IcT) (parts : List (DataW H)), v = .agg #[.int .i64 x.ty, .int .i64 x.co, .int .i64 x.x, .int .i64 x.y, .string x.da] ∧ d = .agg parts ∧ parts[4]? = some (.lit (.string x.da.data.toList)) := by
  obtain ⟨⟨l⟩, parts, rfl, hdp, hz, hf⟩ := open_fields Tryz.underlying29 (by kernel_rfl) cells29 hv h
  have hz' : l.length = 5 := by simpa using hz
  match l, hz' with
  | [c0, c1, c2, c3, c4], _ =>
    obtain ⟨n0, x0, t0, m0⟩ := hf 0 _ rfl
    obtain ⟨f0, q0, -, -⟩ := DataW.trod_int Tryz.underlying3 t0
    have p0 : c0 = .int .i64 f0 := by simpa using q0
    obtain ⟨n1, x1, t1, m1⟩ := hf 1 _ rfl
    obtain ⟨f1, q1, -, -⟩ := DataW.trod_int Tryz.underlying3 t1
    have p1 : c1 = .int .i64 f1 := by simpa using q1
    obtain ⟨n2, x2, t2, m2⟩ := hf 2 _ rfl
    obtain ⟨f2, q2, -, -⟩ := DataW.trod_int Tryz.underlying3 t2
    have p2 : c2 = .int .i64 f2 := by simpa using q2
    obtain ⟨n3, x3, t3, m3⟩ := hf 3 _ rfl
    obtain ⟨f3, q3, -, -⟩ := DataW.trod_int Tryz.underlying3 t3
    have p3 : c3 = .int .i64 f3 := by simpa using q3
    obtain ⟨n4, x4, t4, m4⟩ := hf 4 _ rfl
    obtain ⟨f4, q4, y4, -⟩ := DataW.trod_string Tryz.underlying9 t4
    have p4 : c4 = .string f4 := by simpa using q4
    subst p0 p1 p2 p3 p4
    exact ⟨⟨f0, f1, f2, f3, f4⟩, parts, rfl, hdp, by rw [m4, y4]⟩
end Go.Proofs.YtkpdmgoldngdaaaGreatDoor

namespace Go.Proofs.YtkpdmgoldngdaaaGreatDoor
open Go.RowKit
set_option maxRecDepth 100000
set_option linter.unusedVariables false

theorem nqs23 (z : Pd) (W : World) : (binOp .neq 23 (.agg #[.int .i64 z.fr.a, .int .i64 z.fr.b, .int .i64 z.fr.k, .string z.fr.d]) (.agg #[.int .i64 z.fr.a, .int .i64 z.fr.b, .int .i64 z.fr.k, .string z.fr.d])).run Tryz.prog W = .ok (.bool false) W := by
  simp [go_sem, Tryz.underlying23]
theorem nqs27 (z : Pd) (W : World) : (binOp .neq 27 (.agg #[.int .i64 z.pk.f, .int .i64 z.pk.t, .int .i64 z.pk.tl, .int .i64 z.pk.pr, .int .i64 z.pk.id, .int .i64 z.pk.fg, .bool z.pk.mo, .bool z.pk.dn, .string z.pk.op, .string z.pk.da]) (.agg #[.int .i64 z.pk.f, .int .i64 z.pk.t, .int .i64 z.pk.tl, .int .i64 z.pk.pr, .int .i64 z.pk.id, .int .i64 z.pk.fg, .bool z.pk.mo, .bool z.pk.dn, .string z.pk.op, .string z.pk.da])).run Tryz.prog W = .ok (.bool false) W := by
  simp [go_sem, Tryz.underlying27]
theorem nqs29 (z : Pd) (W : World) : (binOp .neq 29 (.agg #[.int .i64 z.ic.ty, .int .i64 z.ic.co, .int .i64 z.ic.x, .int .i64 z.ic.y, .string z.ic.da]) (.agg #[.int .i64 z.ic.ty, .int .i64 z.ic.co, .int .i64 z.ic.x, .int .i64 z.ic.y, .string z.ic.da])).run Tryz.prog W = .ok (.bool false) W := by
  simp [go_sem, Tryz.underlying29]
def PdI (x : FrT) (y : PkT) (m : IcT) : Pd := ⟨3, x, ArT.zero, y, m, Sg.zero⟩
def PdA (x : FrT) (a : ArT) : Pd := ⟨1, x, a, PkT.zero, IcT.zero, Sg.zero⟩
set_option maxHeartbeats 8000000 in
theorem pm_w (x : FrT) (y : PkT) (m : IcT) (b B E B2 E2 : ByteArray) (c : Int) (k : Bool) (a : ArT) (c2 c3 c4 : Int) (w : World) (hG : OrE w) (HT : Hid TA)
    (HS : Hid (∀ W, Calls Tryz.prog 22 #[.agg #[.int .i64 m.ty, .int .i64 m.co, .int .i64 m.x, .int .i64 m.y, .string m.da]] W fun e w' => e = .returned (.tuple #[.string b, .int .i64 c]) ∧ Below W.heap.size W w'))
    (HFR : Hid (∀ W, Calls Tryz.prog 20 #[.agg #[.int .i64 x.a, .int .i64 x.b, .int .i64 x.k, .string x.d], .agg #[.int .i64 y.f, .int .i64 y.t, .int .i64 y.tl, .int .i64 1, .int .i64 y.id, .int .i64 0, .bool false, .bool y.dn, .string y.op, .string b]] W fun e w' => e = .returned (.tuple #[.string E, .agg #[.int .i64 x.a, .int .i64 x.b, .int .i64 2048, .string B], .bool k]) ∧ Below W.heap.size W w'))
    (H1 : Hid ((c == 0) = false ∨ ((c == 0) = true ∧ k = false) ∨ ((c == 0) = true ∧ k = true ∧ ∀ W, OrE W → Calls Tryz.prog 9 #[.string E] W fun e w' => ∃ v, e = .returned (.tuple #[.agg ((PdI (⟨x.a, x.b, 2048, B⟩ : FrT) (⟨y.f, y.t, y.tl, 1, y.id, 0, false, y.dn, y.op, b⟩ : PkT) m).v v), .nilIface]) ∧ RgA W.heap.size w' v [] ∧ Below W.heap.size W w')))
    (HK : Hid (∀ W, Calls Tryz.prog 23 #[.int .i64 x.b, .int .i64 m.x, .int .i64 m.y] W fun e w' => e = .returned (.tuple #[.agg #[.int .i64 a.o, .int .i64 a.fm, .int .i64 a.fi, .int .i64 a.tm, .int .i64 a.ti], .int .i64 c2]) ∧ Below W.heap.size W w'))
    (HA : Hid (∀ W, Calls Tryz.prog 24 #[.agg #[.int .i64 a.o, .int .i64 a.fm, .int .i64 a.fi, .int .i64 a.tm, .int .i64 a.ti]] W fun e w' => e = .returned (.tuple #[.string B2, .int .i64 c3]) ∧ Below W.heap.size W w'))
    (HE : Hid (∀ W, Calls Tryz.prog 25 #[.agg #[.int .i64 x.a, .int .i64 x.b, .int .i64 2054, .string B2]] W fun e w' => e = .returned (.tuple #[.string E2, .int .i64 c4]) ∧ Below W.heap.size W w'))
    (H2 : Hid ((c2 != 0) = true ∨ ((c2 != 0) = false ∧ (c3 != 0) = true) ∨ ((c2 != 0) = false ∧ (c3 != 0) = false ∧ (c4 != 0) = true) ∨ ((c2 != 0) = false ∧ (c3 != 0) = false ∧ (c4 != 0) = false ∧ ∀ W, OrE W → Calls Tryz.prog 9 #[.string E2] W fun e w' => ∃ v, e = .returned (.tuple #[.agg ((PdA (⟨x.a, x.b, 2054, B2⟩ : FrT) a).v v), .nilIface]) ∧ RgA W.heap.size w' v [] ∧ Below W.heap.size W w'))) :
    Calls Tryz.prog 7 #[.agg #[.int .i64 x.a, .int .i64 x.b, .int .i64 x.k, .string x.d], .agg #[.int .i64 y.f, .int .i64 y.t, .int .i64 y.tl, .int .i64 y.pr, .int .i64 y.id, .int .i64 y.fg, .bool y.mo, .bool y.dn, .string y.op, .string y.da], .agg #[.int .i64 m.ty, .int .i64 m.co, .int .i64 m.x, .int .i64 m.y, .string m.da]] w fun e w' => e = .returned (.bool true) ∧ Below w.heap.size w w' := by
  have hb1 := bel1 w (.cells #[.int .i64 x.a, .int .i64 x.b, .int .i64 x.k, .string x.d] 23)
  have hb2 := bel1 (w.alloc (.cells #[.int .i64 x.a, .int .i64 x.b, .int .i64 x.k, .string x.d] 23)) (.cells #[.int .i64 y.f, .int .i64 y.t, .int .i64 y.tl, .int .i64 y.pr, .int .i64 y.id, .int .i64 y.fg, .bool y.mo, .bool y.dn, .string y.op, .string y.da] 27)
  have hb3 := bel1 ((w.alloc (.cells #[.int .i64 x.a, .int .i64 x.b, .int .i64 x.k, .string x.d] 23)).alloc (.cells #[.int .i64 y.f, .int .i64 y.t, .int .i64 y.tl, .int .i64 y.pr, .int .i64 y.id, .int .i64 y.fg, .bool y.mo, .bool y.dn, .string y.op, .string y.da] 27)) (.cells #[.int .i64 m.ty, .int .i64 m.co, .int .i64 m.x, .int .i64 m.y, .string m.da] 29)
  have hF := ((At.box w #[.int .i64 x.a, .int .i64 x.b, .int .i64 x.k, .string x.d] 23).later hb2).later hb3
  have hA := (At.box2 w (.cells #[.int .i64 x.a, .int .i64 x.b, .int .i64 x.k, .string x.d] 23) #[.int .i64 y.f, .int .i64 y.t, .int .i64 y.tl, .int .i64 y.pr, .int .i64 y.id, .int .i64 y.fg, .bool y.mo, .bool y.dn, .string y.op, .string y.da] 27).later hb3
  have hI := At.box ((w.alloc (.cells #[.int .i64 x.a, .int .i64 x.b, .int .i64 x.k, .string x.d] 23)).alloc (.cells #[.int .i64 y.f, .int .i64 y.t, .int .i64 y.tl, .int .i64 y.pr, .int .i64 y.id, .int .i64 y.fg, .bool y.mo, .bool y.dn, .string y.op, .string y.da] 27)) #[.int .i64 m.ty, .int .i64 m.co, .int .i64 m.x, .int .i64 m.y, .string m.da] 29
  have hq : ((w.alloc (.cells #[.int .i64 x.a, .int .i64 x.b, .int .i64 x.k, .string x.d] 23)).alloc (.cells #[.int .i64 y.f, .int .i64 y.t, .int .i64 y.tl, .int .i64 y.pr, .int .i64 y.id, .int .i64 y.fg, .bool y.mo, .bool y.dn, .string y.op, .string y.da] 27)).heap.size = w.heap.size + 2 := by
    show ((w.heap.push _).push _).size = _
    rw [Array.size_push, Array.size_push]
  rw [hq] at hI
  have hl := bt (bt hb1 hb2) hb3
  clear hb1 hb2 hb3 hq
  go_enter Tryz.func7, Tryz.ntmps7
  go_upto_region 1 with fail
  generalize hw0 : ((w.alloc (.cells #[.int .i64 x.a, .int .i64 x.b, .int .i64 x.k, .string x.d] 23)).alloc (.cells #[.int .i64 y.f, .int .i64 y.t, .int .i64 y.tl, .int .i64 y.pr, .int .i64 y.id, .int .i64 y.fg, .bool y.mo, .bool y.dn, .string y.op, .string y.da] 27)).alloc (.cells #[.int .i64 m.ty, .int .i64 m.co, .int .i64 m.x, .int .i64 m.y, .string m.da] 29) = w0 at *
  clear hw0
  go_wp2_with fail
  refine (works_p _ (hG.later hl) HT).mono ?_
  rintro e w1 ⟨rfl, hb⟩
  replace hl := bt hl hb
  replace hF := hF.later hb
  replace hA := hA.later hb
  replace hI := hI.later hb
  clear hb
  go_wp2_with (refine wpList_loadG 29 _ (by rfl) (by rfl) (w.heap.size + 2) 0 (by rfl) _ _ hI.range Tryz.underlying29 rfl size29 ?_)
  refine (HS.out _).mono ?_
  rintro e w2 ⟨rfl, hb⟩
  replace hl := bt hl hb
  replace hF := hF.later hb
  replace hA := hA.later hb
  replace hI := hI.later hb
  clear hb HS
  have c3 := (hA.2 3 _ rfl).1
  have z3 := (hA.2 3 _ rfl).2
  have c5 := (hA.2 5 _ rfl).1
  have z5 := (hA.2 5 _ rfl).2
  have c6 := (hA.2 6 _ rfl).1
  have z6 := (hA.2 6 _ rfl).2
  have c9 := (hA.2 9 _ rfl).1
  have z9 := (hA.2 9 _ rfl).2
  go_upto_region 5 with fail
  replace hA := (((hA.set 3 (.int .i64 1)).set 9 (.string b)).set 5 (.int .i64 0)).set 6 (.bool false)
  replace hF := (((hF.keep (b := w.heap.size + 1) (by omega) 3 (.int .i64 1)).keep (b := w.heap.size + 1) (by omega) 9 (.string b)).keep (b := w.heap.size + 1) (by omega) 5 (.int .i64 0)).keep (b := w.heap.size + 1) (by omega) 6 (.bool false)
  replace hI := (((hI.keep (b := w.heap.size + 1) (by omega) 3 (.int .i64 1)).keep (b := w.heap.size + 1) (by omega) 9 (.string b)).keep (b := w.heap.size + 1) (by omega) 5 (.int .i64 0)).keep (b := w.heap.size + 1) (by omega) 6 (.bool false)
  replace hl := (((hl.setCell (p := ⟨w.heap.size + 1, 3, none⟩) (Nat.le_succ _) (.int .i64 1)).setCell (p := ⟨w.heap.size + 1, 9, none⟩) (Nat.le_succ _) (.string b)).setCell (p := ⟨w.heap.size + 1, 5, none⟩) (Nat.le_succ _) (.int .i64 0)).setCell (p := ⟨w.heap.size + 1, 6, none⟩) (Nat.le_succ _) (.bool false)
  replace hA : At _ (w.heap.size + 1) #[.int .i64 y.f, .int .i64 y.t, .int .i64 y.tl, .int .i64 1, .int .i64 y.id, .int .i64 0, .bool false, .bool y.dn, .string y.op, .string b] := hA
  generalize hw3 : (((w2.setCell ⟨w.heap.size + 1, 3, none⟩ (.int .i64 1)).setCell ⟨w.heap.size + 1, 9, none⟩ (.string b)).setCell ⟨w.heap.size + 1, 5, none⟩ (.int .i64 0)).setCell ⟨w.heap.size + 1, 6, none⟩ (.bool false) = w3 at *
  clear hw3 c3 c5 c6 c9 z3 z5 z6 z9
  go_cut [9, 10, 11] from 21 (fun q g n W => ∃ BG : Nat, q = .string E ∧ g = .pointer (some ⟨BG, 0, none⟩) ∧ n = .bool k ∧ At W BG #[.int .i64 x.a, .int .i64 x.b, .int .i64 2048, .string B] ∧ Below w3.heap.size w3 W)
  case first =>
    go_wp2_with (first | (refine wpList_loadG 23 _ (by rfl) (by rfl) (w.heap.size) 0 (by rfl) _ _ hF.range Tryz.underlying23 rfl size23 ?_) | (refine wpList_loadG 27 _ (by rfl) (by rfl) (w.heap.size + 1) 0 (by rfl) _ _ hA.range Tryz.underlying27 rfl size27 ?_))
    refine (HFR.out _).mono ?_
    rintro e w5 ⟨rfl, hb⟩
    go_wp2
    go_meet
    case rel => exact ⟨w5.heap.size, rfl, rfl, rfl, At.box w5 #[.int .i64 x.a, .int .i64 x.b, .int .i64 2048, .string B] 23, bt hb (bel1 w5 (.cells #[.int .i64 x.a, .int .i64 x.b, .int .i64 2048, .string B] 23))⟩
  case rest =>
  obtain ⟨BG, rfl, rfl, rfl, hg, hb⟩ := hcut
  replace hl := bt hl hb
  replace hA := hA.later hb
  replace hI := hI.later hb
  replace hF := hF.later hb
  clear hb HFR
  obtain ⟨w4, hw4⟩ : ∃ x, x = wc := ⟨wc, rfl⟩
  subst hw4
  go_upto_region 6 with fail
  go_cut [44] from 21 (fun q W => W = w4 ∧ q = .bool ((c == 0) && k))
  case first =>
    rcases Bool.eq_false_or_eq_true (c == 0) with h0 | h0
    · go_wp2
      go_meet
      case rel => exact ⟨rfl, by rw [h0]; rfl⟩
    · go_wp2
      go_meet
      case rel => exact ⟨rfl, by rw [h0]; rfl⟩
  case rest =>
  obtain ⟨rfl, hq44⟩ := hcut
  obtain ⟨w4, hw4⟩ : ∃ x, x = wc := ⟨wc, rfl⟩
  subst hw4
  obtain ⟨bb, hbb⟩ : ∃ bb, bb = ((c == 0) && k) := ⟨_, rfl⟩
  have HBB : Hid (bb = ((c == 0) && k)) := hbb
  rw [← hbb] at hq44
  clear hbb
  subst hq44
  go_upto_if 44 with fail
  go_cut [12, 13] from 21 (fun q h9 W => Below w4.heap.size w4 W)
  case first =>
    rcases H1.out with h0 | ⟨h0, rfl⟩ | ⟨h0, rfl, hP⟩
    all_goals have hbb := HBB.out
    all_goals rw [h0] at hbb
    all_goals clear HBB
    all_goals replace hbb : bb = _ := hbb
    all_goals simp only [Bool.false_and, Bool.and_false, Bool.and_self] at hbb
    all_goals subst hbb
    · go_wp2
      go_meet
      case rel => exact Below.refl _ _
    · go_wp2
      go_meet
      case rel => exact Below.refl _ _
    · have q1 : ∀ W, (binOp .neq 23 (.agg #[.int .i64 x.a, .int .i64 x.b, .int .i64 2048, .string B]) (.agg #[.int .i64 x.a, .int .i64 x.b, .int .i64 2048, .string B])).run Tryz.prog W = .ok (.bool false) W := nqs23 (PdI (⟨x.a, x.b, 2048, B⟩ : FrT) (⟨y.f, y.t, y.tl, 1, y.id, 0, false, y.dn, y.op, b⟩ : PkT) m)
      have q3 : ∀ W, (binOp .neq 27 (.agg #[.int .i64 y.f, .int .i64 y.t, .int .i64 y.tl, .int .i64 1, .int .i64 y.id, .int .i64 0, .bool false, .bool y.dn, .string y.op, .string b]) (.agg #[.int .i64 y.f, .int .i64 y.t, .int .i64 y.tl, .int .i64 1, .int .i64 y.id, .int .i64 0, .bool false, .bool y.dn, .string y.op, .string b])).run Tryz.prog W = .ok (.bool false) W := nqs27 (PdI (⟨x.a, x.b, 2048, B⟩ : FrT) (⟨y.f, y.t, y.tl, 1, y.id, 0, false, y.dn, y.op, b⟩ : PkT) m)
      have q4 : ∀ W, (binOp .neq 29 (.agg #[.int .i64 m.ty, .int .i64 m.co, .int .i64 m.x, .int .i64 m.y, .string m.da]) (.agg #[.int .i64 m.ty, .int .i64 m.co, .int .i64 m.x, .int .i64 m.y, .string m.da])).run Tryz.prog W = .ok (.bool false) W := nqs29 (PdI (⟨x.a, x.b, 2048, B⟩ : FrT) (⟨y.f, y.t, y.tl, 1, y.id, 0, false, y.dn, y.op, b⟩ : PkT) m)
      go_upto_region 7 with fail
      go_cut [12, 13] from 21 (fun q h9 W => ∃ (B6 : Nat) (a0 : Option Addr) (cap0 : Nat), q = .pointer (some ⟨B6, 0, none⟩) ∧ h9 = .nilIface ∧ Below w4.heap.size w4 W ∧ At W B6 ((PdI (⟨x.a, x.b, 2048, B⟩ : FrT) (⟨y.f, y.t, y.tl, 1, y.id, 0, false, y.dn, y.op, b⟩ : PkT) m).v (.slice a0 0 cap0)))
      case first =>
        go_wp2_with fail
        refine (hP _ (hG.later hl)).mono ?_
        rintro e w5 ⟨u, rfl, hu, hb⟩
        obtain ⟨a0, cap0, hve, -⟩ := id hu
        replace hve : u = .slice a0 0 cap0 := hve
        subst hve
        have hX0 : At (w5.alloc (.cells #[.int .i64 0, .int .i64 0, .int .i64 0, .int .i64 0, .string ⟨#[]⟩, .int .i64 0, .int .i64 0, .int .i64 0, .int .i64 0, .int .i64 0, .int .i64 0, .int .i64 0, .int .i64 0, .int .i64 0, .int .i64 0, .int .i64 0, .bool false, .bool false, .string ⟨#[]⟩, .string ⟨#[]⟩, .int .i64 0, .int .i64 0, .int .i64 0, .int .i64 0, .string ⟨#[]⟩, .int .i64 0, .int .i64 0, .int .i64 0, .int .i64 0, .int .i64 0, .int .i64 0, .int .i64 0, .int .i64 0, .int .i64 0, .int .i64 0, .int .i64 0, .bool false, .bool false, .bool false, .slice none 0 0, .string ⟨#[]⟩] 36)) w5.heap.size PZ := At.box w5 #[.int .i64 0, .int .i64 0, .int .i64 0, .int .i64 0, .string ⟨#[]⟩, .int .i64 0, .int .i64 0, .int .i64 0, .int .i64 0, .int .i64 0, .int .i64 0, .int .i64 0, .int .i64 0, .int .i64 0, .int .i64 0, .int .i64 0, .bool false, .bool false, .string ⟨#[]⟩, .string ⟨#[]⟩, .int .i64 0, .int .i64 0, .int .i64 0, .int .i64 0, .string ⟨#[]⟩, .int .i64 0, .int .i64 0, .int .i64 0, .int .i64 0, .int .i64 0, .int .i64 0, .int .i64 0, .int .i64 0, .int .i64 0, .int .i64 0, .int .i64 0, .bool false, .bool false, .bool false, .slice none 0 0, .string ⟨#[]⟩] 36
        have hbx : Below w5.heap.size w5 ((w5.alloc (.cells #[.int .i64 0, .int .i64 0, .int .i64 0, .int .i64 0, .string ⟨#[]⟩, .int .i64 0, .int .i64 0, .int .i64 0, .int .i64 0, .int .i64 0, .int .i64 0, .int .i64 0, .int .i64 0, .int .i64 0, .int .i64 0, .int .i64 0, .bool false, .bool false, .string ⟨#[]⟩, .string ⟨#[]⟩, .int .i64 0, .int .i64 0, .int .i64 0, .int .i64 0, .string ⟨#[]⟩, .int .i64 0, .int .i64 0, .int .i64 0, .int .i64 0, .int .i64 0, .int .i64 0, .int .i64 0, .int .i64 0, .int .i64 0, .int .i64 0, .int .i64 0, .bool false, .bool false, .bool false, .slice none 0 0, .string ⟨#[]⟩] 36)).setCells w5.heap.size 0 ((PdI (⟨x.a, x.b, 2048, B⟩ : FrT) (⟨y.f, y.t, y.tl, 1, y.id, 0, false, y.dn, y.op, b⟩ : PkT) m).v (.slice a0 0 cap0)).toList) := Below.setCells (Nat.le_refl _) _ _ _ (bel1 w5 (.cells #[.int .i64 0, .int .i64 0, .int .i64 0, .int .i64 0, .string ⟨#[]⟩, .int .i64 0, .int .i64 0, .int .i64 0, .int .i64 0, .int .i64 0, .int .i64 0, .int .i64 0, .int .i64 0, .int .i64 0, .int .i64 0, .int .i64 0, .bool false, .bool false, .string ⟨#[]⟩, .string ⟨#[]⟩, .int .i64 0, .int .i64 0, .int .i64 0, .int .i64 0, .string ⟨#[]⟩, .int .i64 0, .int .i64 0, .int .i64 0, .int .i64 0, .int .i64 0, .int .i64 0, .int .i64 0, .int .i64 0, .int .i64 0, .int .i64 0, .int .i64 0, .bool false, .bool false, .bool false, .slice none 0 0, .string ⟨#[]⟩] 36))
        have hX : At ((w5.alloc (.cells #[.int .i64 0, .int .i64 0, .int .i64 0, .int .i64 0, .string ⟨#[]⟩, .int .i64 0, .int .i64 0, .int .i64 0, .int .i64 0, .int .i64 0, .int .i64 0, .int .i64 0, .int .i64 0, .int .i64 0, .int .i64 0, .int .i64 0, .bool false, .bool false, .string ⟨#[]⟩, .string ⟨#[]⟩, .int .i64 0, .int .i64 0, .int .i64 0, .int .i64 0, .string ⟨#[]⟩, .int .i64 0, .int .i64 0, .int .i64 0, .int .i64 0, .int .i64 0, .int .i64 0, .int .i64 0, .int .i64 0, .int .i64 0, .int .i64 0, .int .i64 0, .bool false, .bool false, .bool false, .slice none 0 0, .string ⟨#[]⟩] 36)).setCells w5.heap.size 0 ((PdI (⟨x.a, x.b, 2048, B⟩ : FrT) (⟨y.f, y.t, y.tl, 1, y.id, 0, false, y.dn, y.op, b⟩ : PkT) m).v (.slice a0 0 cap0)).toList) w5.heap.size ((PdI (⟨x.a, x.b, 2048, B⟩ : FrT) (⟨y.f, y.t, y.tl, 1, y.id, 0, false, y.dn, y.op, b⟩ : PkT) m).v (.slice a0 0 cap0)) := At.whole (vs := (PdI (⟨x.a, x.b, 2048, B⟩ : FrT) (⟨y.f, y.t, y.tl, 1, y.id, 0, false, y.dn, y.op, b⟩ : PkT) m).v (.slice a0 0 cap0)) hX0 rfl
        go_wp2_with (refine wpList_store_mid (by rfl) 36 _ _ (by rfl) (w5.heap.size) 0 ((PdI (⟨x.a, x.b, 2048, B⟩ : FrT) (⟨y.f, y.t, y.tl, 1, y.id, 0, false, y.dn, y.op, b⟩ : PkT) m).v (.slice a0 0 cap0)) (by rfl) (by rfl) hX0.there size36 (Pd.one _ rfl) ?_)
        go_wp2
        go_meet
        case rel => exact ⟨w5.heap.size, a0, cap0, rfl, rfl, bt hb hbx, hX⟩
      case rest =>
      obtain ⟨B6, a0, cap0, rfl, rfl, hb, hXA⟩ := hcut
      replace hA := hA.later hb
      replace hI := hI.later hb
      replace hg := hg.later hb
      obtain ⟨w6, hw6⟩ : ∃ x, x = wc := ⟨wc, rfl⟩
      subst hw6
      have ca : w6.cell? ⟨B6, 0, none⟩ = some (.int .i64 3) := (hXA.2 0 (.int .i64 3) rfl).1
      have p1 : w6.rangeAt B6 1 [.int .i64 x.a, .int .i64 x.b, .int .i64 2048, .string B] := hXA.p1
      have p10 : w6.rangeAt B6 10 [.int .i64 y.f, .int .i64 y.t, .int .i64 y.tl, .int .i64 1, .int .i64 y.id, .int .i64 0, .bool false, .bool y.dn, .string y.op, .string b] := hXA.p10
      have p20 : w6.rangeAt B6 20 [.int .i64 m.ty, .int .i64 m.co, .int .i64 m.x, .int .i64 m.y, .string m.da] := hXA.p20
      clear hXA
      go_wp2_with (first
        | (refine wpList_loadG 23 _ (by rfl) (by rfl) B6 1 (by rfl) _ _ p1 Tryz.underlying23 rfl size23 ?_)
        | (refine wpList_loadG 23 _ (by rfl) (by rfl) BG 0 (by rfl) _ _ hg.range Tryz.underlying23 rfl size23 ?_)
        | (refine wpList_loadG 27 _ (by rfl) (by rfl) B6 10 (by rfl) _ _ p10 Tryz.underlying27 rfl size27 ?_)
        | (refine wpList_loadG 27 _ (by rfl) (by rfl) (w.heap.size + 1) 0 (by rfl) _ _ hA.range Tryz.underlying27 rfl size27 ?_)
        | (refine wpList_loadG 29 _ (by rfl) (by rfl) B6 20 (by rfl) _ _ p20 Tryz.underlying29 rfl size29 ?_)
        | (refine wpList_loadG 29 _ (by rfl) (by rfl) (w.heap.size + 2) 0 (by rfl) _ _ hI.range Tryz.underlying29 rfl size29 ?_))
      go_meet
      case rel => exact hb
  case rest =>
  have hb := hcut
  clear hcut
  replace hl := bt hl hb
  replace hI := hI.later hb
  replace hF := hF.later hb
  clear hb hA hg H1
  obtain ⟨w7, hw7⟩ : ∃ x, x = wc := ⟨wc, rfl⟩
  subst hw7
  have f1 := (hF.2 1 _ rfl).1
  have i2 := (hI.2 2 _ rfl).1
  have i3 := (hI.2 3 _ rfl).1
  go_upto_region 10 with fail
  go_cut [14, 8] from 21 (fun q n W => ∃ BA : Nat, q = .pointer (some ⟨BA, 0, none⟩) ∧ n = .int .i64 c2 ∧ At W BA #[.int .i64 a.o, .int .i64 a.fm, .int .i64 a.fi, .int .i64 a.tm, .int .i64 a.ti] ∧ Below w7.heap.size w7 W ∧ w7.heap.size ≤ BA)
  case first =>
    go_wp2_with fail
    refine (HK.out _).mono ?_
    rintro e w5 ⟨rfl, hb⟩
    go_wp2
    go_meet
    case rel => exact ⟨w5.heap.size, rfl, rfl, At.box w5 #[.int .i64 a.o, .int .i64 a.fm, .int .i64 a.fi, .int .i64 a.tm, .int .i64 a.ti] 25, bt hb (bel1 w5 (.cells #[.int .i64 a.o, .int .i64 a.fm, .int .i64 a.fi, .int .i64 a.tm, .int .i64 a.ti] 25)), hb.size⟩
  case rest =>
  obtain ⟨BA, rfl, rfl, hB, hb, hle⟩ := hcut
  have hne : BA ≠ w.heap.size := Nat.ne_of_gt (Nat.lt_of_lt_of_le hF.1 hle)
  replace hl := bt hl hb
  replace hF := hF.later hb
  clear hb hI f1 i2 i3 HK
  obtain ⟨w8, hw8⟩ : ∃ x, x = wc := ⟨wc, rfl⟩
  subst hw8
  go_wp2_with (refine wpList_loadG 25 _ (by rfl) (by rfl) BA 0 (by rfl) _ _ hB.range Tryz.underlying25 rfl size25 ?_)
  refine (HA.out _).mono ?_
  rintro e w9 ⟨rfl, hb⟩
  replace hl := bt hl hb
  replace hF := hF.later hb
  replace hB := hB.later hb
  clear hb HA
  have d2 := (hF.2 2 _ rfl).1
  have d3 := (hF.2 3 _ rfl).1
  have z2 := (hF.2 2 _ rfl).2
  have z3 := (hF.2 3 _ rfl).2
  go_upto_region 13 with fail
  replace hF := (hF.set 2 (.int .i64 2054)).set 3 (.string B2)
  replace hB := (hB.keep (b := w.heap.size) (Ne.symm hne) 2 (.int .i64 2054)).keep (b := w.heap.size) (Ne.symm hne) 3 (.string B2)
  replace hl := (hl.setCell (p := ⟨w.heap.size, 2, none⟩) (Nat.le_refl _) (.int .i64 2054)).setCell (p := ⟨w.heap.size, 3, none⟩) (Nat.le_refl _) (.string B2)
  replace hF : At _ w.heap.size #[.int .i64 x.a, .int .i64 x.b, .int .i64 2054, .string B2] := hF
  generalize hwa : (w9.setCell ⟨w.heap.size, 2, none⟩ (.int .i64 2054)).setCell ⟨w.heap.size, 3, none⟩ (.string B2) = wa at *
  clear hwa d2 d3 z2 z3 hne
  go_wp2_with (refine wpList_loadG 23 _ (by rfl) (by rfl) (w.heap.size) 0 (by rfl) _ _ hF.range Tryz.underlying23 rfl size23 ?_)
  refine (HE.out _).mono ?_
  rintro e wb ⟨rfl, hb⟩
  replace hl := bt hl hb
  replace hF := hF.later hb
  replace hB := hB.later hb
  clear hb HE
  rcases H2.out with h2 | ⟨h2, h3⟩ | ⟨h2, h3, h4⟩ | ⟨h2, h3, h4, hP⟩
  · go_wp2
    go_ret
    exact ⟨rfl, hl⟩
  · go_wp2
    go_ret
    exact ⟨rfl, hl⟩
  · go_wp2
    go_ret
    exact ⟨rfl, hl⟩
  · have q1 : ∀ W, (binOp .eql 23 (.agg #[.int .i64 x.a, .int .i64 x.b, .int .i64 2054, .string B2]) (.agg #[.int .i64 x.a, .int .i64 x.b, .int .i64 2054, .string B2])).run Tryz.prog W = .ok (.bool true) W := eqs23 (PdA (⟨x.a, x.b, 2054, B2⟩ : FrT) a)
    have q3 : ∀ W, (binOp .eql 25 (.agg #[.int .i64 a.o, .int .i64 a.fm, .int .i64 a.fi, .int .i64 a.tm, .int .i64 a.ti]) (.agg #[.int .i64 a.o, .int .i64 a.fm, .int .i64 a.fi, .int .i64 a.tm, .int .i64 a.ti])).run Tryz.prog W = .ok (.bool true) W := eqs25 (PdA (⟨x.a, x.b, 2054, B2⟩ : FrT) a)
    go_upto_region 16 with fail
    go_cut [19, 20] from 21 (fun q h9 W => ∃ (B6 : Nat) (a0 : Option Addr) (cap0 : Nat), q = .pointer (some ⟨B6, 0, none⟩) ∧ h9 = .nilIface ∧ Below wb.heap.size wb W ∧ At W B6 ((PdA (⟨x.a, x.b, 2054, B2⟩ : FrT) a).v (.slice a0 0 cap0)))
    case first =>
      go_wp2_with fail
      refine (hP _ (hG.later hl)).mono ?_
      rintro e w5 ⟨u, rfl, hu, hb⟩
      obtain ⟨a0, cap0, hve, -⟩ := id hu
      replace hve : u = .slice a0 0 cap0 := hve
      subst hve
      have hX0 : At (w5.alloc (.cells #[.int .i64 0, .int .i64 0, .int .i64 0, .int .i64 0, .string ⟨#[]⟩, .int .i64 0, .int .i64 0, .int .i64 0, .int .i64 0, .int .i64 0, .int .i64 0, .int .i64 0, .int .i64 0, .int .i64 0, .int .i64 0, .int .i64 0, .bool false, .bool false, .string ⟨#[]⟩, .string ⟨#[]⟩, .int .i64 0, .int .i64 0, .int .i64 0, .int .i64 0, .string ⟨#[]⟩, .int .i64 0, .int .i64 0, .int .i64 0, .int .i64 0, .int .i64 0, .int .i64 0, .int .i64 0, .int .i64 0, .int .i64 0, .int .i64 0, .int .i64 0, .bool false, .bool false, .bool false, .slice none 0 0, .string ⟨#[]⟩] 36)) w5.heap.size PZ := At.box w5 #[.int .i64 0, .int .i64 0, .int .i64 0, .int .i64 0, .string ⟨#[]⟩, .int .i64 0, .int .i64 0, .int .i64 0, .int .i64 0, .int .i64 0, .int .i64 0, .int .i64 0, .int .i64 0, .int .i64 0, .int .i64 0, .int .i64 0, .bool false, .bool false, .string ⟨#[]⟩, .string ⟨#[]⟩, .int .i64 0, .int .i64 0, .int .i64 0, .int .i64 0, .string ⟨#[]⟩, .int .i64 0, .int .i64 0, .int .i64 0, .int .i64 0, .int .i64 0, .int .i64 0, .int .i64 0, .int .i64 0, .int .i64 0, .int .i64 0, .int .i64 0, .bool false, .bool false, .bool false, .slice none 0 0, .string ⟨#[]⟩] 36
      have hbx : Below w5.heap.size w5 ((w5.alloc (.cells #[.int .i64 0, .int .i64 0, .int .i64 0, .int .i64 0, .string ⟨#[]⟩, .int .i64 0, .int .i64 0, .int .i64 0, .int .i64 0, .int .i64 0, .int .i64 0, .int .i64 0, .int .i64 0, .int .i64 0, .int .i64 0, .int .i64 0, .bool false, .bool false, .string ⟨#[]⟩, .string ⟨#[]⟩, .int .i64 0, .int .i64 0, .int .i64 0, .int .i64 0, .string ⟨#[]⟩, .int .i64 0, .int .i64 0, .int .i64 0, .int .i64 0, .int .i64 0, .int .i64 0, .int .i64 0, .int .i64 0, .int .i64 0, .int .i64 0, .int .i64 0, .bool false, .bool false, .bool false, .slice none 0 0, .string ⟨#[]⟩] 36)).setCells w5.heap.size 0 ((PdA (⟨x.a, x.b, 2054, B2⟩ : FrT) a).v (.slice a0 0 cap0)).toList) := Below.setCells (Nat.le_refl _) _ _ _ (bel1 w5 (.cells #[.int .i64 0, .int .i64 0, .int .i64 0, .int .i64 0, .string ⟨#[]⟩, .int .i64 0, .int .i64 0, .int .i64 0, .int .i64 0, .int .i64 0, .int .i64 0, .int .i64 0, .int .i64 0, .int .i64 0, .int .i64 0, .int .i64 0, .bool false, .bool false, .string ⟨#[]⟩, .string ⟨#[]⟩, .int .i64 0, .int .i64 0, .int .i64 0, .int .i64 0, .string ⟨#[]⟩, .int .i64 0, .int .i64 0, .int .i64 0, .int .i64 0, .int .i64 0, .int .i64 0, .int .i64 0, .int .i64 0, .int .i64 0, .int .i64 0, .int .i64 0, .bool false, .bool false, .bool false, .slice none 0 0, .string ⟨#[]⟩] 36))
      have hX : At ((w5.alloc (.cells #[.int .i64 0, .int .i64 0, .int .i64 0, .int .i64 0, .string ⟨#[]⟩, .int .i64 0, .int .i64 0, .int .i64 0, .int .i64 0, .int .i64 0, .int .i64 0, .int .i64 0, .int .i64 0, .int .i64 0, .int .i64 0, .int .i64 0, .bool false, .bool false, .string ⟨#[]⟩, .string ⟨#[]⟩, .int .i64 0, .int .i64 0, .int .i64 0, .int .i64 0, .string ⟨#[]⟩, .int .i64 0, .int .i64 0, .int .i64 0, .int .i64 0, .int .i64 0, .int .i64 0, .int .i64 0, .int .i64 0, .int .i64 0, .int .i64 0, .int .i64 0, .bool false, .bool false, .bool false, .slice none 0 0, .string ⟨#[]⟩] 36)).setCells w5.heap.size 0 ((PdA (⟨x.a, x.b, 2054, B2⟩ : FrT) a).v (.slice a0 0 cap0)).toList) w5.heap.size ((PdA (⟨x.a, x.b, 2054, B2⟩ : FrT) a).v (.slice a0 0 cap0)) := At.whole (vs := (PdA (⟨x.a, x.b, 2054, B2⟩ : FrT) a).v (.slice a0 0 cap0)) hX0 rfl
      go_wp2_with (refine wpList_store_mid (by rfl) 36 _ _ (by rfl) (w5.heap.size) 0 ((PdA (⟨x.a, x.b, 2054, B2⟩ : FrT) a).v (.slice a0 0 cap0)) (by rfl) (by rfl) hX0.there size36 (Pd.one _ rfl) ?_)
      go_wp2
      go_meet
      case rel => exact ⟨w5.heap.size, a0, cap0, rfl, rfl, bt hb hbx, hX⟩
    case rest =>
    obtain ⟨B6, a0, cap0, rfl, rfl, hb, hXA⟩ := hcut
    replace hl := bt hl hb
    replace hF := hF.later hb
    replace hB := hB.later hb
    obtain ⟨w6, hw6⟩ : ∃ x, x = wc := ⟨wc, rfl⟩
    subst hw6
    have ca : w6.cell? ⟨B6, 0, none⟩ = some (.int .i64 1) := (hXA.2 0 (.int .i64 1) rfl).1
    have p1 : w6.rangeAt B6 1 [.int .i64 x.a, .int .i64 x.b, .int .i64 2054, .string B2] := hXA.p1
    have p5 : w6.rangeAt B6 5 [.int .i64 a.o, .int .i64 a.fm, .int .i64 a.fi, .int .i64 a.tm, .int .i64 a.ti] := hXA.p5
    clear hXA
    go_wp2_with (first
      | (refine wpList_loadG 23 _ (by rfl) (by rfl) B6 1 (by rfl) _ _ p1 Tryz.underlying23 rfl size23 ?_)
      | (refine wpList_loadG 23 _ (by rfl) (by rfl) (w.heap.size) 0 (by rfl) _ _ hF.range Tryz.underlying23 rfl size23 ?_)
      | (refine wpList_loadG 25 _ (by rfl) (by rfl) B6 5 (by rfl) _ _ p5 Tryz.underlying25 rfl size25 ?_)
      | (refine wpList_loadG 25 _ (by rfl) (by rfl) BA 0 (by rfl) _ _ hB.range Tryz.underlying25 rfl size25 ?_))
    go_ret
    exact ⟨rfl, hl⟩
end Go.Proofs.YtkpdmgoldngdaaaGreatDoor

namespace Go.Proofs.YtkpdmgoldngdaaaGreatDoor
open Go.RowKit
set_option maxRecDepth 100000
set_option linter.unusedVariables false

theorem pm_1 (x : FrT) (y : PkT) (m : IcT) (ho : y.op.size ≤ 140737488355328) (hd : m.da.size ≤ 140737488351232) (HSN : ShNil) (HSF : ShFail 14) : ∃ (b B E : ByteArray) (c : Int) (k : Bool),
    (∀ W, Calls Tryz.prog 22 #[.agg #[.int .i64 m.ty, .int .i64 m.co, .int .i64 m.x, .int .i64 m.y, .string m.da]] W fun e w' => e = .returned (.tuple #[.string b, .int .i64 c]) ∧ Below W.heap.size W w') ∧
    (∀ W, Calls Tryz.prog 20 #[.agg #[.int .i64 x.a, .int .i64 x.b, .int .i64 x.k, .string x.d], .agg #[.int .i64 y.f, .int .i64 y.t, .int .i64 y.tl, .int .i64 1, .int .i64 y.id, .int .i64 0, .bool false, .bool y.dn, .string y.op, .string b]] W fun e w' => e = .returned (.tuple #[.string E, .agg #[.int .i64 x.a, .int .i64 x.b, .int .i64 2048, .string B], .bool k]) ∧ Below W.heap.size W w') ∧
    ((c == 0) = false ∨ ((c == 0) = true ∧ k = false) ∨ ((c == 0) = true ∧ k = true ∧ ∀ W, OrE W → Calls Tryz.prog 9 #[.string E] W fun e w' => ∃ v, e = .returned (.tuple #[.agg ((PdI (⟨x.a, x.b, 2048, B⟩ : FrT) (⟨y.f, y.t, y.tl, 1, y.id, 0, false, y.dn, y.op, b⟩ : PkT) m).v v), .nilIface]) ∧ RgA W.heap.size w' v [] ∧ Below W.heap.size W w')) := by
  rcases Bool.eq_false_or_eq_true (Ip.mayI m.ty m.co m.x m.y m.da.size) with hm | hm
  case inr =>
    obtain ⟨B, E, k, HF, -⟩ := frm_all x ⟨y.f, y.t, y.tl, 1, y.id, 0, false, y.dn, y.op, ⟨#[]⟩⟩ ho (Nat.zero_le _)
    exact ⟨⟨#[]⟩, B, E, 60, k, fun W => Ip.ienc_n hm W (by omega), HF, .inl rfl⟩
  have HS := fun W => Ip.ienc_y hm W
  have hwh := Ip.encI_whole m.ty m.co m.x m.y m.da
  obtain ⟨g1, g2, g3, g4, g5⟩ := Ip.encI_back hm
  have hsz : (Ip.encI m.ty m.co m.x m.y m.da).size = 8 + m.da.size := Ip.encI_size _ _ _ _ _
  obtain ⟨b, hbe⟩ : ∃ b, b = Ip.encI m.ty m.co m.x m.y m.da := ⟨_, rfl⟩
  rw [← hbe] at HS hwh g1 g2 g3 g4 g5 hsz
  clear hbe
  have h9 : (b.size : Int) ≤ 65508 := by
      have := (Ip.mayI_q hm)
      unfold Ip.mayJ at this
      omega
  obtain ⟨B, E, k, HF, hk⟩ := frm_all x (⟨y.f, y.t, y.tl, 1, y.id, 0, false, y.dn, y.op, b⟩ : PkT) ho (by show b.size ≤ _; omega)
  cases k with
  | false => exact ⟨b, B, E, 0, false, HS, HF, .inr (.inl ⟨rfl, rfl⟩)⟩
  | true =>
    obtain ⟨rfl, rfl, hmp, hmb⟩ := hk rfl
    have h1 : y.op.size ≤ 1125899906842624 := by omega
    have h2 : b.size ≤ 1125899906842624 := by omega
    have e20 : IntKind.i64.wrap (20 + (y.op.size : Int)) = 20 + (y.op.size : Int) := by rw [IntKind.wrap_i64]; omega
    have C1 := fun W => Ip.chk_t (dn := y.dn) hmp W h1 h2
    have W1 := fun W => Ip.whl_any y.f y.t y.tl 1 y.id 0 false y.dn y.op b W
    have D1 := fun W => Ip.idec_3 (s := b) (by omega) h9 hwh W
    rw [g1, g2, g3, g4, g5] at D1
    have N1 : ∀ W, OrE W → Calls Tryz.prog 14 #[.agg #[.int .i64 y.f, .int .i64 y.t, .int .i64 y.tl, .int .i64 1, .int .i64 y.id, .int .i64 0, .bool false, .bool y.dn, .string y.op, .string b]] W fun e w' => InnP (.ok ⟨3, FrT.zero, ArT.zero, (⟨y.f, y.t, y.tl, 1, y.id, 0, false, y.dn, y.op, b⟩ : PkT), m, Sg.zero⟩) W e w' := fun W hW => inn_4 (⟨y.f, y.t, y.tl, 1, y.id, 0, false, y.dn, y.op, b⟩ : PkT) m W C1 W1 e20 ho rfl D1
    have P1 := par_inn x (⟨y.f, y.t, y.tl, 1, y.id, 0, false, y.dn, y.op, b⟩ : PkT) _ hmp hmb HSN HSF N1 (Nat.zero_le _) (fun q h => by cases h) ho
    exact ⟨b, _, _, 0, true, HS, HF, .inr (.inr ⟨rfl, rfl, P1⟩)⟩
theorem pm_2 (x : FrT) (m : IcT) : ∃ (a : ArT) (B2 E2 : ByteArray) (c2 c3 c4 : Int),
    (∀ W, Calls Tryz.prog 23 #[.int .i64 x.b, .int .i64 m.x, .int .i64 m.y] W fun e w' => e = .returned (.tuple #[.agg #[.int .i64 a.o, .int .i64 a.fm, .int .i64 a.fi, .int .i64 a.tm, .int .i64 a.ti], .int .i64 c2]) ∧ Below W.heap.size W w') ∧
    (∀ W, Calls Tryz.prog 24 #[.agg #[.int .i64 a.o, .int .i64 a.fm, .int .i64 a.fi, .int .i64 a.tm, .int .i64 a.ti]] W fun e w' => e = .returned (.tuple #[.string B2, .int .i64 c3]) ∧ Below W.heap.size W w') ∧
    (∀ W, Calls Tryz.prog 25 #[.agg #[.int .i64 x.a, .int .i64 x.b, .int .i64 2054, .string B2]] W fun e w' => e = .returned (.tuple #[.string E2, .int .i64 c4]) ∧ Below W.heap.size W w') ∧
    ((c2 != 0) = true ∨ ((c2 != 0) = false ∧ (c3 != 0) = true) ∨ ((c2 != 0) = false ∧ (c3 != 0) = false ∧ (c4 != 0) = true) ∨ ((c2 != 0) = false ∧ (c3 != 0) = false ∧ (c4 != 0) = false ∧ ∀ W, OrE W → Calls Tryz.prog 9 #[.string E2] W fun e w' => ∃ v, e = .returned (.tuple #[.agg ((PdA (⟨x.a, x.b, 2054, B2⟩ : FrT) a).v v), .nilIface]) ∧ RgA W.heap.size w' v [] ∧ Below W.heap.size W w')) := by
  rcases Bool.eq_false_or_eq_true (Eth.Arp.mayA 1 x.b m.x 0 m.y) with hm | hm
  case inr => exact ⟨ArT.zero, _, _, 40, 40, _, fun W => Eth.Arp.ask_f hm W, fun W => Eth.Arp.enc_n (by decide) W, fun W => Eth.enc_any x.a x.b 2054 ⟨#[]⟩ W (Nat.zero_le _), .inl rfl⟩
  have hz : (Eth.Arp.encA 1 x.b m.x 0 m.y).size = 28 := Eth.Arp.encA_size _ _ _ _ _
  have HE := fun W => Eth.enc_any x.a x.b 2054 (Eth.Arp.encA 1 x.b m.x 0 m.y) W (by unfold maxLen; omega)
  rcases Bool.eq_false_or_eq_true (Eth.mayB x.a x.b 2054 (Eth.Arp.encA 1 x.b m.x 0 m.y).size) with hk | hk
  case inr =>
    rw [hk] at HE
    exact ⟨(⟨1, x.b, m.x, 0, m.y⟩ : ArT), _, _, 0, 0, 30, fun W => Eth.Arp.ask_t hm W, fun W => Eth.Arp.enc_y hm W, HE, .inr (.inr (.inl ⟨rfl, rfl, rfl⟩))⟩
  rw [hk, show Eth.encV x.a x.b 2054 (Eth.Arp.encA 1 x.b m.x 0 m.y) = Eth.encS x.a x.b 2054 (Eth.Arp.encA 1 x.b m.x 0 m.y) by unfold Eth.encV; rw [if_pos hk]] at HE
  refine ⟨(⟨1, x.b, m.x, 0, m.y⟩ : ArT), _, _, 0, 0, 0, fun W => Eth.Arp.ask_t hm W, fun W => Eth.Arp.enc_y hm W, HE, .inr (.inr (.inr ⟨rfl, rfl, rfl, ?_⟩))⟩
  have hes : (Eth.encS x.a x.b 2054 (Eth.Arp.encA 1 x.b m.x 0 m.y)).size = 14 + (Eth.Arp.encA 1 x.b m.x 0 m.y).size := Eth.enc_size _ _ _ _
  have E1 := fun W => Eth.dec_any (Eth.encS x.a x.b 2054 (Eth.Arp.encA 1 x.b m.x 0 m.y)) W (by unfold maxLen; omega)
  obtain ⟨e1, e2, e3, e4, e5⟩ := Eth.dec_of_enc hk
  rw [e1, e2, e3, e4, e5] at E1
  have hA := Eth.Arp.decA_more_t hm ⟨#[]⟩ (Nat.zero_le _)
  obtain ⟨a1, a2, a3, a4, a5, -, -⟩ := Eth.Arp.enc_more hm ⟨#[]⟩
  rw [app_nil] at hA a1 a2 a3 a4 a5
  have D1 := fun W => Eth.Arp.dec_y hA W
  rw [a1, a2, a3, a4, a5] at D1
  exact fun W hW => par_3 (Eth.encS x.a x.b 2054 (Eth.Arp.encA 1 x.b m.x 0 m.y)) (⟨x.a, x.b, 2054, (Eth.Arp.encA 1 x.b m.x 0 m.y)⟩ : FrT) (⟨1, FrT.zero, (⟨1, x.b, m.x, 0, m.y⟩ : ArT), PkT.zero, IcT.zero, Sg.zero⟩ : Pd) (⟨1, (⟨x.a, x.b, 2054, (Eth.Arp.encA 1 x.b m.x 0 m.y)⟩ : FrT), (⟨1, x.b, m.x, 0, m.y⟩ : ArT), PkT.zero, IcT.zero, Sg.zero⟩ : Pd) W rfl rfl hW E1 (fun W hW => con_2 (⟨x.a, x.b, 2054, (Eth.Arp.encA 1 x.b m.x 0 m.y)⟩ : FrT) (⟨1, x.b, m.x, 0, m.y⟩ : ArT) W rfl D1)
theorem pm_any (x : FrT) (y : PkT) (m : IcT) (w : World) (hG : OrE w) (ho : y.op.size ≤ 140737488355328) (hd : m.da.size ≤ 140737488351232) (HSN : ShNil) (HSF : ShFail 14) (HT : TA) :
    Calls Tryz.prog 7 #[.agg #[.int .i64 x.a, .int .i64 x.b, .int .i64 x.k, .string x.d], .agg #[.int .i64 y.f, .int .i64 y.t, .int .i64 y.tl, .int .i64 y.pr, .int .i64 y.id, .int .i64 y.fg, .bool y.mo, .bool y.dn, .string y.op, .string y.da], .agg #[.int .i64 m.ty, .int .i64 m.co, .int .i64 m.x, .int .i64 m.y, .string m.da]] w fun e w' => e = .returned (.bool true) ∧ Below w.heap.size w w' := by
  obtain ⟨b, B, E, c, k, h1, h2, h3⟩ := pm_1 x y m ho hd HSN HSF
  obtain ⟨a, B2, E2, c2, c3, c4, h4, h5, h6, h7⟩ := pm_2 x m
  exact pm_w x y m b B E B2 E2 c k a c2 c3 c4 w hG HT h1 h2 h3 h4 h5 h6 h7
end Go.Proofs.YtkpdmgoldngdaaaGreatDoor
