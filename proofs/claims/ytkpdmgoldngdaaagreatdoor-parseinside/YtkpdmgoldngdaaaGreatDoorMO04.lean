/- the texts Fp, Vn, Vp, in part, merged by program -/
import Derived.Test.YtkpdmgoldngdaaaGreatDoorProg
import Derived.Test.YtkpdmgoldngdaaaGreatDoorRows
import Derived.WalkKit
import Derived.WalkSpells
import Derived.RegionTactic
import Derived.Below
import Derived.Laws.Tables
import Derived.Great.BuildSlice
import Derived.ProofKit
import Derived.OpenShut
import Derived.ShutString
import Derived.ChangeOld
import Derived.Carry
import Derived.SizedLaws
import Derived.Deep.Fields
import Derived.Deep.SlicePairs
import Derived.LaidMore
import Derived.Lib.LaidTab
import Derived.LaidLaws
import Derived.LaidHandle
import Derived.Laws.OwnMore
import Derived.Laws.AppendOwn
import Derived.Laws.AppendOwnNone
import Derived.Deep.LoopGhost
import Derived.Deep.RegionHeld3
import Derived.Deep.QuietTactic
import Derived.BigQuiet
import Derived.WalkSmall
import Derived.Laws.StructEq
import Derived.Shelf.Strings.Repeat
import Derived.Deep.MidRow
import Derived.Deep.Cut
import Derived.Deep.RegionWith
import Derived.LoopN
import Derived.BigRegion
import Derived.Deep.Light
import Derived.Deep.CutRange
import Derived.Test.YtkpdmgoldngdaaaGreatDoorMA01
import Derived.Test.YtkpdmgoldngdaaaGreatDoorMA02
import Derived.Test.YtkpdmgoldngdaaaGreatDoorMA03
import Derived.Test.YtkpdmgoldngdaaaGreatDoorMA04
import Derived.Test.YtkpdmgoldngdaaaGreatDoorMA05
import Derived.Test.YtkpdmgoldngdaaaGreatDoorMA06
import Derived.Test.YtkpdmgoldngdaaaGreatDoorMA07
import Derived.Test.YtkpdmgoldngdaaaGreatDoorMB01
import Derived.Test.YtkpdmgoldngdaaaGreatDoorMB02
import Derived.Test.YtkpdmgoldngdaaaGreatDoorMC01
import Derived.Test.YtkpdmgoldngdaaaGreatDoorMD01
import Derived.Test.YtkpdmgoldngdaaaGreatDoorMD02
import Derived.Test.YtkpdmgoldngdaaaGreatDoorMD03
import Derived.Test.YtkpdmgoldngdaaaGreatDoorMD04
import Derived.Test.YtkpdmgoldngdaaaGreatDoorMD05
import Derived.Test.YtkpdmgoldngdaaaGreatDoorME01
import Derived.Test.YtkpdmgoldngdaaaGreatDoorME02
import Derived.Test.YtkpdmgoldngdaaaGreatDoorMF01
import Derived.Test.YtkpdmgoldngdaaaGreatDoorMG01
import Derived.Test.YtkpdmgoldngdaaaGreatDoorMG02
import Derived.Test.YtkpdmgoldngdaaaGreatDoorMG03
import Derived.Test.YtkpdmgoldngdaaaGreatDoorMG04
import Derived.Test.YtkpdmgoldngdaaaGreatDoorMG05
import Derived.Test.YtkpdmgoldngdaaaGreatDoorMG06
import Derived.Test.YtkpdmgoldngdaaaGreatDoorMH01
import Derived.Test.YtkpdmgoldngdaaaGreatDoorMH02
import Derived.Test.YtkpdmgoldngdaaaGreatDoorMH03
import Derived.Test.YtkpdmgoldngdaaaGreatDoorMH04
import Derived.Test.YtkpdmgoldngdaaaGreatDoorMI01
import Derived.Test.YtkpdmgoldngdaaaGreatDoorMJ01
import Derived.Test.YtkpdmgoldngdaaaGreatDoorMK01
import Derived.Test.YtkpdmgoldngdaaaGreatDoorML01
import Derived.Test.YtkpdmgoldngdaaaGreatDoorMM01
import Derived.Test.YtkpdmgoldngdaaaGreatDoorMN01
import Derived.Test.YtkpdmgoldngdaaaGreatDoorMN02
import Derived.Test.YtkpdmgoldngdaaaGreatDoorMO01
import Derived.Test.YtkpdmgoldngdaaaGreatDoorMO02
import Derived.Test.YtkpdmgoldngdaaaGreatDoorMO03
namespace Go.Proofs.YtkpdmgoldngdaaaGreatDoor
open Go.ChangeShapes Go.WideShapes Go.ChangeAt Go.RowKit
open Go.ChangeMaps (open_string)
set_option maxRecDepth 100000
set_option linter.unusedVariables false

theorem cells23 : Tryz.prog.cellsOf 23 = 4 := by kernel_rfl
theorem open23 {H : Type} {enc : TypeId × Value → H} {w : World} {base : Nat} {spare : Nat → Bool} {held : Bool} {r : Reach} {b0 : Nat} {v : Value} {d : DataW H} {p : List MemPlace} (hv : Value.okWide Tryz.prog w r b0 23 v) (h : DataW.Trod enc Tryz.prog w base spare held 23 v d p) :
    ∃ (x : FrT) (parts : List (DataW H)), v = .agg #[.int .i64 x.a, .int .i64 x.b, .int .i64 x.k, .string x.d] ∧ d = .agg parts ∧ parts[3]? = some (.lit (.string x.d.data.toList)) := by
  obtain ⟨⟨l⟩, parts, rfl, hdp, hz, hf⟩ := open_fields Tryz.underlying23 (by kernel_rfl) cells23 hv h
  have hz' : l.length = 4 := by simpa using hz
  match l, hz' with
  | [c0, c1, c2, c3], _ =>
    obtain ⟨n0, x0, t0, m0⟩ := hf 0 _ rfl
    obtain ⟨f0, q0, -, -⟩ := DataW.trod_int Tryz.underlying3 t0
    have p0 : c0 = .int .i64 f0 := by simpa using q0
    obtain ⟨n1, x1, t1, m1⟩ := hf 1 _ rfl
    obtain ⟨f1, q1, -, -⟩ := DataW.trod_int Tryz.underlying3 t1
    have p1 : c1 = .int .i64 f1 := by simpa using q1
    obtain ⟨n2, x2, t2, m2⟩ := hf 2 _ rfl
    obtain ⟨f2, q2, -, -⟩ := DataW.trod_int Tryz.underlying3 t2
    have p2 : c2 = .int .i64 f2 := by simpa using q2
    obtain ⟨n3, x3, t3, m3⟩ := hf 3 _ rfl
    obtain ⟨f3, q3, y3, -⟩ := DataW.trod_string Tryz.underlying9 t3
    have p3 : c3 = .string f3 := by simpa using q3
    subst p0 p1 p2 p3
    exact ⟨⟨f0, f1, f2, f3⟩, parts, rfl, hdp, by rw [m3, y3]⟩
end Go.Proofs.YtkpdmgoldngdaaaGreatDoor

namespace Go.Proofs.YtkpdmgoldngdaaaGreatDoor
open Go.RowKit
set_option maxRecDepth 100000
set_option linter.unusedVariables false

theorem ret_tct {fn : Func} {i j k : Nat} (hres : fn.results = #[.tmp i, .cell j 23, .tmp k]) {tmps : Array Value} {W : World} {b : Nat} {vs : Array Value} {x y : Value} (hA : At W b vs) (hs : vs.size = 4) (hi : tmps.getD i undef = x) (hj : tmps.getD j undef = .pointer (some ⟨b, 0, none⟩)) (hk : tmps.getD k undef = y) : (results fn tmps).run Tryz.prog W = .ok (.tuple #[x, .agg vs, y]) W := by
  have hl := run_loadVar_mid (P := Tryz.prog) W b 0 23 vs.toList _ hA.range Tryz.underlying23 rfl (by rw [show vs.toList.length = 4 by simpa using hs]; exact size23)
  rw [Array.getD_eq_getD_getElem?] at hi hj hk
  unfold results
  rw [hres]
  simp [hi, hj, hk, asAddr, hl]
set_option maxHeartbeats 4000000 in
theorem frm_y (x : FrT) (y : PkT) (B E : ByteArray) (c d : Int) (w : World) (hc : (c == 0) = true) (bo : Bool) (hd : (d == 0) = bo)
    (HI : Hid (∀ W, Calls Tryz.prog 50 #[.agg #[.int .i64 y.f, .int .i64 y.t, .int .i64 y.tl, .int .i64 y.pr, .int .i64 y.id, .int .i64 y.fg, .bool y.mo, .bool y.dn, .string y.op, .string y.da]] W fun e w' => e = .returned (.tuple #[.string B, .int .i64 c]) ∧ Below W.heap.size W w'))
    (HE : Hid (∀ W, Calls Tryz.prog 25 #[.agg #[.int .i64 x.a, .int .i64 x.b, .int .i64 2048, .string B]] W fun e w' => e = .returned (.tuple #[.string E, .int .i64 d]) ∧ Below W.heap.size W w')) :
    Calls Tryz.prog 20 #[.agg #[.int .i64 x.a, .int .i64 x.b, .int .i64 x.k, .string x.d], .agg #[.int .i64 y.f, .int .i64 y.t, .int .i64 y.tl, .int .i64 y.pr, .int .i64 y.id, .int .i64 y.fg, .bool y.mo, .bool y.dn, .string y.op, .string y.da]] w fun e w' => e = .returned (.tuple #[.string E, .agg #[.int .i64 x.a, .int .i64 x.b, .int .i64 2048, .string B], .bool bo]) ∧ Below w.heap.size w w' := by
  have hb1 := bel1 w (.cells #[.int .i64 x.a, .int .i64 x.b, .int .i64 x.k, .string x.d] 23)
  have hb2 := bel1 (w.alloc (.cells #[.int .i64 x.a, .int .i64 x.b, .int .i64 x.k, .string x.d] 23)) (.cells #[.int .i64 y.f, .int .i64 y.t, .int .i64 y.tl, .int .i64 y.pr, .int .i64 y.id, .int .i64 y.fg, .bool y.mo, .bool y.dn, .string y.op, .string y.da] 27)
  have hb3 := bel1 ((w.alloc (.cells #[.int .i64 x.a, .int .i64 x.b, .int .i64 x.k, .string x.d] 23)).alloc (.cells #[.int .i64 y.f, .int .i64 y.t, .int .i64 y.tl, .int .i64 y.pr, .int .i64 y.id, .int .i64 y.fg, .bool y.mo, .bool y.dn, .string y.op, .string y.da] 27)) (.cells #[.int .i64 0, .int .i64 0, .int .i64 0, .string ⟨#[]⟩] 23)
  have hF := ((At.box w #[.int .i64 x.a, .int .i64 x.b, .int .i64 x.k, .string x.d] 23).later hb2).later hb3
  have hA := (At.box2 w (.cells #[.int .i64 x.a, .int .i64 x.b, .int .i64 x.k, .string x.d] 23) #[.int .i64 y.f, .int .i64 y.t, .int .i64 y.tl, .int .i64 y.pr, .int .i64 y.id, .int .i64 y.fg, .bool y.mo, .bool y.dn, .string y.op, .string y.da] 27).later hb3
  have hR := At.box ((w.alloc (.cells #[.int .i64 x.a, .int .i64 x.b, .int .i64 x.k, .string x.d] 23)).alloc (.cells #[.int .i64 y.f, .int .i64 y.t, .int .i64 y.tl, .int .i64 y.pr, .int .i64 y.id, .int .i64 y.fg, .bool y.mo, .bool y.dn, .string y.op, .string y.da] 27)) #[.int .i64 0, .int .i64 0, .int .i64 0, .string ⟨#[]⟩] 23
  have hq : ((w.alloc (.cells #[.int .i64 x.a, .int .i64 x.b, .int .i64 x.k, .string x.d] 23)).alloc (.cells #[.int .i64 y.f, .int .i64 y.t, .int .i64 y.tl, .int .i64 y.pr, .int .i64 y.id, .int .i64 y.fg, .bool y.mo, .bool y.dn, .string y.op, .string y.da] 27)).heap.size = w.heap.size + 2 := by
    show ((w.heap.push _).push _).size = _
    rw [Array.size_push, Array.size_push]
  rw [hq] at hR
  have hl := bt (bt hb1 hb2) hb3
  clear hb1 hb2 hb3 hq
  go_enter Tryz.func20, Tryz.ntmps20
  go_upto_region 1 with fail
  generalize hw0 : ((w.alloc (.cells #[.int .i64 x.a, .int .i64 x.b, .int .i64 x.k, .string x.d] 23)).alloc (.cells #[.int .i64 y.f, .int .i64 y.t, .int .i64 y.tl, .int .i64 y.pr, .int .i64 y.id, .int .i64 y.fg, .bool y.mo, .bool y.dn, .string y.op, .string y.da] 27)).alloc (.cells #[.int .i64 0, .int .i64 0, .int .i64 0, .string ⟨#[]⟩] 23) = w0 at *
  clear hw0
  go_wp2_with (refine wpList_loadG 27 _ (by rfl) (by rfl) (w.heap.size + 1) 0 (by rfl) _ _ hA.range Tryz.underlying27 rfl size27 ?_)
  refine (HI.out _).mono ?_
  rintro e w1 ⟨rfl, hb⟩
  replace hl := bt hl hb
  replace hF := hF.later hb
  replace hR := hR.later hb
  clear hb HI hA
  have c2 := (hF.2 2 _ rfl).1
  have c3 := (hF.2 3 _ rfl).1
  have z2 := (hF.2 2 _ rfl).2
  have z3 := (hF.2 3 _ rfl).2
  go_upto_region 3 with fail
  replace hF := (hF.set 2 (.int .i64 2048)).set 3 (.string B)
  replace hR := (hR.keep (b := w.heap.size) (by omega) 2 (.int .i64 2048)).keep (b := w.heap.size) (by omega) 3 (.string B)
  replace hl := (hl.setCell (p := ⟨w.heap.size, 2, none⟩) (Nat.le_refl _) (.int .i64 2048)).setCell (p := ⟨w.heap.size, 3, none⟩) (Nat.le_refl _) (.string B)
  replace hF : At _ w.heap.size #[.int .i64 x.a, .int .i64 x.b, .int .i64 2048, .string B] := hF
  generalize hw2 : (w1.setCell ⟨w.heap.size, 2, none⟩ (.int .i64 2048)).setCell ⟨w.heap.size, 3, none⟩ (.string B) = w2 at *
  clear hw2 c2 c3 z2 z3
  go_cut [9, 10] from 11 (fun q y W => q = .string E ∧ y = .int .i64 d ∧ Below w2.heap.size w2 W)
  case first =>
    go_wp2_with (refine wpList_loadG 23 _ (by rfl) (by rfl) (w.heap.size) 0 (by rfl) _ _ hF.range Tryz.underlying23 rfl size23 ?_)
    refine (HE.out _).mono ?_
    rintro e w3 ⟨rfl, hb⟩
    go_wp2
    go_meet
    case rel => exact ⟨rfl, rfl, hb⟩
  case rest =>
  obtain ⟨rfl, rfl, hb⟩ := hcut
  replace hl := bt hl hb
  replace hF := hF.later hb
  replace hR := hR.later hb
  clear hb HE
  obtain ⟨w4, hw4⟩ : ∃ x, x = wc := ⟨wc, rfl⟩
  subst hw4
  go_upto_region 4 with fail
  refine wp_region_any (by kernel_rfl) ?_
  obtain ⟨w5, hq5⟩ : ∃ W, W = ({ heap := w4.heap, tape := w4.tape, drawn := w4.drawn + 1, os := w4.os, output := w4.output } : World) := ⟨_, rfl⟩
  rw [← hq5]
  have hF5 : At w5 w.heap.size #[.int .i64 x.a, .int .i64 x.b, .int .i64 2048, .string B] := by rw [hq5]; exact hF.later ((Below.refl _ _).drew)
  have hR5 : At w5 (w.heap.size + 2) #[.int .i64 0, .int .i64 0, .int .i64 0, .string ⟨#[]⟩] := by rw [hq5]; exact hR.later ((Below.refl _ _).drew)
  have hl5 : Below w.heap.size w w5 := by rw [hq5]; exact hl.drew
  clear hF hR hl hq5
  have HF : ∀ W, (W = w5 ∨ W = w5.setCells (w.heap.size + 2) 0 (#[.int .i64 x.a, .int .i64 x.b, .int .i64 2048, .string B]).toList) → At W w.heap.size #[.int .i64 x.a, .int .i64 x.b, .int .i64 2048, .string B] := by
    rintro W (rfl | rfl)
    · exact hF5
    · exact At.apart hF5 (by omega) _ _
  refine region_store (fun qq => match qq with | 0 => .string E | 1 => .agg #[.int .i64 x.a, .int .i64 x.b, .int .i64 2048, .string B] | 2 => .int .i64 c | 3 => .bool true | 4 => .bool true | 5 => .int .i64 d | 6 => .bool bo | 7 => .bool bo | 8 => .string E | 10 => .bool bo | _ => undef) _ (w5.setCells (w.heap.size + 2) 0 (#[.int .i64 x.a, .int .i64 x.b, .int .i64 2048, .string B]).toList) 9 (n := 32) ?_ (by kernel_rfl) rfl (by kernel_rfl) ?_ ?_ (Nat.le_refl _)
  · decide
  · have hR := hR5
    refine ⟨?_, ?_, ?_, ?_, ?_, ?_, ?_, ?_, ?_, ?_, ?_, trivial⟩
    · intro ac w1 hS hT hB hD K hK
      rw [if_pos (by rfl)]
      have d9 : ac.tmps.getD 9 undef = .string E := hB 9 (by kernel_rfl)
      clear hB hD hT
      go_simp
      exact hK _ _ rfl trivial rfl
    · intro ac w1 hS hT hB hD K hK
      rw [if_pos (by rfl)]
      have d2 : ac.tmps.getD 2 undef = .pointer (some ⟨w.heap.size, 0, none⟩) := hB 2 (by kernel_rfl)
      clear hB hD hT
      refine wp_load_mid 23 (.tmp 2) rfl (w.heap.size) 0 d2 _ _ (HF _ hS.1).range Tryz.underlying23 rfl size23 ?_
      exact hK _ _ rfl trivial rfl
    · intro ac w1 hS hT hB hD K hK
      rw [if_pos (by rfl)]
      have d8 : ac.tmps.getD 8 undef = .int .i64 c := hB 8 (by kernel_rfl)
      clear hB hD hT
      go_simp
      exact hK _ _ rfl trivial rfl
    · intro ac w1 hS hT hB hD K hK
      rw [if_pos (by rfl)]
      have d26 : ac.tmps.getD 26 undef = .int .i64 c := hD ⟨2, .data⟩ (by simp) rfl _ 26 rfl rfl
      clear hB hD hT
      go_simp
      exact hK _ _ rfl trivial rfl
    · intro ac w1 hS hT hB hD K hK
      rw [if_pos (by rfl)]
      have d27 : ac.tmps.getD 27 undef = .bool true := hD ⟨3, .data⟩ (by simp) rfl _ 27 rfl rfl
      clear hB hD hT
      go_simp
      exact hK _ _ rfl trivial rfl
    · intro ac w1 hS hT hB hD K hK
      have g28 : ac.tmps.getD 28 undef = .bool true := hD ⟨4, .guard⟩ (by simp) rfl _ 28 rfl rfl
      rw [if_pos (want_t (j := 4) (d := 28) rfl rfl g28)]
      clear g28
      have d10 : ac.tmps.getD 10 undef = .int .i64 d := hB 10 (by kernel_rfl)
      clear hB hD hT
      go_simp
      exact hK _ _ rfl trivial rfl
    · intro ac w1 hS hT hB hD K hK
      have g28 : ac.tmps.getD 28 undef = .bool true := hD ⟨4, .guard⟩ (by simp) rfl _ 28 rfl rfl
      rw [if_pos (want_t (j := 4) (d := 28) rfl rfl g28)]
      clear g28
      have d29 : ac.tmps.getD 29 undef = .int .i64 d := hD ⟨5, .data⟩ (by simp) rfl _ 29 rfl rfl
      clear hB hD hT
      go_simp
      exact hK _ _ rfl trivial rfl
    · intro ac w1 hS hT hB hD K hK
      rw [if_pos (by rfl)]
      have d28 : ac.tmps.getD 28 undef = .bool true := hD ⟨4, .data⟩ (by simp) rfl _ 28 rfl rfl
      have d30 : ac.tmps.getD 30 undef = .bool bo := hD ⟨6, .data⟩ (by simp) rfl _ 30 rfl rfl
      clear hB hD hT
      go_simp
      exact hK _ _ rfl trivial rfl
    · intro ac w1 hS hT hB hD K hK
      rw [if_pos (by rfl)]
      have d24 : ac.tmps.getD 24 undef = .string E := hD ⟨0, .data⟩ (by simp) rfl _ 24 rfl rfl
      clear hB hD hT
      go_simp
      exact hK _ _ rfl trivial rfl
    · intro ac w1 hS hT hB hD K hK
      rw [if_pos (by rfl)]
      have d5 : ac.tmps.getD 5 undef = .pointer (some ⟨w.heap.size + 2, 0, none⟩) := hB 5 (by kernel_rfl)
      have d25 : ac.tmps.getD 25 undef = .agg #[.int .i64 x.a, .int .i64 x.b, .int .i64 2048, .string B] := hD ⟨1, .data⟩ (by simp) rfl _ 25 rfl rfl
      clear hB hD hT
      obtain rfl := hS.2 rfl
      exact wp_store_mid 23 (.tmp 5) (.tmp 25) rfl (w.heap.size + 2) 0 #[.int .i64 x.a, .int .i64 x.b, .int .i64 2048, .string B] d5 d25 hR.there size23 (by simp [Value.oneCell']) (hK undef _ rfl trivial rfl)
    · intro ac w1 hS hT hB hD K hK
      rw [if_pos (by rfl)]
      have d31 : ac.tmps.getD 31 undef = .bool bo := hD ⟨7, .data⟩ (by simp) rfl _ 31 rfl rfl
      clear hB hD hT
      go_simp
      exact hK _ _ rfl trivial rfl
  · intro ac hT hdf hB hF
    have hfr : ac.tmps = #[.agg #[.int .i64 x.a, .int .i64 x.b, .int .i64 x.k, .string x.d], .agg #[.int .i64 y.f, .int .i64 y.t, .int .i64 y.tl, .int .i64 y.pr, .int .i64 y.id, .int .i64 y.fg, .bool y.mo, .bool y.dn, .string y.op, .string y.da], .pointer (some ⟨w.heap.size, 0, none⟩), .pointer (some ⟨w.heap.size + 1, 0, none⟩), (ac.tmps.getD 4 undef), .pointer (some ⟨w.heap.size + 2, 0, none⟩), (ac.tmps.getD 6 undef), .string B, .int .i64 c, .string E, .int .i64 d, u11, u12, u13, u14, u15, u16, u17, u18, u19, u20, u21, u22, u23, (ac.tmps.getD 24 undef), (ac.tmps.getD 25 undef), (ac.tmps.getD 26 undef), (ac.tmps.getD 27 undef), (ac.tmps.getD 28 undef), (ac.tmps.getD 29 undef), (ac.tmps.getD 30 undef), (ac.tmps.getD 31 undef)] := (frame_eq hT rfl hB).trans (by kernel_rfl)
    obtain ⟨T, df⟩ := ac
    have s4 : T.getD 4 undef = .string E := hF 8 _ 4 rfl rfl
    have s6 : T.getD 6 undef = .bool bo := hF 10 _ 6 rfl rfl
    have sdf : df = [] := hdf
    simp only at hfr
    clear hB hF hT hdf
    generalize T.getD 24 undef = y24 at *
    generalize T.getD 25 undef = y25 at *
    generalize T.getD 26 undef = y26 at *
    generalize T.getD 27 undef = y27 at *
    generalize T.getD 28 undef = y28 at *
    generalize T.getD 29 undef = y29 at *
    generalize T.getD 30 undef = y30 at *
    generalize T.getD 31 undef = y31 at *
    generalize T.getD 4 undef = y4 at *
    generalize T.getD 6 undef = y6 at *
    subst hfr s4 s6 sdf
    go_wp2
    exact bodyPost_ret (v := .tuple #[.string E, .agg #[.int .i64 x.a, .int .i64 x.b, .int .i64 2048, .string B], .bool bo]) (ret_tct (by rfl) (At.whole (vs := #[.int .i64 x.a, .int .i64 x.b, .int .i64 2048, .string B]) hR5 rfl) rfl (by rfl) (by rfl) (by rfl)) (by rfl) ⟨rfl, Below.setCells (by omega) _ _ _ hl5⟩
set_option maxHeartbeats 4000000 in
theorem frm_n (x : FrT) (y : PkT) (B E : ByteArray) (c d : Int) (w : World) (hc : (c == 0) = false)
    (HI : Hid (∀ W, Calls Tryz.prog 50 #[.agg #[.int .i64 y.f, .int .i64 y.t, .int .i64 y.tl, .int .i64 y.pr, .int .i64 y.id, .int .i64 y.fg, .bool y.mo, .bool y.dn, .string y.op, .string y.da]] W fun e w' => e = .returned (.tuple #[.string B, .int .i64 c]) ∧ Below W.heap.size W w'))
    (HE : Hid (∀ W, Calls Tryz.prog 25 #[.agg #[.int .i64 x.a, .int .i64 x.b, .int .i64 2048, .string B]] W fun e w' => e = .returned (.tuple #[.string E, .int .i64 d]) ∧ Below W.heap.size W w')) :
    Calls Tryz.prog 20 #[.agg #[.int .i64 x.a, .int .i64 x.b, .int .i64 x.k, .string x.d], .agg #[.int .i64 y.f, .int .i64 y.t, .int .i64 y.tl, .int .i64 y.pr, .int .i64 y.id, .int .i64 y.fg, .bool y.mo, .bool y.dn, .string y.op, .string y.da]] w fun e w' => e = .returned (.tuple #[.string E, .agg #[.int .i64 x.a, .int .i64 x.b, .int .i64 2048, .string B], .bool false]) ∧ Below w.heap.size w w' := by
  have hb1 := bel1 w (.cells #[.int .i64 x.a, .int .i64 x.b, .int .i64 x.k, .string x.d] 23)
  have hb2 := bel1 (w.alloc (.cells #[.int .i64 x.a, .int .i64 x.b, .int .i64 x.k, .string x.d] 23)) (.cells #[.int .i64 y.f, .int .i64 y.t, .int .i64 y.tl, .int .i64 y.pr, .int .i64 y.id, .int .i64 y.fg, .bool y.mo, .bool y.dn, .string y.op, .string y.da] 27)
  have hb3 := bel1 ((w.alloc (.cells #[.int .i64 x.a, .int .i64 x.b, .int .i64 x.k, .string x.d] 23)).alloc (.cells #[.int .i64 y.f, .int .i64 y.t, .int .i64 y.tl, .int .i64 y.pr, .int .i64 y.id, .int .i64 y.fg, .bool y.mo, .bool y.dn, .string y.op, .string y.da] 27)) (.cells #[.int .i64 0, .int .i64 0, .int .i64 0, .string ⟨#[]⟩] 23)
  have hF := ((At.box w #[.int .i64 x.a, .int .i64 x.b, .int .i64 x.k, .string x.d] 23).later hb2).later hb3
  have hA := (At.box2 w (.cells #[.int .i64 x.a, .int .i64 x.b, .int .i64 x.k, .string x.d] 23) #[.int .i64 y.f, .int .i64 y.t, .int .i64 y.tl, .int .i64 y.pr, .int .i64 y.id, .int .i64 y.fg, .bool y.mo, .bool y.dn, .string y.op, .string y.da] 27).later hb3
  have hR := At.box ((w.alloc (.cells #[.int .i64 x.a, .int .i64 x.b, .int .i64 x.k, .string x.d] 23)).alloc (.cells #[.int .i64 y.f, .int .i64 y.t, .int .i64 y.tl, .int .i64 y.pr, .int .i64 y.id, .int .i64 y.fg, .bool y.mo, .bool y.dn, .string y.op, .string y.da] 27)) #[.int .i64 0, .int .i64 0, .int .i64 0, .string ⟨#[]⟩] 23
  have hq : ((w.alloc (.cells #[.int .i64 x.a, .int .i64 x.b, .int .i64 x.k, .string x.d] 23)).alloc (.cells #[.int .i64 y.f, .int .i64 y.t, .int .i64 y.tl, .int .i64 y.pr, .int .i64 y.id, .int .i64 y.fg, .bool y.mo, .bool y.dn, .string y.op, .string y.da] 27)).heap.size = w.heap.size + 2 := by
    show ((w.heap.push _).push _).size = _
    rw [Array.size_push, Array.size_push]
  rw [hq] at hR
  have hl := bt (bt hb1 hb2) hb3
  clear hb1 hb2 hb3 hq
  go_enter Tryz.func20, Tryz.ntmps20
  go_upto_region 1 with fail
  generalize hw0 : ((w.alloc (.cells #[.int .i64 x.a, .int .i64 x.b, .int .i64 x.k, .string x.d] 23)).alloc (.cells #[.int .i64 y.f, .int .i64 y.t, .int .i64 y.tl, .int .i64 y.pr, .int .i64 y.id, .int .i64 y.fg, .bool y.mo, .bool y.dn, .string y.op, .string y.da] 27)).alloc (.cells #[.int .i64 0, .int .i64 0, .int .i64 0, .string ⟨#[]⟩] 23) = w0 at *
  clear hw0
  go_wp2_with (refine wpList_loadG 27 _ (by rfl) (by rfl) (w.heap.size + 1) 0 (by rfl) _ _ hA.range Tryz.underlying27 rfl size27 ?_)
  refine (HI.out _).mono ?_
  rintro e w1 ⟨rfl, hb⟩
  replace hl := bt hl hb
  replace hF := hF.later hb
  replace hR := hR.later hb
  clear hb HI hA
  have c2 := (hF.2 2 _ rfl).1
  have c3 := (hF.2 3 _ rfl).1
  have z2 := (hF.2 2 _ rfl).2
  have z3 := (hF.2 3 _ rfl).2
  go_upto_region 3 with fail
  replace hF := (hF.set 2 (.int .i64 2048)).set 3 (.string B)
  replace hR := (hR.keep (b := w.heap.size) (by omega) 2 (.int .i64 2048)).keep (b := w.heap.size) (by omega) 3 (.string B)
  replace hl := (hl.setCell (p := ⟨w.heap.size, 2, none⟩) (Nat.le_refl _) (.int .i64 2048)).setCell (p := ⟨w.heap.size, 3, none⟩) (Nat.le_refl _) (.string B)
  replace hF : At _ w.heap.size #[.int .i64 x.a, .int .i64 x.b, .int .i64 2048, .string B] := hF
  generalize hw2 : (w1.setCell ⟨w.heap.size, 2, none⟩ (.int .i64 2048)).setCell ⟨w.heap.size, 3, none⟩ (.string B) = w2 at *
  clear hw2 c2 c3 z2 z3
  go_cut [9, 10] from 11 (fun q y W => q = .string E ∧ y = .int .i64 d ∧ Below w2.heap.size w2 W)
  case first =>
    go_wp2_with (refine wpList_loadG 23 _ (by rfl) (by rfl) (w.heap.size) 0 (by rfl) _ _ hF.range Tryz.underlying23 rfl size23 ?_)
    refine (HE.out _).mono ?_
    rintro e w3 ⟨rfl, hb⟩
    go_wp2
    go_meet
    case rel => exact ⟨rfl, rfl, hb⟩
  case rest =>
  obtain ⟨rfl, rfl, hb⟩ := hcut
  replace hl := bt hl hb
  replace hF := hF.later hb
  replace hR := hR.later hb
  clear hb HE
  obtain ⟨w4, hw4⟩ : ∃ x, x = wc := ⟨wc, rfl⟩
  subst hw4
  go_upto_region 4 with fail
  refine wp_region_any (by kernel_rfl) ?_
  obtain ⟨w5, hq5⟩ : ∃ W, W = ({ heap := w4.heap, tape := w4.tape, drawn := w4.drawn + 1, os := w4.os, output := w4.output } : World) := ⟨_, rfl⟩
  rw [← hq5]
  have hF5 : At w5 w.heap.size #[.int .i64 x.a, .int .i64 x.b, .int .i64 2048, .string B] := by rw [hq5]; exact hF.later ((Below.refl _ _).drew)
  have hR5 : At w5 (w.heap.size + 2) #[.int .i64 0, .int .i64 0, .int .i64 0, .string ⟨#[]⟩] := by rw [hq5]; exact hR.later ((Below.refl _ _).drew)
  have hl5 : Below w.heap.size w w5 := by rw [hq5]; exact hl.drew
  clear hF hR hl hq5
  have HF : ∀ W, (W = w5 ∨ W = w5.setCells (w.heap.size + 2) 0 (#[.int .i64 x.a, .int .i64 x.b, .int .i64 2048, .string B]).toList) → At W w.heap.size #[.int .i64 x.a, .int .i64 x.b, .int .i64 2048, .string B] := by
    rintro W (rfl | rfl)
    · exact hF5
    · exact At.apart hF5 (by omega) _ _
  refine region_store (fun qq => match qq with | 0 => .string E | 1 => .agg #[.int .i64 x.a, .int .i64 x.b, .int .i64 2048, .string B] | 2 => .int .i64 c | 3 => .bool false | 4 => .bool false | 7 => .bool false | 8 => .string E | 10 => .bool false | _ => undef) _ (w5.setCells (w.heap.size + 2) 0 (#[.int .i64 x.a, .int .i64 x.b, .int .i64 2048, .string B]).toList) 9 (n := 32) ?_ (by kernel_rfl) rfl (by kernel_rfl) ?_ ?_ (Nat.le_refl _)
  · decide
  · have hR := hR5
    refine ⟨?_, ?_, ?_, ?_, ?_, ?_, ?_, ?_, ?_, ?_, ?_, trivial⟩
    · intro ac w1 hS hT hB hD K hK
      rw [if_pos (by rfl)]
      have d9 : ac.tmps.getD 9 undef = .string E := hB 9 (by kernel_rfl)
      clear hB hD hT
      go_simp
      exact hK _ _ rfl trivial rfl
    · intro ac w1 hS hT hB hD K hK
      rw [if_pos (by rfl)]
      have d2 : ac.tmps.getD 2 undef = .pointer (some ⟨w.heap.size, 0, none⟩) := hB 2 (by kernel_rfl)
      clear hB hD hT
      refine wp_load_mid 23 (.tmp 2) rfl (w.heap.size) 0 d2 _ _ (HF _ hS.1).range Tryz.underlying23 rfl size23 ?_
      exact hK _ _ rfl trivial rfl
    · intro ac w1 hS hT hB hD K hK
      rw [if_pos (by rfl)]
      have d8 : ac.tmps.getD 8 undef = .int .i64 c := hB 8 (by kernel_rfl)
      clear hB hD hT
      go_simp
      exact hK _ _ rfl trivial rfl
    · intro ac w1 hS hT hB hD K hK
      rw [if_pos (by rfl)]
      have d26 : ac.tmps.getD 26 undef = .int .i64 c := hD ⟨2, .data⟩ (by simp) rfl _ 26 rfl rfl
      clear hB hD hT
      go_simp
      exact hK _ _ rfl trivial rfl
    · intro ac w1 hS hT hB hD K hK
      rw [if_pos (by rfl)]
      have d27 : ac.tmps.getD 27 undef = .bool false := hD ⟨3, .data⟩ (by simp) rfl _ 27 rfl rfl
      clear hB hD hT
      go_simp
      exact hK _ _ rfl trivial rfl
    · intro ac w1 hS hT hB hD K hK
      have g28 : ac.tmps.getD 28 undef = .bool false := hD ⟨4, .guard⟩ (by simp) rfl _ 28 rfl rfl
      rw [if_neg (by rw [want_f (j := 4) (d := 28) rfl rfl g28 (by decide)]; simp)]
      exact hK _ _ rfl trivial rfl
    · intro ac w1 hS hT hB hD K hK
      have g28 : ac.tmps.getD 28 undef = .bool false := hD ⟨4, .guard⟩ (by simp) rfl _ 28 rfl rfl
      rw [if_neg (by rw [want_f (j := 4) (d := 28) rfl rfl g28 (by decide)]; simp)]
      exact hK _ _ rfl trivial rfl
    · intro ac w1 hS hT hB hD K hK
      rw [if_pos (by rfl)]
      have d28 : ac.tmps.getD 28 undef = .bool false := hD ⟨4, .data⟩ (by simp) rfl _ 28 rfl rfl
      have d30 : ac.tmps.getD 30 undef = undef := hD ⟨6, .data⟩ (by simp) rfl _ 30 rfl rfl
      clear hB hD hT
      go_simp
      exact hK _ _ rfl trivial rfl
    · intro ac w1 hS hT hB hD K hK
      rw [if_pos (by rfl)]
      have d24 : ac.tmps.getD 24 undef = .string E := hD ⟨0, .data⟩ (by simp) rfl _ 24 rfl rfl
      clear hB hD hT
      go_simp
      exact hK _ _ rfl trivial rfl
    · intro ac w1 hS hT hB hD K hK
      rw [if_pos (by rfl)]
      have d5 : ac.tmps.getD 5 undef = .pointer (some ⟨w.heap.size + 2, 0, none⟩) := hB 5 (by kernel_rfl)
      have d25 : ac.tmps.getD 25 undef = .agg #[.int .i64 x.a, .int .i64 x.b, .int .i64 2048, .string B] := hD ⟨1, .data⟩ (by simp) rfl _ 25 rfl rfl
      clear hB hD hT
      obtain rfl := hS.2 rfl
      exact wp_store_mid 23 (.tmp 5) (.tmp 25) rfl (w.heap.size + 2) 0 #[.int .i64 x.a, .int .i64 x.b, .int .i64 2048, .string B] d5 d25 hR.there size23 (by simp [Value.oneCell']) (hK undef _ rfl trivial rfl)
    · intro ac w1 hS hT hB hD K hK
      rw [if_pos (by rfl)]
      have d31 : ac.tmps.getD 31 undef = .bool false := hD ⟨7, .data⟩ (by simp) rfl _ 31 rfl rfl
      clear hB hD hT
      go_simp
      exact hK _ _ rfl trivial rfl
  · intro ac hT hdf hB hF
    have hfr : ac.tmps = #[.agg #[.int .i64 x.a, .int .i64 x.b, .int .i64 x.k, .string x.d], .agg #[.int .i64 y.f, .int .i64 y.t, .int .i64 y.tl, .int .i64 y.pr, .int .i64 y.id, .int .i64 y.fg, .bool y.mo, .bool y.dn, .string y.op, .string y.da], .pointer (some ⟨w.heap.size, 0, none⟩), .pointer (some ⟨w.heap.size + 1, 0, none⟩), (ac.tmps.getD 4 undef), .pointer (some ⟨w.heap.size + 2, 0, none⟩), (ac.tmps.getD 6 undef), .string B, .int .i64 c, .string E, .int .i64 d, u11, u12, u13, u14, u15, u16, u17, u18, u19, u20, u21, u22, u23, (ac.tmps.getD 24 undef), (ac.tmps.getD 25 undef), (ac.tmps.getD 26 undef), (ac.tmps.getD 27 undef), (ac.tmps.getD 28 undef), (ac.tmps.getD 29 undef), (ac.tmps.getD 30 undef), (ac.tmps.getD 31 undef)] := (frame_eq hT rfl hB).trans (by kernel_rfl)
    obtain ⟨T, df⟩ := ac
    have s4 : T.getD 4 undef = .string E := hF 8 _ 4 rfl rfl
    have s6 : T.getD 6 undef = .bool false := hF 10 _ 6 rfl rfl
    have sdf : df = [] := hdf
    simp only at hfr
    clear hB hF hT hdf
    generalize T.getD 24 undef = y24 at *
    generalize T.getD 25 undef = y25 at *
    generalize T.getD 26 undef = y26 at *
    generalize T.getD 27 undef = y27 at *
    generalize T.getD 28 undef = y28 at *
    generalize T.getD 29 undef = y29 at *
    generalize T.getD 30 undef = y30 at *
    generalize T.getD 31 undef = y31 at *
    generalize T.getD 4 undef = y4 at *
    generalize T.getD 6 undef = y6 at *
    subst hfr s4 s6 sdf
    go_wp2
    exact bodyPost_ret (v := .tuple #[.string E, .agg #[.int .i64 x.a, .int .i64 x.b, .int .i64 2048, .string B], .bool false]) (ret_tct (by rfl) (At.whole (vs := #[.int .i64 x.a, .int .i64 x.b, .int .i64 2048, .string B]) hR5 rfl) rfl (by rfl) (by rfl) (by rfl)) (by rfl) ⟨rfl, Below.setCells (by omega) _ _ _ hl5⟩
end Go.Proofs.YtkpdmgoldngdaaaGreatDoor

namespace Go.Proofs.YtkpdmgoldngdaaaGreatDoor
open Go.RowKit
set_option maxRecDepth 100000
set_option linter.unusedVariables false

def inF (x : FrT) : Except (ByteArray × Int × Int) Pd → Except (ByteArray × Int × Int) Pd
  | .error q => .error (q.1, q.2.1 + 14, q.2.2)
  | .ok z => .ok { z with fr := x }
theorem par_inn (x : FrT) (y : PkT) (r : Except (ByteArray × Int × Int) Pd) (hm : Ip.mayP y.f y.t y.tl y.pr y.id y.fg y.mo y.op.size y.da.size = true) (hk : Eth.mayB x.a x.b 2048 (Ip.encP y.f y.t y.tl y.pr y.id y.fg y.mo y.dn y.op y.da).size = true) (HN : ShNil) (HF : ShFail 14)
    (N1 : ∀ W, OrE W → Calls Tryz.prog 14 #[.agg #[.int .i64 y.f, .int .i64 y.t, .int .i64 y.tl, .int .i64 y.pr, .int .i64 y.id, .int .i64 y.fg, .bool y.mo, .bool y.dn, .string y.op, .string y.da]] W fun e w' => InnP r W e w') (hr : okR r) (hq : ∀ q, r = .error q → q.2.1 ≤ 20 + (y.op.size : Int)) (ho : y.op.size ≤ 140737488355328) :
    ∀ W, OrE W → Calls Tryz.prog 9 #[.string (Eth.encS x.a x.b 2048 (Ip.encP y.f y.t y.tl y.pr y.id y.fg y.mo y.dn y.op y.da))] W fun e w' => InnP (inF (⟨x.a, x.b, 2048, (Ip.encP y.f y.t y.tl y.pr y.id y.fg y.mo y.dn y.op y.da)⟩ : FrT) r) W e w' := by
  have hz : (Ip.encP y.f y.t y.tl y.pr y.id y.fg y.mo y.dn y.op y.da).size ≤ 65535 := Ip.encP_le hm
  have hes : ((Eth.encS x.a x.b 2048 (Ip.encP y.f y.t y.tl y.pr y.id y.fg y.mo y.dn y.op y.da))).size = 14 + (Ip.encP y.f y.t y.tl y.pr y.id y.fg y.mo y.dn y.op y.da).size := Eth.enc_size _ _ _ _
  have hsm : ((Eth.encS x.a x.b 2048 (Ip.encP y.f y.t y.tl y.pr y.id y.fg y.mo y.dn y.op y.da))).size ≤ maxLen := by unfold maxLen; omega
  have E1 := fun W => Eth.dec_any (Eth.encS x.a x.b 2048 (Ip.encP y.f y.t y.tl y.pr y.id y.fg y.mo y.dn y.op y.da)) W hsm
  obtain ⟨e1, e2, e3, e4, e5⟩ := Eth.dec_of_enc hk
  rw [e1, e2, e3, e4, e5] at E1
  have I1 := fun W => Ip.dec_back hm ⟨#[]⟩ (dn := y.dn) W (by rw [app_nil]; omega)
  rw [app_nil] at I1
  cases r with
  | error t =>
    obtain ⟨l, a, c⟩ := t
    obtain ⟨ha0, ha1, hc⟩ : 0 ≤ a ∧ a ≤ 140737488355362 ∧ (c != 0) = true := hr
    exact fun W hW => par_2 (Eth.encS x.a x.b 2048 (Ip.encP y.f y.t y.tl y.pr y.id y.fg y.mo y.dn y.op y.da)) (⟨x.a, x.b, 2048, (Ip.encP y.f y.t y.tl y.pr y.id y.fg y.mo y.dn y.op y.da)⟩ : FrT) l (a + 14) c W hW E1 (fun W hW => con_4 (⟨x.a, x.b, 2048, (Ip.encP y.f y.t y.tl y.pr y.id y.fg y.mo y.dn y.op y.da)⟩ : FrT) y l a c W hW HF rfl rfl I1 N1 ha0 (by omega))
  | ok z => exact fun W hW => par_3 (Eth.encS x.a x.b 2048 (Ip.encP y.f y.t y.tl y.pr y.id y.fg y.mo y.dn y.op y.da)) (⟨x.a, x.b, 2048, (Ip.encP y.f y.t y.tl y.pr y.id y.fg y.mo y.dn y.op y.da)⟩ : FrT) z _ W rfl rfl hW E1 (fun W hW => con_5 (⟨x.a, x.b, 2048, (Ip.encP y.f y.t y.tl y.pr y.id y.fg y.mo y.dn y.op y.da)⟩ : FrT) y z W hW HN rfl rfl I1 N1)
end Go.Proofs.YtkpdmgoldngdaaaGreatDoor
