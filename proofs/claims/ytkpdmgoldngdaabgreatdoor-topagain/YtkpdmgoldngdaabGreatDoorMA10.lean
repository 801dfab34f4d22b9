/- the texts Va, Vb, Vc, in part, merged by program -/
import Derived.Test.YtkpdmgoldngdaabGreatDoorProg
import Derived.Test.YtkpdmgoldngdaabGreatDoorRows
import Derived.Deep.MidRow
import Derived.Deep.Cut
import Derived.WalkKit
import Derived.WalkSpells
import Derived.RegionTactic
import Derived.Below
import Derived.Laws.Tables
import Derived.Great.BuildSlice
import Derived.Laws.OwnMore
import Derived.Laws.AppendOwn
import Derived.Laws.AppendOwnNone
import Derived.Deep.LoopGhost
import Derived.Deep.RegionHeld3
import Derived.Deep.QuietTactic
import Derived.BigQuiet
import Derived.WalkSmall
import Derived.Laws.StructEq
import Derived.Shelf.Strings.Repeat
import Derived.Deep.RegionWith
import Derived.LoopN
import Derived.BigRegion
import Derived.Deep.Light
import Derived.Test.YtkpdmgoldngdaabGreatDoorMA01
import Derived.Test.YtkpdmgoldngdaabGreatDoorMA04
import Derived.Test.YtkpdmgoldngdaabGreatDoorMA05
import Derived.Test.YtkpdmgoldngdaabGreatDoorMA06
import Derived.Test.YtkpdmgoldngdaabGreatDoorMA07
import Derived.Test.YtkpdmgoldngdaabGreatDoorMA08
import Derived.Test.YtkpdmgoldngdaabGreatDoorMA09
namespace Go.Proofs.YtkpdmgoldngdaabGreatDoor
open Go.RowKit
set_option maxRecDepth 100000
set_option linter.unusedVariables false

structure FrT where
  a : Int
  b : Int
  k : Int
  d : ByteArray
structure ArT where
  o : Int
  fm : Int
  fi : Int
  tm : Int
  ti : Int
structure PkT where
  f : Int
  t : Int
  tl : Int
  pr : Int
  id : Int
  fg : Int
  mo : Bool
  dn : Bool
  op : ByteArray
  da : ByteArray
structure IcT where
  ty : Int
  co : Int
  x : Int
  y : Int
  da : ByteArray
def FrT.zero : FrT := ⟨0, 0, 0, ⟨#[]⟩⟩
def ArT.zero : ArT := ⟨0, 0, 0, 0, 0⟩
def PkT.zero : PkT := ⟨0, 0, 0, 0, 0, 0, false, false, ⟨#[]⟩, ⟨#[]⟩⟩
def IcT.zero : IcT := ⟨0, 0, 0, 0, ⟨#[]⟩⟩
def Sg.zero : Sg := ⟨0, 0, 0, 0, 0, 0, 0, Op.zero, ⟨#[]⟩⟩
structure Pd where
  k : Int
  fr : FrT
  ar : ArT
  pk : PkT
  ic : IcT
  sg : Sg
def Pd.zero : Pd := ⟨0, FrT.zero, ArT.zero, PkT.zero, IcT.zero, Sg.zero⟩
def Pd.v (x : Pd) (v : Value) : Array Value := #[.int .i64 x.k, .int .i64 x.fr.a, .int .i64 x.fr.b, .int .i64 x.fr.k, .string x.fr.d, .int .i64 x.ar.o, .int .i64 x.ar.fm, .int .i64 x.ar.fi, .int .i64 x.ar.tm, .int .i64 x.ar.ti, .int .i64 x.pk.f, .int .i64 x.pk.t, .int .i64 x.pk.tl, .int .i64 x.pk.pr, .int .i64 x.pk.id, .int .i64 x.pk.fg, .bool x.pk.mo, .bool x.pk.dn, .string x.pk.op, .string x.pk.da, .int .i64 x.ic.ty, .int .i64 x.ic.co, .int .i64 x.ic.x, .int .i64 x.ic.y, .string x.ic.da, .int .i64 x.sg.fr, .int .i64 x.sg.dt, .int .i64 x.sg.sq, .int .i64 x.sg.ak, .int .i64 x.sg.fl, .int .i64 x.sg.wi, .int .i64 x.sg.ur, .int .i64 x.sg.o.m, .int .i64 x.sg.o.c, .int .i64 x.sg.o.t, .int .i64 x.sg.o.ec, .bool x.sg.o.sd, .bool x.sg.o.ok, .bool x.sg.o.sp, v, .string x.sg.da]
def PZ : Array Value := #[.int .i64 0, .int .i64 0, .int .i64 0, .int .i64 0, .string ⟨#[]⟩, .int .i64 0, .int .i64 0, .int .i64 0, .int .i64 0, .int .i64 0, .int .i64 0, .int .i64 0, .int .i64 0, .int .i64 0, .int .i64 0, .int .i64 0, .bool false, .bool false, .string ⟨#[]⟩, .string ⟨#[]⟩, .int .i64 0, .int .i64 0, .int .i64 0, .int .i64 0, .string ⟨#[]⟩, .int .i64 0, .int .i64 0, .int .i64 0, .int .i64 0, .int .i64 0, .int .i64 0, .int .i64 0, .int .i64 0, .int .i64 0, .int .i64 0, .int .i64 0, .bool false, .bool false, .bool false, .slice none 0 0, .string ⟨#[]⟩]
theorem Pd.one (x : Pd) {v : Value} (h : v.oneCell' = true) : (x.v v).all (·.oneCell') = true := by
  unfold Pd.v
  simp only [List.all_toArray, List.all_cons, List.all_nil, Bool.and_true, h]
  rfl
theorem PZ_one : PZ.all (·.oneCell') = true := Pd.one Pd.zero (v := .slice none 0 0) rfl
theorem size36 : (Tryz.prog.info? 37).map (·.size) = some 41 := by kernel_rfl
theorem ret_cell41 {fn : Func} {i j : Nat} (hres : fn.results = #[.cell i 37, .tmp j]) {tmps : Array Value} {W : World} {b : Nat} {vs : Array Value} {x : Value} (hA : At W b vs) (hs : vs.size = 41) (hi : tmps.getD i undef = .pointer (some ⟨b, 0, none⟩)) (hj : tmps.getD j undef = x) : (results fn tmps).run Tryz.prog W = .ok (.tuple #[.agg vs, x]) W := by
  have hl := run_loadVar_mid (P := Tryz.prog) W b 0 37 vs.toList _ hA.range Tryz.underlying37 rfl (by rw [show vs.toList.length = 41 by simpa using hs]; exact size36)
  rw [Array.getD_eq_getD_getElem?] at hi hj
  unfold results
  rw [hres]
  simp [hi, hj, asAddr, hl]
theorem buildZ (W : World) : (Instr.build 37 #[]).run Tryz.prog W = .ok (.agg PZ) W := run_build W 37 #[] _ (by kernel_rfl)
def FailV (l : ByteArray) (a c : Int) : Array Value := #[.string l, .int .i64 a, .iface 42 (.int .i64 c)]
def failE (p : Nat) : Value := .iface 70 (.pointer (some ⟨p, 0, none⟩))
set_option maxHeartbeats 4000000 in
theorem refuse_s (l : ByteArray) (a c : Int) (w : World) :
    Calls Tryz.prog 12 #[.string l, .int .i64 a, .int .i64 c] w fun e w' => ∃ p, e = .returned (.tuple #[.agg PZ, failE p]) ∧ w.heap.size ≤ p ∧ At w' p (FailV l a c) ∧ Below w.heap.size w w' := by
  have hR : At (w.alloc (.cells #[.int .i64 0, .int .i64 0, .int .i64 0, .int .i64 0, .string ⟨#[]⟩, .int .i64 0, .int .i64 0, .int .i64 0, .int .i64 0, .int .i64 0, .int .i64 0, .int .i64 0, .int .i64 0, .int .i64 0, .int .i64 0, .int .i64 0, .bool false, .bool false, .string ⟨#[]⟩, .string ⟨#[]⟩, .int .i64 0, .int .i64 0, .int .i64 0, .int .i64 0, .string ⟨#[]⟩, .int .i64 0, .int .i64 0, .int .i64 0, .int .i64 0, .int .i64 0, .int .i64 0, .int .i64 0, .int .i64 0, .int .i64 0, .int .i64 0, .int .i64 0, .bool false, .bool false, .bool false, .slice none 0 0, .string ⟨#[]⟩] 37)) w.heap.size PZ := At.box w #[.int .i64 0, .int .i64 0, .int .i64 0, .int .i64 0, .string ⟨#[]⟩, .int .i64 0, .int .i64 0, .int .i64 0, .int .i64 0, .int .i64 0, .int .i64 0, .int .i64 0, .int .i64 0, .int .i64 0, .int .i64 0, .int .i64 0, .bool false, .bool false, .string ⟨#[]⟩, .string ⟨#[]⟩, .int .i64 0, .int .i64 0, .int .i64 0, .int .i64 0, .string ⟨#[]⟩, .int .i64 0, .int .i64 0, .int .i64 0, .int .i64 0, .int .i64 0, .int .i64 0, .int .i64 0, .int .i64 0, .int .i64 0, .int .i64 0, .int .i64 0, .bool false, .bool false, .bool false, .slice none 0 0, .string ⟨#[]⟩] 37
  have hl := bel1 w (.cells #[.int .i64 0, .int .i64 0, .int .i64 0, .int .i64 0, .string ⟨#[]⟩, .int .i64 0, .int .i64 0, .int .i64 0, .int .i64 0, .int .i64 0, .int .i64 0, .int .i64 0, .int .i64 0, .int .i64 0, .int .i64 0, .int .i64 0, .bool false, .bool false, .string ⟨#[]⟩, .string ⟨#[]⟩, .int .i64 0, .int .i64 0, .int .i64 0, .int .i64 0, .string ⟨#[]⟩, .int .i64 0, .int .i64 0, .int .i64 0, .int .i64 0, .int .i64 0, .int .i64 0, .int .i64 0, .int .i64 0, .int .i64 0, .int .i64 0, .int .i64 0, .bool false, .bool false, .bool false, .slice none 0 0, .string ⟨#[]⟩] 37)
  go_enter Tryz.func12, Tryz.ntmps12
  go_upto_region 1 with fail
  generalize hw0 : w.alloc (.cells #[.int .i64 0, .int .i64 0, .int .i64 0, .int .i64 0, .string ⟨#[]⟩, .int .i64 0, .int .i64 0, .int .i64 0, .int .i64 0, .int .i64 0, .int .i64 0, .int .i64 0, .int .i64 0, .int .i64 0, .int .i64 0, .int .i64 0, .bool false, .bool false, .string ⟨#[]⟩, .string ⟨#[]⟩, .int .i64 0, .int .i64 0, .int .i64 0, .int .i64 0, .string ⟨#[]⟩, .int .i64 0, .int .i64 0, .int .i64 0, .int .i64 0, .int .i64 0, .int .i64 0, .int .i64 0, .int .i64 0, .int .i64 0, .int .i64 0, .int .i64 0, .bool false, .bool false, .bool false, .slice none 0 0, .string ⟨#[]⟩] 37) = w0 at *
  clear hw0
  have hz := buildZ
  have hb3 : ∀ W, (Instr.build 72 #[(0, .string l), (1, .int .i64 a), (2, .iface 42 (.int .i64 c))]).run Tryz.prog W = .ok (.agg #[.string l, .int .i64 a, .iface 42 (.int .i64 c)]) W := fun W => run_build W 72 _ _ (by kernel_rfl)
  have hbx := bel1 w0 (.cells #[.string l, .int .i64 a, .iface 42 (.int .i64 c)] 72)
  have hP := At.box w0 #[.string l, .int .i64 a, .iface 42 (.int .i64 c)] 72
  have hR2 := hR.later hbx
  go_wp2_with (refine wpList_store_mid (by rfl) 37 _ _ (by rfl) (w.heap.size) 0 PZ (by rfl) (by rfl) hR2.there size36 PZ_one ?_)
  go_wp2
  exact bodyPost_ret (v := .tuple #[.agg PZ, failE w0.heap.size]) (ret_cell41 (by rfl) (At.whole (vs := PZ) hR2 rfl) rfl (by rfl) (by rfl)) (by rfl) ⟨w0.heap.size, rfl, hl.size, At.apart hP (Nat.ne_of_lt hR.1) _ _, Below.setCells (Nat.le_refl _) _ _ _ (bt hl hbx)⟩
end Go.Proofs.YtkpdmgoldngdaabGreatDoor

namespace Go.Proofs.YtkpdmgoldngdaabGreatDoor
open Go.RowKit
set_option maxRecDepth 100000
set_option linter.unusedVariables false

theorem size27 : (Tryz.prog.info? 28).map (·.size) = some 10 := by kernel_rfl
theorem size29 : (Tryz.prog.info? 30).map (·.size) = some 5 := by kernel_rfl
def InnP (r : Except (ByteArray × Int × Int) Pd) (w : World) (e : Ending) (w' : World) : Prop := match r with
  | .error q => ∃ p, e = .returned (.tuple #[.agg PZ, .iface 70 (.pointer (some ⟨p, 0, none⟩))]) ∧ w.heap.size ≤ p ∧ At w' p (FailV q.1 q.2.1 q.2.2) ∧ Below w.heap.size w w'
  | .ok y => ∃ v, e = .returned (.tuple #[.agg (y.v v), .nilIface]) ∧ RgA w.heap.size w' v y.sg.o.rs ∧ Below w.heap.size w w'
theorem RgA.nil (base : Nat) (W : World) : RgA base W (.slice none 0 0) [] := ⟨none, 0, rfl, ⟨Nat.le_refl _, fun _ => rfl⟩, .inl rfl⟩
set_option maxHeartbeats 4000000 in
theorem inn_1 (x : PkT) (c : Int) (w : World)
    (HC : Hid (∀ W, Calls Tryz.prog 63 #[.agg #[.int .i64 x.f, .int .i64 x.t, .int .i64 x.tl, .int .i64 x.pr, .int .i64 x.id, .int .i64 x.fg, .bool x.mo, .bool x.dn, .string x.op, .string x.da]] W fun e w' => e = .returned (.int .i64 c) ∧ Below W.heap.size W w'))
    (hc : (c != 0) = true) :
    Calls Tryz.prog 30 #[.agg #[.int .i64 x.f, .int .i64 x.t, .int .i64 x.tl, .int .i64 x.pr, .int .i64 x.id, .int .i64 x.fg, .bool x.mo, .bool x.dn, .string x.op, .string x.da]] w fun e w' => ∃ p, e = .returned (.tuple #[.agg PZ, .iface 70 (.pointer (some ⟨p, 0, none⟩))]) ∧ w.heap.size ≤ p ∧ At w' p (FailV ⟨#[105, 112]⟩ (0) (c)) ∧ Below w.heap.size w w' := by
  have hb1 := bel1 w (.cells #[.int .i64 x.f, .int .i64 x.t, .int .i64 x.tl, .int .i64 x.pr, .int .i64 x.id, .int .i64 x.fg, .bool x.mo, .bool x.dn, .string x.op, .string x.da] 28)
  have hb2 := bel1 (w.alloc (.cells #[.int .i64 x.f, .int .i64 x.t, .int .i64 x.tl, .int .i64 x.pr, .int .i64 x.id, .int .i64 x.fg, .bool x.mo, .bool x.dn, .string x.op, .string x.da] 28)) (.cells #[.int .i64 0, .int .i64 0, .int .i64 0, .int .i64 0, .string ⟨#[]⟩, .int .i64 0, .int .i64 0, .int .i64 0, .int .i64 0, .int .i64 0, .int .i64 0, .int .i64 0, .int .i64 0, .int .i64 0, .int .i64 0, .int .i64 0, .bool false, .bool false, .string ⟨#[]⟩, .string ⟨#[]⟩, .int .i64 0, .int .i64 0, .int .i64 0, .int .i64 0, .string ⟨#[]⟩, .int .i64 0, .int .i64 0, .int .i64 0, .int .i64 0, .int .i64 0, .int .i64 0, .int .i64 0, .int .i64 0, .int .i64 0, .int .i64 0, .int .i64 0, .bool false, .bool false, .bool false, .slice none 0 0, .string ⟨#[]⟩] 37)
  have hA := (At.box w #[.int .i64 x.f, .int .i64 x.t, .int .i64 x.tl, .int .i64 x.pr, .int .i64 x.id, .int .i64 x.fg, .bool x.mo, .bool x.dn, .string x.op, .string x.da] 28).later hb2
  have hR : At ((w.alloc (.cells #[.int .i64 x.f, .int .i64 x.t, .int .i64 x.tl, .int .i64 x.pr, .int .i64 x.id, .int .i64 x.fg, .bool x.mo, .bool x.dn, .string x.op, .string x.da] 28)).alloc (.cells #[.int .i64 0, .int .i64 0, .int .i64 0, .int .i64 0, .string ⟨#[]⟩, .int .i64 0, .int .i64 0, .int .i64 0, .int .i64 0, .int .i64 0, .int .i64 0, .int .i64 0, .int .i64 0, .int .i64 0, .int .i64 0, .int .i64 0, .bool false, .bool false, .string ⟨#[]⟩, .string ⟨#[]⟩, .int .i64 0, .int .i64 0, .int .i64 0, .int .i64 0, .string ⟨#[]⟩, .int .i64 0, .int .i64 0, .int .i64 0, .int .i64 0, .int .i64 0, .int .i64 0, .int .i64 0, .int .i64 0, .int .i64 0, .int .i64 0, .int .i64 0, .bool false, .bool false, .bool false, .slice none 0 0, .string ⟨#[]⟩] 37)) (w.heap.size + 1) PZ := At.box2 w (.cells #[.int .i64 x.f, .int .i64 x.t, .int .i64 x.tl, .int .i64 x.pr, .int .i64 x.id, .int .i64 x.fg, .bool x.mo, .bool x.dn, .string x.op, .string x.da] 28) #[.int .i64 0, .int .i64 0, .int .i64 0, .int .i64 0, .string ⟨#[]⟩, .int .i64 0, .int .i64 0, .int .i64 0, .int .i64 0, .int .i64 0, .int .i64 0, .int .i64 0, .int .i64 0, .int .i64 0, .int .i64 0, .int .i64 0, .bool false, .bool false, .string ⟨#[]⟩, .string ⟨#[]⟩, .int .i64 0, .int .i64 0, .int .i64 0, .int .i64 0, .string ⟨#[]⟩, .int .i64 0, .int .i64 0, .int .i64 0, .int .i64 0, .int .i64 0, .int .i64 0, .int .i64 0, .int .i64 0, .int .i64 0, .int .i64 0, .int .i64 0, .bool false, .bool false, .bool false, .slice none 0 0, .string ⟨#[]⟩] 37
  have hl := bt hb1 hb2
  have hz := buildZ
  clear hb1 hb2
  go_enter Tryz.func30, Tryz.ntmps30
  go_upto_region 1 with fail
  generalize hw0 : (w.alloc (.cells #[.int .i64 x.f, .int .i64 x.t, .int .i64 x.tl, .int .i64 x.pr, .int .i64 x.id, .int .i64 x.fg, .bool x.mo, .bool x.dn, .string x.op, .string x.da] 28)).alloc (.cells #[.int .i64 0, .int .i64 0, .int .i64 0, .int .i64 0, .string ⟨#[]⟩, .int .i64 0, .int .i64 0, .int .i64 0, .int .i64 0, .int .i64 0, .int .i64 0, .int .i64 0, .int .i64 0, .int .i64 0, .int .i64 0, .int .i64 0, .bool false, .bool false, .string ⟨#[]⟩, .string ⟨#[]⟩, .int .i64 0, .int .i64 0, .int .i64 0, .int .i64 0, .string ⟨#[]⟩, .int .i64 0, .int .i64 0, .int .i64 0, .int .i64 0, .int .i64 0, .int .i64 0, .int .i64 0, .int .i64 0, .int .i64 0, .int .i64 0, .int .i64 0, .bool false, .bool false, .bool false, .slice none 0 0, .string ⟨#[]⟩] 37) = w0 at *
  clear hw0
  go_wp2_with (refine wpList_loadG 28 _ (by rfl) (by rfl) (w.heap.size) 0 (by rfl) _ _ hA.range Tryz.underlying28 rfl size27 ?_)
  refine (HC.out _).mono ?_
  rintro e w1 ⟨rfl, hb⟩
  replace hl := bt hl hb
  replace hA := hA.later hb
  replace hR := hR.later hb
  clear hb
  clear HC
  go_wp2_with fail
  refine (refuse_s _ _ _ _).mono ?_
  rintro e wr ⟨p, rfl, hp, hP, hb⟩
  have hlt := Nat.lt_of_lt_of_le hR.1 hp
  have hwp := Nat.le_trans hl.size hp
  replace hl := bt hl hb
  replace hR := hR.later hb
  clear hb
  go_wp2_with (refine wpList_store_mid (by rfl) 37 _ _ (by rfl) (w.heap.size + 1) 0 (PZ) (by rfl) (by rfl) hR.there size36 PZ_one ?_)
  go_wp2
  exact bodyPost_ret (v := .tuple #[.agg PZ, .iface 70 (.pointer (some ⟨p, 0, none⟩))]) (ret_cell41 (by rfl) (At.whole (vs := PZ) hR rfl) rfl (by rfl) (by rfl)) (by rfl) ⟨p, rfl, hwp, At.apart hP (Nat.ne_of_lt hlt) _ _, Below.setCells (by omega) _ _ _ hl⟩
set_option maxHeartbeats 4000000 in
theorem inn_2 (x : PkT) (w : World)
    (HC : Hid (∀ W, Calls Tryz.prog 63 #[.agg #[.int .i64 x.f, .int .i64 x.t, .int .i64 x.tl, .int .i64 x.pr, .int .i64 x.id, .int .i64 x.fg, .bool x.mo, .bool x.dn, .string x.op, .string x.da]] W fun e w' => e = .returned (.int .i64 0) ∧ Below W.heap.size W w'))
    (HW : Hid (∀ W, Calls Tryz.prog 64 #[.agg #[.int .i64 x.f, .int .i64 x.t, .int .i64 x.tl, .int .i64 x.pr, .int .i64 x.id, .int .i64 x.fg, .bool x.mo, .bool x.dn, .string x.op, .string x.da]] W fun e w' => e = .returned (.bool false) ∧ Below W.heap.size W w')) :
    Calls Tryz.prog 30 #[.agg #[.int .i64 x.f, .int .i64 x.t, .int .i64 x.tl, .int .i64 x.pr, .int .i64 x.id, .int .i64 x.fg, .bool x.mo, .bool x.dn, .string x.op, .string x.da]] w fun e w' => ∃ v, e = .returned (.tuple #[.agg (Pd.v ((⟨2, FrT.zero, ArT.zero, x, IcT.zero, Sg.zero⟩ : Pd)) v), .nilIface]) ∧ RgA w.heap.size w' v ((⟨2, FrT.zero, ArT.zero, x, IcT.zero, Sg.zero⟩ : Pd)).sg.o.rs ∧ Below w.heap.size w w' := by
  have hb1 := bel1 w (.cells #[.int .i64 x.f, .int .i64 x.t, .int .i64 x.tl, .int .i64 x.pr, .int .i64 x.id, .int .i64 x.fg, .bool x.mo, .bool x.dn, .string x.op, .string x.da] 28)
  have hb2 := bel1 (w.alloc (.cells #[.int .i64 x.f, .int .i64 x.t, .int .i64 x.tl, .int .i64 x.pr, .int .i64 x.id, .int .i64 x.fg, .bool x.mo, .bool x.dn, .string x.op, .string x.da] 28)) (.cells #[.int .i64 0, .int .i64 0, .int .i64 0, .int .i64 0, .string ⟨#[]⟩, .int .i64 0, .int .i64 0, .int .i64 0, .int .i64 0, .int .i64 0, .int .i64 0, .int .i64 0, .int .i64 0, .int .i64 0, .int .i64 0, .int .i64 0, .bool false, .bool false, .string ⟨#[]⟩, .string ⟨#[]⟩, .int .i64 0, .int .i64 0, .int .i64 0, .int .i64 0, .string ⟨#[]⟩, .int .i64 0, .int .i64 0, .int .i64 0, .int .i64 0, .int .i64 0, .int .i64 0, .int .i64 0, .int .i64 0, .int .i64 0, .int .i64 0, .int .i64 0, .bool false, .bool false, .bool false, .slice none 0 0, .string ⟨#[]⟩] 37)
  have hA := (At.box w #[.int .i64 x.f, .int .i64 x.t, .int .i64 x.tl, .int .i64 x.pr, .int .i64 x.id, .int .i64 x.fg, .bool x.mo, .bool x.dn, .string x.op, .string x.da] 28).later hb2
  have hR : At ((w.alloc (.cells #[.int .i64 x.f, .int .i64 x.t, .int .i64 x.tl, .int .i64 x.pr, .int .i64 x.id, .int .i64 x.fg, .bool x.mo, .bool x.dn, .string x.op, .string x.da] 28)).alloc (.cells #[.int .i64 0, .int .i64 0, .int .i64 0, .int .i64 0, .string ⟨#[]⟩, .int .i64 0, .int .i64 0, .int .i64 0, .int .i64 0, .int .i64 0, .int .i64 0, .int .i64 0, .int .i64 0, .int .i64 0, .int .i64 0, .int .i64 0, .bool false, .bool false, .string ⟨#[]⟩, .string ⟨#[]⟩, .int .i64 0, .int .i64 0, .int .i64 0, .int .i64 0, .string ⟨#[]⟩, .int .i64 0, .int .i64 0, .int .i64 0, .int .i64 0, .int .i64 0, .int .i64 0, .int .i64 0, .int .i64 0, .int .i64 0, .int .i64 0, .int .i64 0, .bool false, .bool false, .bool false, .slice none 0 0, .string ⟨#[]⟩] 37)) (w.heap.size + 1) PZ := At.box2 w (.cells #[.int .i64 x.f, .int .i64 x.t, .int .i64 x.tl, .int .i64 x.pr, .int .i64 x.id, .int .i64 x.fg, .bool x.mo, .bool x.dn, .string x.op, .string x.da] 28) #[.int .i64 0, .int .i64 0, .int .i64 0, .int .i64 0, .string ⟨#[]⟩, .int .i64 0, .int .i64 0, .int .i64 0, .int .i64 0, .int .i64 0, .int .i64 0, .int .i64 0, .int .i64 0, .int .i64 0, .int .i64 0, .int .i64 0, .bool false, .bool false, .string ⟨#[]⟩, .string ⟨#[]⟩, .int .i64 0, .int .i64 0, .int .i64 0, .int .i64 0, .string ⟨#[]⟩, .int .i64 0, .int .i64 0, .int .i64 0, .int .i64 0, .int .i64 0, .int .i64 0, .int .i64 0, .int .i64 0, .int .i64 0, .int .i64 0, .int .i64 0, .bool false, .bool false, .bool false, .slice none 0 0, .string ⟨#[]⟩] 37
  have hl := bt hb1 hb2
  have hz := buildZ
  clear hb1 hb2
  go_enter Tryz.func30, Tryz.ntmps30
  go_upto_region 1 with fail
  generalize hw0 : (w.alloc (.cells #[.int .i64 x.f, .int .i64 x.t, .int .i64 x.tl, .int .i64 x.pr, .int .i64 x.id, .int .i64 x.fg, .bool x.mo, .bool x.dn, .string x.op, .string x.da] 28)).alloc (.cells #[.int .i64 0, .int .i64 0, .int .i64 0, .int .i64 0, .string ⟨#[]⟩, .int .i64 0, .int .i64 0, .int .i64 0, .int .i64 0, .int .i64 0, .int .i64 0, .int .i64 0, .int .i64 0, .int .i64 0, .int .i64 0, .int .i64 0, .bool false, .bool false, .string ⟨#[]⟩, .string ⟨#[]⟩, .int .i64 0, .int .i64 0, .int .i64 0, .int .i64 0, .string ⟨#[]⟩, .int .i64 0, .int .i64 0, .int .i64 0, .int .i64 0, .int .i64 0, .int .i64 0, .int .i64 0, .int .i64 0, .int .i64 0, .int .i64 0, .int .i64 0, .bool false, .bool false, .bool false, .slice none 0 0, .string ⟨#[]⟩] 37) = w0 at *
  clear hw0
  go_wp2_with (refine wpList_loadG 28 _ (by rfl) (by rfl) (w.heap.size) 0 (by rfl) _ _ hA.range Tryz.underlying28 rfl size27 ?_)
  refine (HC.out _).mono ?_
  rintro e w1 ⟨rfl, hb⟩
  replace hl := bt hl hb
  replace hA := hA.later hb
  replace hR := hR.later hb
  clear hb
  clear HC
  go_wp2_with (refine wpList_loadG 28 _ (by rfl) (by rfl) (w.heap.size) 0 (by rfl) _ _ hA.range Tryz.underlying28 rfl size27 ?_)
  refine (HW.out _).mono ?_
  rintro e w2 ⟨rfl, hb⟩
  replace hl := bt hl hb
  replace hA := hA.later hb
  replace hR := hR.later hb
  clear hb
  clear HW
  have hb5 : ∀ W, (Instr.build 37 #[(0, .int .i64 2), (3, .agg #[.int .i64 x.f, .int .i64 x.t, .int .i64 x.tl, .int .i64 x.pr, .int .i64 x.id, .int .i64 x.fg, .bool x.mo, .bool x.dn, .string x.op, .string x.da])]).run Tryz.prog W = .ok (.agg ((⟨2, FrT.zero, ArT.zero, x, IcT.zero, Sg.zero⟩ : Pd).v (.slice none 0 0))) W := fun W => run_build W 37 _ _ (by kernel_rfl)
  go_wp2_with (first | (refine wpList_loadG 28 _ (by rfl) (by rfl) (w.heap.size) 0 (by rfl) _ _ hA.range Tryz.underlying28 rfl size27 ?_) | (refine wpList_store_mid (by rfl) 37 _ _ (by rfl) (w.heap.size + 1) 0 ((⟨2, FrT.zero, ArT.zero, x, IcT.zero, Sg.zero⟩ : Pd).v (.slice none 0 0)) (by rfl) (by rfl) hR.there size36 (Pd.one _ rfl) ?_))
  go_wp2
  exact bodyPost_ret (v := .tuple #[.agg ((⟨2, FrT.zero, ArT.zero, x, IcT.zero, Sg.zero⟩ : Pd).v (.slice none 0 0)), .nilIface]) (ret_cell41 (by rfl) (At.whole (vs := (⟨2, FrT.zero, ArT.zero, x, IcT.zero, Sg.zero⟩ : Pd).v (.slice none 0 0)) hR rfl) rfl (by rfl) (by rfl)) (by rfl) ⟨_, rfl, RgA.nil _ _, Below.setCells (by omega) _ _ _ hl⟩
set_option maxHeartbeats 4000000 in
theorem inn_5 (x : PkT) (w : World)
    (HC : Hid (∀ W, Calls Tryz.prog 63 #[.agg #[.int .i64 x.f, .int .i64 x.t, .int .i64 x.tl, .int .i64 x.pr, .int .i64 x.id, .int .i64 x.fg, .bool x.mo, .bool x.dn, .string x.op, .string x.da]] W fun e w' => e = .returned (.int .i64 0) ∧ Below W.heap.size W w'))
    (HW : Hid (∀ W, Calls Tryz.prog 64 #[.agg #[.int .i64 x.f, .int .i64 x.t, .int .i64 x.tl, .int .i64 x.pr, .int .i64 x.id, .int .i64 x.fg, .bool x.mo, .bool x.dn, .string x.op, .string x.da]] W fun e w' => e = .returned (.bool true) ∧ Below W.heap.size W w'))
    (e20 : IntKind.i64.wrap (20 + (x.op.size : Int)) = 20 + (x.op.size : Int)) (hop : x.op.size ≤ 140737488355328)
    (q1 : (x.pr == 1) = false) (q6 : (x.pr == 6) = false) :
    Calls Tryz.prog 30 #[.agg #[.int .i64 x.f, .int .i64 x.t, .int .i64 x.tl, .int .i64 x.pr, .int .i64 x.id, .int .i64 x.fg, .bool x.mo, .bool x.dn, .string x.op, .string x.da]] w fun e w' => ∃ p, e = .returned (.tuple #[.agg PZ, .iface 70 (.pointer (some ⟨p, 0, none⟩))]) ∧ w.heap.size ≤ p ∧ At w' p (FailV ⟨#[105, 112]⟩ (0) (90)) ∧ Below w.heap.size w w' := by
  have hb1 := bel1 w (.cells #[.int .i64 x.f, .int .i64 x.t, .int .i64 x.tl, .int .i64 x.pr, .int .i64 x.id, .int .i64 x.fg, .bool x.mo, .bool x.dn, .string x.op, .string x.da] 28)
  have hb2 := bel1 (w.alloc (.cells #[.int .i64 x.f, .int .i64 x.t, .int .i64 x.tl, .int .i64 x.pr, .int .i64 x.id, .int .i64 x.fg, .bool x.mo, .bool x.dn, .string x.op, .string x.da] 28)) (.cells #[.int .i64 0, .int .i64 0, .int .i64 0, .int .i64 0, .string ⟨#[]⟩, .int .i64 0, .int .i64 0, .int .i64 0, .int .i64 0, .int .i64 0, .int .i64 0, .int .i64 0, .int .i64 0, .int .i64 0, .int .i64 0, .int .i64 0, .bool false, .bool false, .string ⟨#[]⟩, .string ⟨#[]⟩, .int .i64 0, .int .i64 0, .int .i64 0, .int .i64 0, .string ⟨#[]⟩, .int .i64 0, .int .i64 0, .int .i64 0, .int .i64 0, .int .i64 0, .int .i64 0, .int .i64 0, .int .i64 0, .int .i64 0, .int .i64 0, .int .i64 0, .bool false, .bool false, .bool false, .slice none 0 0, .string ⟨#[]⟩] 37)
  have hA := (At.box w #[.int .i64 x.f, .int .i64 x.t, .int .i64 x.tl, .int .i64 x.pr, .int .i64 x.id, .int .i64 x.fg, .bool x.mo, .bool x.dn, .string x.op, .string x.da] 28).later hb2
  have hR : At ((w.alloc (.cells #[.int .i64 x.f, .int .i64 x.t, .int .i64 x.tl, .int .i64 x.pr, .int .i64 x.id, .int .i64 x.fg, .bool x.mo, .bool x.dn, .string x.op, .string x.da] 28)).alloc (.cells #[.int .i64 0, .int .i64 0, .int .i64 0, .int .i64 0, .string ⟨#[]⟩, .int .i64 0, .int .i64 0, .int .i64 0, .int .i64 0, .int .i64 0, .int .i64 0, .int .i64 0, .int .i64 0, .int .i64 0, .int .i64 0, .int .i64 0, .bool false, .bool false, .string ⟨#[]⟩, .string ⟨#[]⟩, .int .i64 0, .int .i64 0, .int .i64 0, .int .i64 0, .string ⟨#[]⟩, .int .i64 0, .int .i64 0, .int .i64 0, .int .i64 0, .int .i64 0, .int .i64 0, .int .i64 0, .int .i64 0, .int .i64 0, .int .i64 0, .int .i64 0, .bool false, .bool false, .bool false, .slice none 0 0, .string ⟨#[]⟩] 37)) (w.heap.size + 1) PZ := At.box2 w (.cells #[.int .i64 x.f, .int .i64 x.t, .int .i64 x.tl, .int .i64 x.pr, .int .i64 x.id, .int .i64 x.fg, .bool x.mo, .bool x.dn, .string x.op, .string x.da] 28) #[.int .i64 0, .int .i64 0, .int .i64 0, .int .i64 0, .string ⟨#[]⟩, .int .i64 0, .int .i64 0, .int .i64 0, .int .i64 0, .int .i64 0, .int .i64 0, .int .i64 0, .int .i64 0, .int .i64 0, .int .i64 0, .int .i64 0, .bool false, .bool false, .string ⟨#[]⟩, .string ⟨#[]⟩, .int .i64 0, .int .i64 0, .int .i64 0, .int .i64 0, .string ⟨#[]⟩, .int .i64 0, .int .i64 0, .int .i64 0, .int .i64 0, .int .i64 0, .int .i64 0, .int .i64 0, .int .i64 0, .int .i64 0, .int .i64 0, .int .i64 0, .bool false, .bool false, .bool false, .slice none 0 0, .string ⟨#[]⟩] 37
  have hl := bt hb1 hb2
  have hz := buildZ
  clear hb1 hb2
  go_enter Tryz.func30, Tryz.ntmps30
  go_upto_region 1 with fail
  generalize hw0 : (w.alloc (.cells #[.int .i64 x.f, .int .i64 x.t, .int .i64 x.tl, .int .i64 x.pr, .int .i64 x.id, .int .i64 x.fg, .bool x.mo, .bool x.dn, .string x.op, .string x.da] 28)).alloc (.cells #[.int .i64 0, .int .i64 0, .int .i64 0, .int .i64 0, .string ⟨#[]⟩, .int .i64 0, .int .i64 0, .int .i64 0, .int .i64 0, .int .i64 0, .int .i64 0, .int .i64 0, .int .i64 0, .int .i64 0, .int .i64 0, .int .i64 0, .bool false, .bool false, .string ⟨#[]⟩, .string ⟨#[]⟩, .int .i64 0, .int .i64 0, .int .i64 0, .int .i64 0, .string ⟨#[]⟩, .int .i64 0, .int .i64 0, .int .i64 0, .int .i64 0, .int .i64 0, .int .i64 0, .int .i64 0, .int .i64 0, .int .i64 0, .int .i64 0, .int .i64 0, .bool false, .bool false, .bool false, .slice none 0 0, .string ⟨#[]⟩] 37) = w0 at *
  clear hw0
  go_wp2_with (refine wpList_loadG 28 _ (by rfl) (by rfl) (w.heap.size) 0 (by rfl) _ _ hA.range Tryz.underlying28 rfl size27 ?_)
  refine (HC.out _).mono ?_
  rintro e w1 ⟨rfl, hb⟩
  replace hl := bt hl hb
  replace hA := hA.later hb
  replace hR := hR.later hb
  clear hb
  clear HC
  go_wp2_with (refine wpList_loadG 28 _ (by rfl) (by rfl) (w.heap.size) 0 (by rfl) _ _ hA.range Tryz.underlying28 rfl size27 ?_)
  refine (HW.out _).mono ?_
  rintro e w2 ⟨rfl, hb⟩
  replace hl := bt hl hb
  replace hA := hA.later hb
  replace hR := hR.later hb
  clear hb
  clear HW
  have c8 := (hA.2 8 _ rfl).1
  have c3 := (hA.2 3 _ rfl).1
  go_wp2_with fail
  refine (refuse_s _ _ _ _).mono ?_
  rintro e wr ⟨p, rfl, hp, hP, hb⟩
  have hlt := Nat.lt_of_lt_of_le hR.1 hp
  have hwp := Nat.le_trans hl.size hp
  replace hl := bt hl hb
  replace hR := hR.later hb
  clear hb
  go_wp2_with (refine wpList_store_mid (by rfl) 37 _ _ (by rfl) (w.heap.size + 1) 0 (PZ) (by rfl) (by rfl) hR.there size36 PZ_one ?_)
  go_wp2
  exact bodyPost_ret (v := .tuple #[.agg PZ, .iface 70 (.pointer (some ⟨p, 0, none⟩))]) (ret_cell41 (by rfl) (At.whole (vs := PZ) hR rfl) rfl (by rfl) (by rfl)) (by rfl) ⟨p, rfl, hwp, At.apart hP (Nat.ne_of_lt hlt) _ _, Below.setCells (by omega) _ _ _ hl⟩
set_option maxHeartbeats 4000000 in
theorem inn_3 (x : PkT) (m : IcT) (c : Int) (w : World)
    (HC : Hid (∀ W, Calls Tryz.prog 63 #[.agg #[.int .i64 x.f, .int .i64 x.t, .int .i64 x.tl, .int .i64 x.pr, .int .i64 x.id, .int .i64 x.fg, .bool x.mo, .bool x.dn, .string x.op, .string x.da]] W fun e w' => e = .returned (.int .i64 0) ∧ Below W.heap.size W w'))
    (HW : Hid (∀ W, Calls Tryz.prog 64 #[.agg #[.int .i64 x.f, .int .i64 x.t, .int .i64 x.tl, .int .i64 x.pr, .int .i64 x.id, .int .i64 x.fg, .bool x.mo, .bool x.dn, .string x.op, .string x.da]] W fun e w' => e = .returned (.bool true) ∧ Below W.heap.size W w'))
    (e20 : IntKind.i64.wrap (20 + (x.op.size : Int)) = 20 + (x.op.size : Int)) (hop : x.op.size ≤ 140737488355328)
    (q1 : (x.pr == 1) = true)
    (HI : Hid (∀ W, Calls Tryz.prog 65 #[.string x.da] W fun e w' => e = .returned (.tuple #[.agg #[.int .i64 m.ty, .int .i64 m.co, .int .i64 m.x, .int .i64 m.y, .string m.da], .int .i64 c]) ∧ Below W.heap.size W w'))
    (hc : (c != 0) = true) :
    Calls Tryz.prog 30 #[.agg #[.int .i64 x.f, .int .i64 x.t, .int .i64 x.tl, .int .i64 x.pr, .int .i64 x.id, .int .i64 x.fg, .bool x.mo, .bool x.dn, .string x.op, .string x.da]] w fun e w' => ∃ p, e = .returned (.tuple #[.agg PZ, .iface 70 (.pointer (some ⟨p, 0, none⟩))]) ∧ w.heap.size ≤ p ∧ At w' p (FailV ⟨#[105, 99, 109, 112]⟩ (20 + (x.op.size : Int)) (c)) ∧ Below w.heap.size w w' := by
  have hb1 := bel1 w (.cells #[.int .i64 x.f, .int .i64 x.t, .int .i64 x.tl, .int .i64 x.pr, .int .i64 x.id, .int .i64 x.fg, .bool x.mo, .bool x.dn, .string x.op, .string x.da] 28)
  have hb2 := bel1 (w.alloc (.cells #[.int .i64 x.f, .int .i64 x.t, .int .i64 x.tl, .int .i64 x.pr, .int .i64 x.id, .int .i64 x.fg, .bool x.mo, .bool x.dn, .string x.op, .string x.da] 28)) (.cells #[.int .i64 0, .int .i64 0, .int .i64 0, .int .i64 0, .string ⟨#[]⟩, .int .i64 0, .int .i64 0, .int .i64 0, .int .i64 0, .int .i64 0, .int .i64 0, .int .i64 0, .int .i64 0, .int .i64 0, .int .i64 0, .int .i64 0, .bool false, .bool false, .string ⟨#[]⟩, .string ⟨#[]⟩, .int .i64 0, .int .i64 0, .int .i64 0, .int .i64 0, .string ⟨#[]⟩, .int .i64 0, .int .i64 0, .int .i64 0, .int .i64 0, .int .i64 0, .int .i64 0, .int .i64 0, .int .i64 0, .int .i64 0, .int .i64 0, .int .i64 0, .bool false, .bool false, .bool false, .slice none 0 0, .string ⟨#[]⟩] 37)
  have hA := (At.box w #[.int .i64 x.f, .int .i64 x.t, .int .i64 x.tl, .int .i64 x.pr, .int .i64 x.id, .int .i64 x.fg, .bool x.mo, .bool x.dn, .string x.op, .string x.da] 28).later hb2
  have hR : At ((w.alloc (.cells #[.int .i64 x.f, .int .i64 x.t, .int .i64 x.tl, .int .i64 x.pr, .int .i64 x.id, .int .i64 x.fg, .bool x.mo, .bool x.dn, .string x.op, .string x.da] 28)).alloc (.cells #[.int .i64 0, .int .i64 0, .int .i64 0, .int .i64 0, .string ⟨#[]⟩, .int .i64 0, .int .i64 0, .int .i64 0, .int .i64 0, .int .i64 0, .int .i64 0, .int .i64 0, .int .i64 0, .int .i64 0, .int .i64 0, .int .i64 0, .bool false, .bool false, .string ⟨#[]⟩, .string ⟨#[]⟩, .int .i64 0, .int .i64 0, .int .i64 0, .int .i64 0, .string ⟨#[]⟩, .int .i64 0, .int .i64 0, .int .i64 0, .int .i64 0, .int .i64 0, .int .i64 0, .int .i64 0, .int .i64 0, .int .i64 0, .int .i64 0, .int .i64 0, .bool false, .bool false, .bool false, .slice none 0 0, .string ⟨#[]⟩] 37)) (w.heap.size + 1) PZ := At.box2 w (.cells #[.int .i64 x.f, .int .i64 x.t, .int .i64 x.tl, .int .i64 x.pr, .int .i64 x.id, .int .i64 x.fg, .bool x.mo, .bool x.dn, .string x.op, .string x.da] 28) #[.int .i64 0, .int .i64 0, .int .i64 0, .int .i64 0, .string ⟨#[]⟩, .int .i64 0, .int .i64 0, .int .i64 0, .int .i64 0, .int .i64 0, .int .i64 0, .int .i64 0, .int .i64 0, .int .i64 0, .int .i64 0, .int .i64 0, .bool false, .bool false, .string ⟨#[]⟩, .string ⟨#[]⟩, .int .i64 0, .int .i64 0, .int .i64 0, .int .i64 0, .string ⟨#[]⟩, .int .i64 0, .int .i64 0, .int .i64 0, .int .i64 0, .int .i64 0, .int .i64 0, .int .i64 0, .int .i64 0, .int .i64 0, .int .i64 0, .int .i64 0, .bool false, .bool false, .bool false, .slice none 0 0, .string ⟨#[]⟩] 37
  have hl := bt hb1 hb2
  have hz := buildZ
  clear hb1 hb2
  go_enter Tryz.func30, Tryz.ntmps30
  go_upto_region 1 with fail
  generalize hw0 : (w.alloc (.cells #[.int .i64 x.f, .int .i64 x.t, .int .i64 x.tl, .int .i64 x.pr, .int .i64 x.id, .int .i64 x.fg, .bool x.mo, .bool x.dn, .string x.op, .string x.da] 28)).alloc (.cells #[.int .i64 0, .int .i64 0, .int .i64 0, .int .i64 0, .string ⟨#[]⟩, .int .i64 0, .int .i64 0, .int .i64 0, .int .i64 0, .int .i64 0, .int .i64 0, .int .i64 0, .int .i64 0, .int .i64 0, .int .i64 0, .int .i64 0, .bool false, .bool false, .string ⟨#[]⟩, .string ⟨#[]⟩, .int .i64 0, .int .i64 0, .int .i64 0, .int .i64 0, .string ⟨#[]⟩, .int .i64 0, .int .i64 0, .int .i64 0, .int .i64 0, .int .i64 0, .int .i64 0, .int .i64 0, .int .i64 0, .int .i64 0, .int .i64 0, .int .i64 0, .bool false, .bool false, .bool false, .slice none 0 0, .string ⟨#[]⟩] 37) = w0 at *
  clear hw0
  go_wp2_with (refine wpList_loadG 28 _ (by rfl) (by rfl) (w.heap.size) 0 (by rfl) _ _ hA.range Tryz.underlying28 rfl size27 ?_)
  refine (HC.out _).mono ?_
  rintro e w1 ⟨rfl, hb⟩
  replace hl := bt hl hb
  replace hA := hA.later hb
  replace hR := hR.later hb
  clear hb
  clear HC
  go_wp2_with (refine wpList_loadG 28 _ (by rfl) (by rfl) (w.heap.size) 0 (by rfl) _ _ hA.range Tryz.underlying28 rfl size27 ?_)
  refine (HW.out _).mono ?_
  rintro e w2 ⟨rfl, hb⟩
  replace hl := bt hl hb
  replace hA := hA.later hb
  replace hR := hR.later hb
  clear hb
  clear HW
  have c8 := (hA.2 8 _ rfl).1
  have c3 := (hA.2 3 _ rfl).1
  have c9 := (hA.2 9 _ rfl).1
  go_wp2_with fail
  refine (HI.out _).mono ?_
  rintro e w3 ⟨rfl, hb⟩
  have hbx := bel1 w3 (.cells #[.int .i64 m.ty, .int .i64 m.co, .int .i64 m.x, .int .i64 m.y, .string m.da] 30)
  have hI := At.box w3 #[.int .i64 m.ty, .int .i64 m.co, .int .i64 m.x, .int .i64 m.y, .string m.da] 30
  replace hb := bt hb hbx
  replace hl := bt hl hb
  replace hA := hA.later hb
  replace hR := hR.later hb
  clear hb HI c8 c3 c9
  go_upto_region 10 with fail
  obtain ⟨B6, hB6⟩ : ∃ B, B = w3.heap.size := ⟨_, rfl⟩
  rw [← hB6] at hI ⊢
  generalize w3.alloc (.cells #[.int .i64 m.ty, .int .i64 m.co, .int .i64 m.x, .int .i64 m.y, .string m.da] 30) = w4 at *
  clear hbx hB6
  go_wp2_with fail
  refine (refuse_s _ _ _ _).mono ?_
  rintro e wr ⟨p, rfl, hp, hP, hb⟩
  have hlt := Nat.lt_of_lt_of_le hR.1 hp
  have hwp := Nat.le_trans hl.size hp
  replace hl := bt hl hb
  replace hR := hR.later hb
  clear hb
  go_wp2_with (refine wpList_store_mid (by rfl) 37 _ _ (by rfl) (w.heap.size + 1) 0 (PZ) (by rfl) (by rfl) hR.there size36 PZ_one ?_)
  go_wp2
  exact bodyPost_ret (v := .tuple #[.agg PZ, .iface 70 (.pointer (some ⟨p, 0, none⟩))]) (ret_cell41 (by rfl) (At.whole (vs := PZ) hR rfl) rfl (by rfl) (by rfl)) (by rfl) ⟨p, rfl, hwp, At.apart hP (Nat.ne_of_lt hlt) _ _, Below.setCells (by omega) _ _ _ hl⟩
set_option maxHeartbeats 4000000 in
theorem inn_4 (x : PkT) (m : IcT) (w : World)
    (HC : Hid (∀ W, Calls Tryz.prog 63 #[.agg #[.int .i64 x.f, .int .i64 x.t, .int .i64 x.tl, .int .i64 x.pr, .int .i64 x.id, .int .i64 x.fg, .bool x.mo, .bool x.dn, .string x.op, .string x.da]] W fun e w' => e = .returned (.int .i64 0) ∧ Below W.heap.size W w'))
    (HW : Hid (∀ W, Calls Tryz.prog 64 #[.agg #[.int .i64 x.f, .int .i64 x.t, .int .i64 x.tl, .int .i64 x.pr, .int .i64 x.id, .int .i64 x.fg, .bool x.mo, .bool x.dn, .string x.op, .string x.da]] W fun e w' => e = .returned (.bool true) ∧ Below W.heap.size W w'))
    (e20 : IntKind.i64.wrap (20 + (x.op.size : Int)) = 20 + (x.op.size : Int)) (hop : x.op.size ≤ 140737488355328)
    (q1 : (x.pr == 1) = true)
    (HI : Hid (∀ W, Calls Tryz.prog 65 #[.string x.da] W fun e w' => e = .returned (.tuple #[.agg #[.int .i64 m.ty, .int .i64 m.co, .int .i64 m.x, .int .i64 m.y, .string m.da], .int .i64 0]) ∧ Below W.heap.size W w')) :
    Calls Tryz.prog 30 #[.agg #[.int .i64 x.f, .int .i64 x.t, .int .i64 x.tl, .int .i64 x.pr, .int .i64 x.id, .int .i64 x.fg, .bool x.mo, .bool x.dn, .string x.op, .string x.da]] w fun e w' => ∃ v, e = .returned (.tuple #[.agg (Pd.v ((⟨3, FrT.zero, ArT.zero, x, m, Sg.zero⟩ : Pd)) v), .nilIface]) ∧ RgA w.heap.size w' v ((⟨3, FrT.zero, ArT.zero, x, m, Sg.zero⟩ : Pd)).sg.o.rs ∧ Below w.heap.size w w' := by
  have hb1 := bel1 w (.cells #[.int .i64 x.f, .int .i64 x.t, .int .i64 x.tl, .int .i64 x.pr, .int .i64 x.id, .int .i64 x.fg, .bool x.mo, .bool x.dn, .string x.op, .string x.da] 28)
  have hb2 := bel1 (w.alloc (.cells #[.int .i64 x.f, .int .i64 x.t, .int .i64 x.tl, .int .i64 x.pr, .int .i64 x.id, .int .i64 x.fg, .bool x.mo, .bool x.dn, .string x.op, .string x.da] 28)) (.cells #[.int .i64 0, .int .i64 0, .int .i64 0, .int .i64 0, .string ⟨#[]⟩, .int .i64 0, .int .i64 0, .int .i64 0, .int .i64 0, .int .i64 0, .int .i64 0, .int .i64 0, .int .i64 0, .int .i64 0, .int .i64 0, .int .i64 0, .bool false, .bool false, .string ⟨#[]⟩, .string ⟨#[]⟩, .int .i64 0, .int .i64 0, .int .i64 0, .int .i64 0, .string ⟨#[]⟩, .int .i64 0, .int .i64 0, .int .i64 0, .int .i64 0, .int .i64 0, .int .i64 0, .int .i64 0, .int .i64 0, .int .i64 0, .int .i64 0, .int .i64 0, .bool false, .bool false, .bool false, .slice none 0 0, .string ⟨#[]⟩] 37)
  have hA := (At.box w #[.int .i64 x.f, .int .i64 x.t, .int .i64 x.tl, .int .i64 x.pr, .int .i64 x.id, .int .i64 x.fg, .bool x.mo, .bool x.dn, .string x.op, .string x.da] 28).later hb2
  have hR : At ((w.alloc (.cells #[.int .i64 x.f, .int .i64 x.t, .int .i64 x.tl, .int .i64 x.pr, .int .i64 x.id, .int .i64 x.fg, .bool x.mo, .bool x.dn, .string x.op, .string x.da] 28)).alloc (.cells #[.int .i64 0, .int .i64 0, .int .i64 0, .int .i64 0, .string ⟨#[]⟩, .int .i64 0, .int .i64 0, .int .i64 0, .int .i64 0, .int .i64 0, .int .i64 0, .int .i64 0, .int .i64 0, .int .i64 0, .int .i64 0, .int .i64 0, .bool false, .bool false, .string ⟨#[]⟩, .string ⟨#[]⟩, .int .i64 0, .int .i64 0, .int .i64 0, .int .i64 0, .string ⟨#[]⟩, .int .i64 0, .int .i64 0, .int .i64 0, .int .i64 0, .int .i64 0, .int .i64 0, .int .i64 0, .int .i64 0, .int .i64 0, .int .i64 0, .int .i64 0, .bool false, .bool false, .bool false, .slice none 0 0, .string ⟨#[]⟩] 37)) (w.heap.size + 1) PZ := At.box2 w (.cells #[.int .i64 x.f, .int .i64 x.t, .int .i64 x.tl, .int .i64 x.pr, .int .i64 x.id, .int .i64 x.fg, .bool x.mo, .bool x.dn, .string x.op, .string x.da] 28) #[.int .i64 0, .int .i64 0, .int .i64 0, .int .i64 0, .string ⟨#[]⟩, .int .i64 0, .int .i64 0, .int .i64 0, .int .i64 0, .int .i64 0, .int .i64 0, .int .i64 0, .int .i64 0, .int .i64 0, .int .i64 0, .int .i64 0, .bool false, .bool false, .string ⟨#[]⟩, .string ⟨#[]⟩, .int .i64 0, .int .i64 0, .int .i64 0, .int .i64 0, .string ⟨#[]⟩, .int .i64 0, .int .i64 0, .int .i64 0, .int .i64 0, .int .i64 0, .int .i64 0, .int .i64 0, .int .i64 0, .int .i64 0, .int .i64 0, .int .i64 0, .bool false, .bool false, .bool false, .slice none 0 0, .string ⟨#[]⟩] 37
  have hl := bt hb1 hb2
  have hz := buildZ
  clear hb1 hb2
  go_enter Tryz.func30, Tryz.ntmps30
  go_upto_region 1 with fail
  generalize hw0 : (w.alloc (.cells #[.int .i64 x.f, .int .i64 x.t, .int .i64 x.tl, .int .i64 x.pr, .int .i64 x.id, .int .i64 x.fg, .bool x.mo, .bool x.dn, .string x.op, .string x.da] 28)).alloc (.cells #[.int .i64 0, .int .i64 0, .int .i64 0, .int .i64 0, .string ⟨#[]⟩, .int .i64 0, .int .i64 0, .int .i64 0, .int .i64 0, .int .i64 0, .int .i64 0, .int .i64 0, .int .i64 0, .int .i64 0, .int .i64 0, .int .i64 0, .bool false, .bool false, .string ⟨#[]⟩, .string ⟨#[]⟩, .int .i64 0, .int .i64 0, .int .i64 0, .int .i64 0, .string ⟨#[]⟩, .int .i64 0, .int .i64 0, .int .i64 0, .int .i64 0, .int .i64 0, .int .i64 0, .int .i64 0, .int .i64 0, .int .i64 0, .int .i64 0, .int .i64 0, .bool false, .bool false, .bool false, .slice none 0 0, .string ⟨#[]⟩] 37) = w0 at *
  clear hw0
  go_wp2_with (refine wpList_loadG 28 _ (by rfl) (by rfl) (w.heap.size) 0 (by rfl) _ _ hA.range Tryz.underlying28 rfl size27 ?_)
  refine (HC.out _).mono ?_
  rintro e w1 ⟨rfl, hb⟩
  replace hl := bt hl hb
  replace hA := hA.later hb
  replace hR := hR.later hb
  clear hb
  clear HC
  go_wp2_with (refine wpList_loadG 28 _ (by rfl) (by rfl) (w.heap.size) 0 (by rfl) _ _ hA.range Tryz.underlying28 rfl size27 ?_)
  refine (HW.out _).mono ?_
  rintro e w2 ⟨rfl, hb⟩
  replace hl := bt hl hb
  replace hA := hA.later hb
  replace hR := hR.later hb
  clear hb
  clear HW
  have c8 := (hA.2 8 _ rfl).1
  have c3 := (hA.2 3 _ rfl).1
  have c9 := (hA.2 9 _ rfl).1
  go_wp2_with fail
  refine (HI.out _).mono ?_
  rintro e w3 ⟨rfl, hb⟩
  have hbx := bel1 w3 (.cells #[.int .i64 m.ty, .int .i64 m.co, .int .i64 m.x, .int .i64 m.y, .string m.da] 30)
  have hI := At.box w3 #[.int .i64 m.ty, .int .i64 m.co, .int .i64 m.x, .int .i64 m.y, .string m.da] 30
  replace hb := bt hb hbx
  replace hl := bt hl hb
  replace hA := hA.later hb
  replace hR := hR.later hb
  clear hb HI c8 c3 c9
  go_upto_region 10 with fail
  obtain ⟨B6, hB6⟩ : ∃ B, B = w3.heap.size := ⟨_, rfl⟩
  rw [← hB6] at hI ⊢
  generalize w3.alloc (.cells #[.int .i64 m.ty, .int .i64 m.co, .int .i64 m.x, .int .i64 m.y, .string m.da] 30) = w4 at *
  clear hbx hB6
  have hb5 : ∀ W, (Instr.build 37 #[(0, .int .i64 3), (3, .agg #[.int .i64 x.f, .int .i64 x.t, .int .i64 x.tl, .int .i64 x.pr, .int .i64 x.id, .int .i64 x.fg, .bool x.mo, .bool x.dn, .string x.op, .string x.da]), (4, .agg #[.int .i64 m.ty, .int .i64 m.co, .int .i64 m.x, .int .i64 m.y, .string m.da])]).run Tryz.prog W = .ok (.agg ((⟨3, FrT.zero, ArT.zero, x, m, Sg.zero⟩ : Pd).v (.slice none 0 0))) W := fun W => run_build W 37 _ _ (by kernel_rfl)
  go_wp2_with (first | (refine wpList_loadG 28 _ (by rfl) (by rfl) (w.heap.size) 0 (by rfl) _ _ hA.range Tryz.underlying28 rfl size27 ?_) | (refine wpList_loadG 30 _ (by rfl) (by rfl) B6 0 (by rfl) _ _ hI.range Tryz.underlying30 rfl size29 ?_) | (refine wpList_store_mid (by rfl) 37 _ _ (by rfl) (w.heap.size + 1) 0 ((⟨3, FrT.zero, ArT.zero, x, m, Sg.zero⟩ : Pd).v (.slice none 0 0)) (by rfl) (by rfl) hR.there size36 (Pd.one _ rfl) ?_))
  go_wp2
  exact bodyPost_ret (v := .tuple #[.agg ((⟨3, FrT.zero, ArT.zero, x, m, Sg.zero⟩ : Pd).v (.slice none 0 0)), .nilIface]) (ret_cell41 (by rfl) (At.whole (vs := (⟨3, FrT.zero, ArT.zero, x, m, Sg.zero⟩ : Pd).v (.slice none 0 0)) hR rfl) rfl (by rfl) (by rfl)) (by rfl) ⟨_, rfl, RgA.nil _ _, Below.setCells (by omega) _ _ _ hl⟩
set_option maxHeartbeats 4000000 in
theorem inn_6 (x : PkT) (c : Int) (w : World)
    (hG : OrE w)
    (HC : Hid (∀ W, Calls Tryz.prog 63 #[.agg #[.int .i64 x.f, .int .i64 x.t, .int .i64 x.tl, .int .i64 x.pr, .int .i64 x.id, .int .i64 x.fg, .bool x.mo, .bool x.dn, .string x.op, .string x.da]] W fun e w' => e = .returned (.int .i64 0) ∧ Below W.heap.size W w'))
    (HW : Hid (∀ W, Calls Tryz.prog 64 #[.agg #[.int .i64 x.f, .int .i64 x.t, .int .i64 x.tl, .int .i64 x.pr, .int .i64 x.id, .int .i64 x.fg, .bool x.mo, .bool x.dn, .string x.op, .string x.da]] W fun e w' => e = .returned (.bool true) ∧ Below W.heap.size W w'))
    (e20 : IntKind.i64.wrap (20 + (x.op.size : Int)) = 20 + (x.op.size : Int)) (hop : x.op.size ≤ 140737488355328)
    (q1 : (x.pr == 1) = false) (q6 : (x.pr == 6) = true)
    (HS : Hid (∀ W, OrE W → Calls Tryz.prog 66 #[.int .i64 x.f, .int .i64 x.t, .string x.da] W fun e w' => e = .returned (.tuple #[.agg #[.int .i64 0, .int .i64 0, .int .i64 0, .int .i64 0, .int .i64 0, .int .i64 0, .int .i64 0, .int .i64 0, .int .i64 0, .int .i64 0, .int .i64 0, .bool false, .bool false, .bool false, .slice none 0 0, .string ⟨#[]⟩], .int .i64 c]) ∧ Below W.heap.size W w'))
    (hc : (c != 0) = true) :
    Calls Tryz.prog 30 #[.agg #[.int .i64 x.f, .int .i64 x.t, .int .i64 x.tl, .int .i64 x.pr, .int .i64 x.id, .int .i64 x.fg, .bool x.mo, .bool x.dn, .string x.op, .string x.da]] w fun e w' => ∃ p, e = .returned (.tuple #[.agg PZ, .iface 70 (.pointer (some ⟨p, 0, none⟩))]) ∧ w.heap.size ≤ p ∧ At w' p (FailV ⟨#[116, 99, 112]⟩ (20 + (x.op.size : Int)) (c)) ∧ Below w.heap.size w w' := by
  have hb1 := bel1 w (.cells #[.int .i64 x.f, .int .i64 x.t, .int .i64 x.tl, .int .i64 x.pr, .int .i64 x.id, .int .i64 x.fg, .bool x.mo, .bool x.dn, .string x.op, .string x.da] 28)
  have hb2 := bel1 (w.alloc (.cells #[.int .i64 x.f, .int .i64 x.t, .int .i64 x.tl, .int .i64 x.pr, .int .i64 x.id, .int .i64 x.fg, .bool x.mo, .bool x.dn, .string x.op, .string x.da] 28)) (.cells #[.int .i64 0, .int .i64 0, .int .i64 0, .int .i64 0, .string ⟨#[]⟩, .int .i64 0, .int .i64 0, .int .i64 0, .int .i64 0, .int .i64 0, .int .i64 0, .int .i64 0, .int .i64 0, .int .i64 0, .int .i64 0, .int .i64 0, .bool false, .bool false, .string ⟨#[]⟩, .string ⟨#[]⟩, .int .i64 0, .int .i64 0, .int .i64 0, .int .i64 0, .string ⟨#[]⟩, .int .i64 0, .int .i64 0, .int .i64 0, .int .i64 0, .int .i64 0, .int .i64 0, .int .i64 0, .int .i64 0, .int .i64 0, .int .i64 0, .int .i64 0, .bool false, .bool false, .bool false, .slice none 0 0, .string ⟨#[]⟩] 37)
  have hA := (At.box w #[.int .i64 x.f, .int .i64 x.t, .int .i64 x.tl, .int .i64 x.pr, .int .i64 x.id, .int .i64 x.fg, .bool x.mo, .bool x.dn, .string x.op, .string x.da] 28).later hb2
  have hR : At ((w.alloc (.cells #[.int .i64 x.f, .int .i64 x.t, .int .i64 x.tl, .int .i64 x.pr, .int .i64 x.id, .int .i64 x.fg, .bool x.mo, .bool x.dn, .string x.op, .string x.da] 28)).alloc (.cells #[.int .i64 0, .int .i64 0, .int .i64 0, .int .i64 0, .string ⟨#[]⟩, .int .i64 0, .int .i64 0, .int .i64 0, .int .i64 0, .int .i64 0, .int .i64 0, .int .i64 0, .int .i64 0, .int .i64 0, .int .i64 0, .int .i64 0, .bool false, .bool false, .string ⟨#[]⟩, .string ⟨#[]⟩, .int .i64 0, .int .i64 0, .int .i64 0, .int .i64 0, .string ⟨#[]⟩, .int .i64 0, .int .i64 0, .int .i64 0, .int .i64 0, .int .i64 0, .int .i64 0, .int .i64 0, .int .i64 0, .int .i64 0, .int .i64 0, .int .i64 0, .bool false, .bool false, .bool false, .slice none 0 0, .string ⟨#[]⟩] 37)) (w.heap.size + 1) PZ := At.box2 w (.cells #[.int .i64 x.f, .int .i64 x.t, .int .i64 x.tl, .int .i64 x.pr, .int .i64 x.id, .int .i64 x.fg, .bool x.mo, .bool x.dn, .string x.op, .string x.da] 28) #[.int .i64 0, .int .i64 0, .int .i64 0, .int .i64 0, .string ⟨#[]⟩, .int .i64 0, .int .i64 0, .int .i64 0, .int .i64 0, .int .i64 0, .int .i64 0, .int .i64 0, .int .i64 0, .int .i64 0, .int .i64 0, .int .i64 0, .bool false, .bool false, .string ⟨#[]⟩, .string ⟨#[]⟩, .int .i64 0, .int .i64 0, .int .i64 0, .int .i64 0, .string ⟨#[]⟩, .int .i64 0, .int .i64 0, .int .i64 0, .int .i64 0, .int .i64 0, .int .i64 0, .int .i64 0, .int .i64 0, .int .i64 0, .int .i64 0, .int .i64 0, .bool false, .bool false, .bool false, .slice none 0 0, .string ⟨#[]⟩] 37
  have hl := bt hb1 hb2
  have hz := buildZ
  clear hb1 hb2
  go_enter Tryz.func30, Tryz.ntmps30
  go_upto_region 1 with fail
  generalize hw0 : (w.alloc (.cells #[.int .i64 x.f, .int .i64 x.t, .int .i64 x.tl, .int .i64 x.pr, .int .i64 x.id, .int .i64 x.fg, .bool x.mo, .bool x.dn, .string x.op, .string x.da] 28)).alloc (.cells #[.int .i64 0, .int .i64 0, .int .i64 0, .int .i64 0, .string ⟨#[]⟩, .int .i64 0, .int .i64 0, .int .i64 0, .int .i64 0, .int .i64 0, .int .i64 0, .int .i64 0, .int .i64 0, .int .i64 0, .int .i64 0, .int .i64 0, .bool false, .bool false, .string ⟨#[]⟩, .string ⟨#[]⟩, .int .i64 0, .int .i64 0, .int .i64 0, .int .i64 0, .string ⟨#[]⟩, .int .i64 0, .int .i64 0, .int .i64 0, .int .i64 0, .int .i64 0, .int .i64 0, .int .i64 0, .int .i64 0, .int .i64 0, .int .i64 0, .int .i64 0, .bool false, .bool false, .bool false, .slice none 0 0, .string ⟨#[]⟩] 37) = w0 at *
  clear hw0
  go_wp2_with (refine wpList_loadG 28 _ (by rfl) (by rfl) (w.heap.size) 0 (by rfl) _ _ hA.range Tryz.underlying28 rfl size27 ?_)
  refine (HC.out _).mono ?_
  rintro e w1 ⟨rfl, hb⟩
  replace hl := bt hl hb
  replace hA := hA.later hb
  replace hR := hR.later hb
  clear hb
  clear HC
  go_wp2_with (refine wpList_loadG 28 _ (by rfl) (by rfl) (w.heap.size) 0 (by rfl) _ _ hA.range Tryz.underlying28 rfl size27 ?_)
  refine (HW.out _).mono ?_
  rintro e w2 ⟨rfl, hb⟩
  replace hl := bt hl hb
  replace hA := hA.later hb
  replace hR := hR.later hb
  clear hb
  clear HW
  have c8 := (hA.2 8 _ rfl).1
  have c3 := (hA.2 3 _ rfl).1
  have c9 := (hA.2 9 _ rfl).1
  have c0 := (hA.2 0 _ rfl).1
  have c1 := (hA.2 1 _ rfl).1
  go_wp2_with fail
  refine (HS.out _ (hG.later hl)).mono ?_
  rintro e w3 ⟨rfl, hb⟩
  have hbx := bel1 w3 (.cells #[.int .i64 0, .int .i64 0, .int .i64 0, .int .i64 0, .int .i64 0, .int .i64 0, .int .i64 0, .int .i64 0, .int .i64 0, .int .i64 0, .int .i64 0, .bool false, .bool false, .bool false, .slice none 0 0, .string ⟨#[]⟩] 35)
  have hI := At.box w3 #[.int .i64 0, .int .i64 0, .int .i64 0, .int .i64 0, .int .i64 0, .int .i64 0, .int .i64 0, .int .i64 0, .int .i64 0, .int .i64 0, .int .i64 0, .bool false, .bool false, .bool false, .slice none 0 0, .string ⟨#[]⟩] 35
  replace hb := bt hb hbx
  replace hl := bt hl hb
  replace hA := hA.later hb
  replace hR := hR.later hb
  clear hb HS c8 c3 c9 c0 c1
  go_upto_region 15 with fail
  obtain ⟨B6, hB6⟩ : ∃ B, B = w3.heap.size := ⟨_, rfl⟩
  rw [← hB6] at hI ⊢
  generalize w3.alloc (.cells #[.int .i64 0, .int .i64 0, .int .i64 0, .int .i64 0, .int .i64 0, .int .i64 0, .int .i64 0, .int .i64 0, .int .i64 0, .int .i64 0, .int .i64 0, .bool false, .bool false, .bool false, .slice none 0 0, .string ⟨#[]⟩] 35) = w4 at *
  clear hbx hB6
  go_wp2_with fail
  refine (refuse_s _ _ _ _).mono ?_
  rintro e wr ⟨p, rfl, hp, hP, hb⟩
  have hlt := Nat.lt_of_lt_of_le hR.1 hp
  have hwp := Nat.le_trans hl.size hp
  replace hl := bt hl hb
  replace hR := hR.later hb
  clear hb
  go_wp2_with (refine wpList_store_mid (by rfl) 37 _ _ (by rfl) (w.heap.size + 1) 0 (PZ) (by rfl) (by rfl) hR.there size36 PZ_one ?_)
  go_wp2
  exact bodyPost_ret (v := .tuple #[.agg PZ, .iface 70 (.pointer (some ⟨p, 0, none⟩))]) (ret_cell41 (by rfl) (At.whole (vs := PZ) hR rfl) rfl (by rfl) (by rfl)) (by rfl) ⟨p, rfl, hwp, At.apart hP (Nat.ne_of_lt hlt) _ _, Below.setCells (by omega) _ _ _ hl⟩
set_option maxHeartbeats 4000000 in
theorem inn_7 (x : PkT) (s : Sg) (w : World)
    (hG : OrE w)
    (HC : Hid (∀ W, Calls Tryz.prog 63 #[.agg #[.int .i64 x.f, .int .i64 x.t, .int .i64 x.tl, .int .i64 x.pr, .int .i64 x.id, .int .i64 x.fg, .bool x.mo, .bool x.dn, .string x.op, .string x.da]] W fun e w' => e = .returned (.int .i64 0) ∧ Below W.heap.size W w'))
    (HW : Hid (∀ W, Calls Tryz.prog 64 #[.agg #[.int .i64 x.f, .int .i64 x.t, .int .i64 x.tl, .int .i64 x.pr, .int .i64 x.id, .int .i64 x.fg, .bool x.mo, .bool x.dn, .string x.op, .string x.da]] W fun e w' => e = .returned (.bool true) ∧ Below W.heap.size W w'))
    (e20 : IntKind.i64.wrap (20 + (x.op.size : Int)) = 20 + (x.op.size : Int)) (hop : x.op.size ≤ 140737488355328)
    (q1 : (x.pr == 1) = false) (q6 : (x.pr == 6) = true)
    (HS : Hid (∀ W, OrE W → Calls Tryz.prog 66 #[.int .i64 x.f, .int .i64 x.t, .string x.da] W fun e w' => ∃ v, e = .returned (.tuple #[.agg #[.int .i64 s.fr, .int .i64 s.dt, .int .i64 s.sq, .int .i64 s.ak, .int .i64 s.fl, .int .i64 s.wi, .int .i64 s.ur, .int .i64 s.o.m, .int .i64 s.o.c, .int .i64 s.o.t, .int .i64 s.o.ec, .bool s.o.sd, .bool s.o.ok, .bool s.o.sp, v, .string s.da], .int .i64 0]) ∧ RgA W.heap.size w' v s.o.rs ∧ Below W.heap.size W w')) :
    Calls Tryz.prog 30 #[.agg #[.int .i64 x.f, .int .i64 x.t, .int .i64 x.tl, .int .i64 x.pr, .int .i64 x.id, .int .i64 x.fg, .bool x.mo, .bool x.dn, .string x.op, .string x.da]] w fun e w' => ∃ v, e = .returned (.tuple #[.agg (Pd.v ((⟨4, FrT.zero, ArT.zero, x, IcT.zero, s⟩ : Pd)) v), .nilIface]) ∧ RgA w.heap.size w' v ((⟨4, FrT.zero, ArT.zero, x, IcT.zero, s⟩ : Pd)).sg.o.rs ∧ Below w.heap.size w w' := by
  have hb1 := bel1 w (.cells #[.int .i64 x.f, .int .i64 x.t, .int .i64 x.tl, .int .i64 x.pr, .int .i64 x.id, .int .i64 x.fg, .bool x.mo, .bool x.dn, .string x.op, .string x.da] 28)
  have hb2 := bel1 (w.alloc (.cells #[.int .i64 x.f, .int .i64 x.t, .int .i64 x.tl, .int .i64 x.pr, .int .i64 x.id, .int .i64 x.fg, .bool x.mo, .bool x.dn, .string x.op, .string x.da] 28)) (.cells #[.int .i64 0, .int .i64 0, .int .i64 0, .int .i64 0, .string ⟨#[]⟩, .int .i64 0, .int .i64 0, .int .i64 0, .int .i64 0, .int .i64 0, .int .i64 0, .int .i64 0, .int .i64 0, .int .i64 0, .int .i64 0, .int .i64 0, .bool false, .bool false, .string ⟨#[]⟩, .string ⟨#[]⟩, .int .i64 0, .int .i64 0, .int .i64 0, .int .i64 0, .string ⟨#[]⟩, .int .i64 0, .int .i64 0, .int .i64 0, .int .i64 0, .int .i64 0, .int .i64 0, .int .i64 0, .int .i64 0, .int .i64 0, .int .i64 0, .int .i64 0, .bool false, .bool false, .bool false, .slice none 0 0, .string ⟨#[]⟩] 37)
  have hA := (At.box w #[.int .i64 x.f, .int .i64 x.t, .int .i64 x.tl, .int .i64 x.pr, .int .i64 x.id, .int .i64 x.fg, .bool x.mo, .bool x.dn, .string x.op, .string x.da] 28).later hb2
  have hR : At ((w.alloc (.cells #[.int .i64 x.f, .int .i64 x.t, .int .i64 x.tl, .int .i64 x.pr, .int .i64 x.id, .int .i64 x.fg, .bool x.mo, .bool x.dn, .string x.op, .string x.da] 28)).alloc (.cells #[.int .i64 0, .int .i64 0, .int .i64 0, .int .i64 0, .string ⟨#[]⟩, .int .i64 0, .int .i64 0, .int .i64 0, .int .i64 0, .int .i64 0, .int .i64 0, .int .i64 0, .int .i64 0, .int .i64 0, .int .i64 0, .int .i64 0, .bool false, .bool false, .string ⟨#[]⟩, .string ⟨#[]⟩, .int .i64 0, .int .i64 0, .int .i64 0, .int .i64 0, .string ⟨#[]⟩, .int .i64 0, .int .i64 0, .int .i64 0, .int .i64 0, .int .i64 0, .int .i64 0, .int .i64 0, .int .i64 0, .int .i64 0, .int .i64 0, .int .i64 0, .bool false, .bool false, .bool false, .slice none 0 0, .string ⟨#[]⟩] 37)) (w.heap.size + 1) PZ := At.box2 w (.cells #[.int .i64 x.f, .int .i64 x.t, .int .i64 x.tl, .int .i64 x.pr, .int .i64 x.id, .int .i64 x.fg, .bool x.mo, .bool x.dn, .string x.op, .string x.da] 28) #[.int .i64 0, .int .i64 0, .int .i64 0, .int .i64 0, .string ⟨#[]⟩, .int .i64 0, .int .i64 0, .int .i64 0, .int .i64 0, .int .i64 0, .int .i64 0, .int .i64 0, .int .i64 0, .int .i64 0, .int .i64 0, .int .i64 0, .bool false, .bool false, .string ⟨#[]⟩, .string ⟨#[]⟩, .int .i64 0, .int .i64 0, .int .i64 0, .int .i64 0, .string ⟨#[]⟩, .int .i64 0, .int .i64 0, .int .i64 0, .int .i64 0, .int .i64 0, .int .i64 0, .int .i64 0, .int .i64 0, .int .i64 0, .int .i64 0, .int .i64 0, .bool false, .bool false, .bool false, .slice none 0 0, .string ⟨#[]⟩] 37
  have hl := bt hb1 hb2
  have hz := buildZ
  clear hb1 hb2
  go_enter Tryz.func30, Tryz.ntmps30
  go_upto_region 1 with fail
  generalize hw0 : (w.alloc (.cells #[.int .i64 x.f, .int .i64 x.t, .int .i64 x.tl, .int .i64 x.pr, .int .i64 x.id, .int .i64 x.fg, .bool x.mo, .bool x.dn, .string x.op, .string x.da] 28)).alloc (.cells #[.int .i64 0, .int .i64 0, .int .i64 0, .int .i64 0, .string ⟨#[]⟩, .int .i64 0, .int .i64 0, .int .i64 0, .int .i64 0, .int .i64 0, .int .i64 0, .int .i64 0, .int .i64 0, .int .i64 0, .int .i64 0, .int .i64 0, .bool false, .bool false, .string ⟨#[]⟩, .string ⟨#[]⟩, .int .i64 0, .int .i64 0, .int .i64 0, .int .i64 0, .string ⟨#[]⟩, .int .i64 0, .int .i64 0, .int .i64 0, .int .i64 0, .int .i64 0, .int .i64 0, .int .i64 0, .int .i64 0, .int .i64 0, .int .i64 0, .int .i64 0, .bool false, .bool false, .bool false, .slice none 0 0, .string ⟨#[]⟩] 37) = w0 at *
  clear hw0
  go_wp2_with (refine wpList_loadG 28 _ (by rfl) (by rfl) (w.heap.size) 0 (by rfl) _ _ hA.range Tryz.underlying28 rfl size27 ?_)
  refine (HC.out _).mono ?_
  rintro e w1 ⟨rfl, hb⟩
  replace hl := bt hl hb
  replace hA := hA.later hb
  replace hR := hR.later hb
  clear hb
  clear HC
  go_wp2_with (refine wpList_loadG 28 _ (by rfl) (by rfl) (w.heap.size) 0 (by rfl) _ _ hA.range Tryz.underlying28 rfl size27 ?_)
  refine (HW.out _).mono ?_
  rintro e w2 ⟨rfl, hb⟩
  replace hl := bt hl hb
  replace hA := hA.later hb
  replace hR := hR.later hb
  clear hb
  clear HW
  have c8 := (hA.2 8 _ rfl).1
  have c3 := (hA.2 3 _ rfl).1
  have hlt : w.heap.size + 1 < w2.heap.size := hR.1
  have c9 := (hA.2 9 _ rfl).1
  have c0 := (hA.2 0 _ rfl).1
  have c1 := (hA.2 1 _ rfl).1
  go_wp2_with fail
  refine (HS.out _ (hG.later hl)).mono ?_
  rintro e w3 ⟨v, rfl, hvr, hb⟩
  obtain ⟨a0, cap0, hve, -⟩ := id hvr
  subst hve
  have hbx := bel1 w3 (.cells #[.int .i64 s.fr, .int .i64 s.dt, .int .i64 s.sq, .int .i64 s.ak, .int .i64 s.fl, .int .i64 s.wi, .int .i64 s.ur, .int .i64 s.o.m, .int .i64 s.o.c, .int .i64 s.o.t, .int .i64 s.o.ec, .bool s.o.sd, .bool s.o.ok, .bool s.o.sp, (.slice a0 s.o.rs.length cap0), .string s.da] 35)
  have hI := At.box w3 #[.int .i64 s.fr, .int .i64 s.dt, .int .i64 s.sq, .int .i64 s.ak, .int .i64 s.fl, .int .i64 s.wi, .int .i64 s.ur, .int .i64 s.o.m, .int .i64 s.o.c, .int .i64 s.o.t, .int .i64 s.o.ec, .bool s.o.sd, .bool s.o.ok, .bool s.o.sp, (.slice a0 s.o.rs.length cap0), .string s.da] 35
  replace hb := bt hb hbx
  replace hvr := hvr.later hbx
  replace hl := bt hl hb
  replace hA := hA.later hb
  replace hR := hR.later hb
  clear hb HS c8 c3 c9 c0 c1
  go_upto_region 15 with fail
  obtain ⟨B6, hB6⟩ : ∃ B, B = w3.heap.size := ⟨_, rfl⟩
  rw [← hB6] at hI ⊢
  generalize w3.alloc (.cells #[.int .i64 s.fr, .int .i64 s.dt, .int .i64 s.sq, .int .i64 s.ak, .int .i64 s.fl, .int .i64 s.wi, .int .i64 s.ur, .int .i64 s.o.m, .int .i64 s.o.c, .int .i64 s.o.t, .int .i64 s.o.ec, .bool s.o.sd, .bool s.o.ok, .bool s.o.sp, (.slice a0 s.o.rs.length cap0), .string s.da] 35) = w4 at *
  clear hbx hB6
  have hb5 : ∀ W, (Instr.build 37 #[(0, .int .i64 4), (3, .agg #[.int .i64 x.f, .int .i64 x.t, .int .i64 x.tl, .int .i64 x.pr, .int .i64 x.id, .int .i64 x.fg, .bool x.mo, .bool x.dn, .string x.op, .string x.da]), (5, .agg #[.int .i64 s.fr, .int .i64 s.dt, .int .i64 s.sq, .int .i64 s.ak, .int .i64 s.fl, .int .i64 s.wi, .int .i64 s.ur, .int .i64 s.o.m, .int .i64 s.o.c, .int .i64 s.o.t, .int .i64 s.o.ec, .bool s.o.sd, .bool s.o.ok, .bool s.o.sp, (.slice a0 s.o.rs.length cap0), .string s.da])]).run Tryz.prog W = .ok (.agg ((⟨4, FrT.zero, ArT.zero, x, IcT.zero, s⟩ : Pd).v (.slice a0 s.o.rs.length cap0))) W := fun W => run_build W 37 _ _ (by kernel_rfl)
  go_wp2_with (first | (refine wpList_loadG 28 _ (by rfl) (by rfl) (w.heap.size) 0 (by rfl) _ _ hA.range Tryz.underlying28 rfl size27 ?_) | (refine wpList_loadG 35 _ (by rfl) (by rfl) B6 0 (by rfl) _ _ hI.range Tryz.underlying35 rfl size35 ?_) | (refine wpList_store_mid (by rfl) 37 _ _ (by rfl) (w.heap.size + 1) 0 ((⟨4, FrT.zero, ArT.zero, x, IcT.zero, s⟩ : Pd).v (.slice a0 s.o.rs.length cap0)) (by rfl) (by rfl) hR.there size36 (Pd.one _ rfl) ?_))
  go_wp2
  exact bodyPost_ret (v := .tuple #[.agg ((⟨4, FrT.zero, ArT.zero, x, IcT.zero, s⟩ : Pd).v (.slice a0 s.o.rs.length cap0)), .nilIface]) (ret_cell41 (by rfl) (At.whole (vs := (⟨4, FrT.zero, ArT.zero, x, IcT.zero, s⟩ : Pd).v (.slice a0 s.o.rs.length cap0)) hR rfl) rfl (by rfl) (by rfl)) (by rfl) ⟨_, rfl, (hvr.setCells _ _ _ hlt).mono (by omega), Below.setCells (by omega) _ _ _ hl⟩
end Go.Proofs.YtkpdmgoldngdaabGreatDoor

namespace Go.Proofs.YtkpdmgoldngdaabGreatDoor
open Go.RowKit
set_option maxRecDepth 100000
set_option linter.unusedVariables false

theorem size23 : (Tryz.prog.info? 24).map (·.size) = some 4 := by kernel_rfl
theorem size25 : (Tryz.prog.info? 26).map (·.size) = some 5 := by kernel_rfl
theorem At.mid4 {W : World} {b : Nat} {z : Pd} {v : Value} (h : At W b (z.v v)) : W.there b 1 4 := fun j hj => by
  obtain rfl | rfl | rfl | rfl : j = 0 ∨ j = 1 ∨ j = 2 ∨ j = 3 := by omega
  all_goals exact ⟨by rw [(h.2 _ _ rfl).1]; rfl, (h.2 _ _ rfl).2⟩
theorem At.setFr {W : World} {b : Nat} {z : Pd} {v : Value} (h : At W b (z.v v)) (x : FrT) : At (W.setCells b 1 [.int .i64 x.a, .int .i64 x.b, .int .i64 x.k, .string x.d]) b (({ z with fr := x } : Pd).v v) := by
  have hr := World.rangeAt_setCells_same W b 1 [.int .i64 x.a, .int .i64 x.b, .int .i64 x.k, .string x.d] h.mid4
  refine ⟨by rw [size_setCells]; exact h.1, fun i u hi => ⟨?_, ?_⟩⟩
  · by_cases h0 : i = 0
    · subst h0
      rw [World.cell?_setCells_out b _ 1 W ⟨b, 0, none⟩ (fun _ _ => .inl (by show 0 < 1; omega))]
      exact (h.2 0 u hi).1
    · by_cases h5 : i < 5
      · obtain rfl | rfl | rfl | rfl : i = 1 ∨ i = 2 ∨ i = 3 ∨ i = 4 := by omega
        · exact hr 0 u hi
        · exact hr 1 u hi
        · exact hr 2 u hi
        · exact hr 3 u hi
      · obtain ⟨j, rfl⟩ : ∃ j, i = j + 5 := ⟨i - 5, by omega⟩
        rw [World.cell?_setCells_out b _ 1 W ⟨b, j + 5, none⟩ (fun _ _ => .inr (by show 1 + 4 ≤ j + 5; omega))]
        refine (h.2 (j + 5) u ?_).1
        rw [← Array.getElem?_toList] at hi ⊢
        exact hi
  · rw [World.frozen?_setCells]
    have hlt : i < 41 := (Array.getElem?_eq_some_iff.1 hi).1
    exact (h.2 i ((z.v v)[i]'hlt) (Array.getElem?_eq_getElem hlt)).2
def ShNil : Prop := ∀ (by' : Int) (W : World), Calls Tryz.prog 31 #[.nilIface, .int .i64 by'] W fun e w' => e = .returned .nilIface ∧ Below W.heap.size W w'
def ShFail (by' : Int) : Prop := ∀ (W : World) (p : Nat) (l : ByteArray) (a c : Int), OrE W → 0 ≤ a → a ≤ 140737488365328 → At W p (FailV l a c) → Calls Tryz.prog 31 #[.iface 70 (.pointer (some ⟨p, 0, none⟩)), .int .i64 by'] W fun e w' => ∃ q, e = .returned (.iface 70 (.pointer (some ⟨q, 0, none⟩))) ∧ W.heap.size ≤ q ∧ At w' q (FailV l (a + by') c) ∧ Below W.heap.size W w'
set_option maxHeartbeats 8000000 in
theorem con_1 (x : FrT) (y : ArT) (c : Int) (w : World)
    (q : (x.k == 2054) = true)
    (HAR : Hid (∀ W, Calls Tryz.prog 28 #[.string x.d] W fun e w' => e = .returned (.tuple #[.agg #[.int .i64 y.o, .int .i64 y.fm, .int .i64 y.fi, .int .i64 y.tm, .int .i64 y.ti], .int .i64 c]) ∧ Below W.heap.size W w'))
    (hc : (c != 0) = true) :
    Calls Tryz.prog 13 #[.agg #[.int .i64 x.a, .int .i64 x.b, .int .i64 x.k, .string x.d]] w fun e w' => ∃ p, e = .returned (.tuple #[.agg PZ, .iface 70 (.pointer (some ⟨p, 0, none⟩))]) ∧ w.heap.size ≤ p ∧ At w' p (FailV ⟨#[97, 114, 112]⟩ (14) (c)) ∧ Below w.heap.size w w' := by
  have hb1 := bel1 w (.cells #[.int .i64 x.a, .int .i64 x.b, .int .i64 x.k, .string x.d] 24)
  have hb2 := bel1 (w.alloc (.cells #[.int .i64 x.a, .int .i64 x.b, .int .i64 x.k, .string x.d] 24)) (.cells #[.int .i64 0, .int .i64 0, .int .i64 0, .int .i64 0, .string ⟨#[]⟩, .int .i64 0, .int .i64 0, .int .i64 0, .int .i64 0, .int .i64 0, .int .i64 0, .int .i64 0, .int .i64 0, .int .i64 0, .int .i64 0, .int .i64 0, .bool false, .bool false, .string ⟨#[]⟩, .string ⟨#[]⟩, .int .i64 0, .int .i64 0, .int .i64 0, .int .i64 0, .string ⟨#[]⟩, .int .i64 0, .int .i64 0, .int .i64 0, .int .i64 0, .int .i64 0, .int .i64 0, .int .i64 0, .int .i64 0, .int .i64 0, .int .i64 0, .int .i64 0, .bool false, .bool false, .bool false, .slice none 0 0, .string ⟨#[]⟩] 37)
  have hA := (At.box w #[.int .i64 x.a, .int .i64 x.b, .int .i64 x.k, .string x.d] 24).later hb2
  have hR : At ((w.alloc (.cells #[.int .i64 x.a, .int .i64 x.b, .int .i64 x.k, .string x.d] 24)).alloc (.cells #[.int .i64 0, .int .i64 0, .int .i64 0, .int .i64 0, .string ⟨#[]⟩, .int .i64 0, .int .i64 0, .int .i64 0, .int .i64 0, .int .i64 0, .int .i64 0, .int .i64 0, .int .i64 0, .int .i64 0, .int .i64 0, .int .i64 0, .bool false, .bool false, .string ⟨#[]⟩, .string ⟨#[]⟩, .int .i64 0, .int .i64 0, .int .i64 0, .int .i64 0, .string ⟨#[]⟩, .int .i64 0, .int .i64 0, .int .i64 0, .int .i64 0, .int .i64 0, .int .i64 0, .int .i64 0, .int .i64 0, .int .i64 0, .int .i64 0, .int .i64 0, .bool false, .bool false, .bool false, .slice none 0 0, .string ⟨#[]⟩] 37)) (w.heap.size + 1) PZ := At.box2 w (.cells #[.int .i64 x.a, .int .i64 x.b, .int .i64 x.k, .string x.d] 24) #[.int .i64 0, .int .i64 0, .int .i64 0, .int .i64 0, .string ⟨#[]⟩, .int .i64 0, .int .i64 0, .int .i64 0, .int .i64 0, .int .i64 0, .int .i64 0, .int .i64 0, .int .i64 0, .int .i64 0, .int .i64 0, .int .i64 0, .bool false, .bool false, .string ⟨#[]⟩, .string ⟨#[]⟩, .int .i64 0, .int .i64 0, .int .i64 0, .int .i64 0, .string ⟨#[]⟩, .int .i64 0, .int .i64 0, .int .i64 0, .int .i64 0, .int .i64 0, .int .i64 0, .int .i64 0, .int .i64 0, .int .i64 0, .int .i64 0, .int .i64 0, .bool false, .bool false, .bool false, .slice none 0 0, .string ⟨#[]⟩] 37
  have hl := bt hb1 hb2
  have hz := buildZ
  clear hb1 hb2
  go_enter Tryz.func13, Tryz.ntmps13
  go_upto_region 1 with fail
  generalize hw0 : (w.alloc (.cells #[.int .i64 x.a, .int .i64 x.b, .int .i64 x.k, .string x.d] 24)).alloc (.cells #[.int .i64 0, .int .i64 0, .int .i64 0, .int .i64 0, .string ⟨#[]⟩, .int .i64 0, .int .i64 0, .int .i64 0, .int .i64 0, .int .i64 0, .int .i64 0, .int .i64 0, .int .i64 0, .int .i64 0, .int .i64 0, .int .i64 0, .bool false, .bool false, .string ⟨#[]⟩, .string ⟨#[]⟩, .int .i64 0, .int .i64 0, .int .i64 0, .int .i64 0, .string ⟨#[]⟩, .int .i64 0, .int .i64 0, .int .i64 0, .int .i64 0, .int .i64 0, .int .i64 0, .int .i64 0, .int .i64 0, .int .i64 0, .int .i64 0, .int .i64 0, .bool false, .bool false, .bool false, .slice none 0 0, .string ⟨#[]⟩] 37) = w0 at *
  clear hw0
  have c2 := (hA.2 2 _ rfl).1
  have c3 := (hA.2 3 _ rfl).1
  go_wp2_with fail
  refine (HAR.out _).mono ?_
  rintro e w3 ⟨rfl, hb⟩
  have hbx := bel1 w3 (.cells #[.int .i64 y.o, .int .i64 y.fm, .int .i64 y.fi, .int .i64 y.tm, .int .i64 y.ti] 26)
  have hI := At.box w3 #[.int .i64 y.o, .int .i64 y.fm, .int .i64 y.fi, .int .i64 y.tm, .int .i64 y.ti] 26
  replace hb := bt hb hbx
  replace hl := bt hl hb
  replace hA := hA.later hb
  replace hR := hR.later hb
  clear hb HAR c2 c3
  go_upto_region 4 with fail
  obtain ⟨B6, hB6⟩ : ∃ B, B = w3.heap.size := ⟨_, rfl⟩
  rw [← hB6] at hI ⊢
  generalize w3.alloc (.cells #[.int .i64 y.o, .int .i64 y.fm, .int .i64 y.fi, .int .i64 y.tm, .int .i64 y.ti] 26) = w4 at *
  clear hbx hB6
  go_wp2_with fail
  refine (refuse_s _ _ _ _).mono ?_
  rintro e wr ⟨p, rfl, hp, hP, hb⟩
  have hlt := Nat.lt_of_lt_of_le hR.1 hp
  have hwp := Nat.le_trans hl.size hp
  replace hl := bt hl hb
  replace hR := hR.later hb
  clear hb
  go_wp2_with (refine wpList_store_mid (by rfl) 37 _ _ (by rfl) (w.heap.size + 1) 0 (PZ) (by rfl) (by rfl) hR.there size36 PZ_one ?_)
  go_wp2
  exact bodyPost_ret (v := .tuple #[.agg PZ, .iface 70 (.pointer (some ⟨p, 0, none⟩))]) (ret_cell41 (by rfl) (At.whole (vs := PZ) hR rfl) rfl (by rfl) (by rfl)) (by rfl) ⟨p, rfl, hwp, At.apart hP (Nat.ne_of_lt hlt) _ _, Below.setCells (by omega) _ _ _ hl⟩
set_option maxHeartbeats 8000000 in
theorem con_2 (x : FrT) (y : ArT) (w : World)
    (q : (x.k == 2054) = true)
    (HAR : Hid (∀ W, Calls Tryz.prog 28 #[.string x.d] W fun e w' => e = .returned (.tuple #[.agg #[.int .i64 y.o, .int .i64 y.fm, .int .i64 y.fi, .int .i64 y.tm, .int .i64 y.ti], .int .i64 0]) ∧ Below W.heap.size W w')) :
    Calls Tryz.prog 13 #[.agg #[.int .i64 x.a, .int .i64 x.b, .int .i64 x.k, .string x.d]] w fun e w' => ∃ v, e = .returned (.tuple #[.agg (Pd.v ((⟨1, FrT.zero, y, PkT.zero, IcT.zero, Sg.zero⟩ : Pd)) v), .nilIface]) ∧ RgA w.heap.size w' v ((⟨1, FrT.zero, y, PkT.zero, IcT.zero, Sg.zero⟩ : Pd)).sg.o.rs ∧ Below w.heap.size w w' := by
  have hb1 := bel1 w (.cells #[.int .i64 x.a, .int .i64 x.b, .int .i64 x.k, .string x.d] 24)
  have hb2 := bel1 (w.alloc (.cells #[.int .i64 x.a, .int .i64 x.b, .int .i64 x.k, .string x.d] 24)) (.cells #[.int .i64 0, .int .i64 0, .int .i64 0, .int .i64 0, .string ⟨#[]⟩, .int .i64 0, .int .i64 0, .int .i64 0, .int .i64 0, .int .i64 0, .int .i64 0, .int .i64 0, .int .i64 0, .int .i64 0, .int .i64 0, .int .i64 0, .bool false, .bool false, .string ⟨#[]⟩, .string ⟨#[]⟩, .int .i64 0, .int .i64 0, .int .i64 0, .int .i64 0, .string ⟨#[]⟩, .int .i64 0, .int .i64 0, .int .i64 0, .int .i64 0, .int .i64 0, .int .i64 0, .int .i64 0, .int .i64 0, .int .i64 0, .int .i64 0, .int .i64 0, .bool false, .bool false, .bool false, .slice none 0 0, .string ⟨#[]⟩] 37)
  have hA := (At.box w #[.int .i64 x.a, .int .i64 x.b, .int .i64 x.k, .string x.d] 24).later hb2
  have hR : At ((w.alloc (.cells #[.int .i64 x.a, .int .i64 x.b, .int .i64 x.k, .string x.d] 24)).alloc (.cells #[.int .i64 0, .int .i64 0, .int .i64 0, .int .i64 0, .string ⟨#[]⟩, .int .i64 0, .int .i64 0, .int .i64 0, .int .i64 0, .int .i64 0, .int .i64 0, .int .i64 0, .int .i64 0, .int .i64 0, .int .i64 0, .int .i64 0, .bool false, .bool false, .string ⟨#[]⟩, .string ⟨#[]⟩, .int .i64 0, .int .i64 0, .int .i64 0, .int .i64 0, .string ⟨#[]⟩, .int .i64 0, .int .i64 0, .int .i64 0, .int .i64 0, .int .i64 0, .int .i64 0, .int .i64 0, .int .i64 0, .int .i64 0, .int .i64 0, .int .i64 0, .bool false, .bool false, .bool false, .slice none 0 0, .string ⟨#[]⟩] 37)) (w.heap.size + 1) PZ := At.box2 w (.cells #[.int .i64 x.a, .int .i64 x.b, .int .i64 x.k, .string x.d] 24) #[.int .i64 0, .int .i64 0, .int .i64 0, .int .i64 0, .string ⟨#[]⟩, .int .i64 0, .int .i64 0, .int .i64 0, .int .i64 0, .int .i64 0, .int .i64 0, .int .i64 0, .int .i64 0, .int .i64 0, .int .i64 0, .int .i64 0, .bool false, .bool false, .string ⟨#[]⟩, .string ⟨#[]⟩, .int .i64 0, .int .i64 0, .int .i64 0, .int .i64 0, .string ⟨#[]⟩, .int .i64 0, .int .i64 0, .int .i64 0, .int .i64 0, .int .i64 0, .int .i64 0, .int .i64 0, .int .i64 0, .int .i64 0, .int .i64 0, .int .i64 0, .bool false, .bool false, .bool false, .slice none 0 0, .string ⟨#[]⟩] 37
  have hl := bt hb1 hb2
  have hz := buildZ
  clear hb1 hb2
  go_enter Tryz.func13, Tryz.ntmps13
  go_upto_region 1 with fail
  generalize hw0 : (w.alloc (.cells #[.int .i64 x.a, .int .i64 x.b, .int .i64 x.k, .string x.d] 24)).alloc (.cells #[.int .i64 0, .int .i64 0, .int .i64 0, .int .i64 0, .string ⟨#[]⟩, .int .i64 0, .int .i64 0, .int .i64 0, .int .i64 0, .int .i64 0, .int .i64 0, .int .i64 0, .int .i64 0, .int .i64 0, .int .i64 0, .int .i64 0, .bool false, .bool false, .string ⟨#[]⟩, .string ⟨#[]⟩, .int .i64 0, .int .i64 0, .int .i64 0, .int .i64 0, .string ⟨#[]⟩, .int .i64 0, .int .i64 0, .int .i64 0, .int .i64 0, .int .i64 0, .int .i64 0, .int .i64 0, .int .i64 0, .int .i64 0, .int .i64 0, .int .i64 0, .bool false, .bool false, .bool false, .slice none 0 0, .string ⟨#[]⟩] 37) = w0 at *
  clear hw0
  have c2 := (hA.2 2 _ rfl).1
  have c3 := (hA.2 3 _ rfl).1
  go_wp2_with fail
  refine (HAR.out _).mono ?_
  rintro e w3 ⟨rfl, hb⟩
  have hbx := bel1 w3 (.cells #[.int .i64 y.o, .int .i64 y.fm, .int .i64 y.fi, .int .i64 y.tm, .int .i64 y.ti] 26)
  have hI := At.box w3 #[.int .i64 y.o, .int .i64 y.fm, .int .i64 y.fi, .int .i64 y.tm, .int .i64 y.ti] 26
  replace hb := bt hb hbx
  replace hl := bt hl hb
  replace hA := hA.later hb
  replace hR := hR.later hb
  clear hb HAR c2 c3
  go_upto_region 4 with fail
  obtain ⟨B6, hB6⟩ : ∃ B, B = w3.heap.size := ⟨_, rfl⟩
  rw [← hB6] at hI ⊢
  generalize w3.alloc (.cells #[.int .i64 y.o, .int .i64 y.fm, .int .i64 y.fi, .int .i64 y.tm, .int .i64 y.ti] 26) = w4 at *
  clear hbx hB6
  have hb5 : ∀ W, (Instr.build 37 #[(0, .int .i64 1), (2, .agg #[.int .i64 y.o, .int .i64 y.fm, .int .i64 y.fi, .int .i64 y.tm, .int .i64 y.ti])]).run Tryz.prog W = .ok (.agg ((⟨1, FrT.zero, y, PkT.zero, IcT.zero, Sg.zero⟩ : Pd).v (.slice none 0 0))) W := fun W => run_build W 37 _ _ (by kernel_rfl)
  go_wp2_with (first | (refine wpList_loadG 26 _ (by rfl) (by rfl) B6 0 (by rfl) _ _ hI.range Tryz.underlying26 rfl size25 ?_) | (refine wpList_store_mid (by rfl) 37 _ _ (by rfl) (w.heap.size + 1) 0 ((⟨1, FrT.zero, y, PkT.zero, IcT.zero, Sg.zero⟩ : Pd).v (.slice none 0 0)) (by rfl) (by rfl) hR.there size36 (Pd.one _ rfl) ?_))
  go_wp2
  exact bodyPost_ret (v := .tuple #[.agg ((⟨1, FrT.zero, y, PkT.zero, IcT.zero, Sg.zero⟩ : Pd).v (.slice none 0 0)), .nilIface]) (ret_cell41 (by rfl) (At.whole (vs := (⟨1, FrT.zero, y, PkT.zero, IcT.zero, Sg.zero⟩ : Pd).v (.slice none 0 0)) hR rfl) rfl (by rfl) (by rfl)) (by rfl) ⟨_, rfl, RgA.nil _ _, Below.setCells (by omega) _ _ _ hl⟩
set_option maxHeartbeats 8000000 in
theorem con_3 (x : FrT) (y : PkT) (c : Int) (w : World)
    (q : (x.k == 2054) = false) (q2 : (x.k == 2048) = true)
    (HIP : Hid (∀ W, Calls Tryz.prog 29 #[.string x.d] W fun e w' => e = .returned (.tuple #[.agg #[.int .i64 y.f, .int .i64 y.t, .int .i64 y.tl, .int .i64 y.pr, .int .i64 y.id, .int .i64 y.fg, .bool y.mo, .bool y.dn, .string y.op, .string y.da], .int .i64 c]) ∧ Below W.heap.size W w'))
    (hc : (c != 0) = true) :
    Calls Tryz.prog 13 #[.agg #[.int .i64 x.a, .int .i64 x.b, .int .i64 x.k, .string x.d]] w fun e w' => ∃ p, e = .returned (.tuple #[.agg PZ, .iface 70 (.pointer (some ⟨p, 0, none⟩))]) ∧ w.heap.size ≤ p ∧ At w' p (FailV ⟨#[105, 112]⟩ (14) (c)) ∧ Below w.heap.size w w' := by
  have hb1 := bel1 w (.cells #[.int .i64 x.a, .int .i64 x.b, .int .i64 x.k, .string x.d] 24)
  have hb2 := bel1 (w.alloc (.cells #[.int .i64 x.a, .int .i64 x.b, .int .i64 x.k, .string x.d] 24)) (.cells #[.int .i64 0, .int .i64 0, .int .i64 0, .int .i64 0, .string ⟨#[]⟩, .int .i64 0, .int .i64 0, .int .i64 0, .int .i64 0, .int .i64 0, .int .i64 0, .int .i64 0, .int .i64 0, .int .i64 0, .int .i64 0, .int .i64 0, .bool false, .bool false, .string ⟨#[]⟩, .string ⟨#[]⟩, .int .i64 0, .int .i64 0, .int .i64 0, .int .i64 0, .string ⟨#[]⟩, .int .i64 0, .int .i64 0, .int .i64 0, .int .i64 0, .int .i64 0, .int .i64 0, .int .i64 0, .int .i64 0, .int .i64 0, .int .i64 0, .int .i64 0, .bool false, .bool false, .bool false, .slice none 0 0, .string ⟨#[]⟩] 37)
  have hA := (At.box w #[.int .i64 x.a, .int .i64 x.b, .int .i64 x.k, .string x.d] 24).later hb2
  have hR : At ((w.alloc (.cells #[.int .i64 x.a, .int .i64 x.b, .int .i64 x.k, .string x.d] 24)).alloc (.cells #[.int .i64 0, .int .i64 0, .int .i64 0, .int .i64 0, .string ⟨#[]⟩, .int .i64 0, .int .i64 0, .int .i64 0, .int .i64 0, .int .i64 0, .int .i64 0, .int .i64 0, .int .i64 0, .int .i64 0, .int .i64 0, .int .i64 0, .bool false, .bool false, .string ⟨#[]⟩, .string ⟨#[]⟩, .int .i64 0, .int .i64 0, .int .i64 0, .int .i64 0, .string ⟨#[]⟩, .int .i64 0, .int .i64 0, .int .i64 0, .int .i64 0, .int .i64 0, .int .i64 0, .int .i64 0, .int .i64 0, .int .i64 0, .int .i64 0, .int .i64 0, .bool false, .bool false, .bool false, .slice none 0 0, .string ⟨#[]⟩] 37)) (w.heap.size + 1) PZ := At.box2 w (.cells #[.int .i64 x.a, .int .i64 x.b, .int .i64 x.k, .string x.d] 24) #[.int .i64 0, .int .i64 0, .int .i64 0, .int .i64 0, .string ⟨#[]⟩, .int .i64 0, .int .i64 0, .int .i64 0, .int .i64 0, .int .i64 0, .int .i64 0, .int .i64 0, .int .i64 0, .int .i64 0, .int .i64 0, .int .i64 0, .bool false, .bool false, .string ⟨#[]⟩, .string ⟨#[]⟩, .int .i64 0, .int .i64 0, .int .i64 0, .int .i64 0, .string ⟨#[]⟩, .int .i64 0, .int .i64 0, .int .i64 0, .int .i64 0, .int .i64 0, .int .i64 0, .int .i64 0, .int .i64 0, .int .i64 0, .int .i64 0, .int .i64 0, .bool false, .bool false, .bool false, .slice none 0 0, .string ⟨#[]⟩] 37
  have hl := bt hb1 hb2
  have hz := buildZ
  clear hb1 hb2
  go_enter Tryz.func13, Tryz.ntmps13
  go_upto_region 1 with fail
  generalize hw0 : (w.alloc (.cells #[.int .i64 x.a, .int .i64 x.b, .int .i64 x.k, .string x.d] 24)).alloc (.cells #[.int .i64 0, .int .i64 0, .int .i64 0, .int .i64 0, .string ⟨#[]⟩, .int .i64 0, .int .i64 0, .int .i64 0, .int .i64 0, .int .i64 0, .int .i64 0, .int .i64 0, .int .i64 0, .int .i64 0, .int .i64 0, .int .i64 0, .bool false, .bool false, .string ⟨#[]⟩, .string ⟨#[]⟩, .int .i64 0, .int .i64 0, .int .i64 0, .int .i64 0, .string ⟨#[]⟩, .int .i64 0, .int .i64 0, .int .i64 0, .int .i64 0, .int .i64 0, .int .i64 0, .int .i64 0, .int .i64 0, .int .i64 0, .int .i64 0, .int .i64 0, .bool false, .bool false, .bool false, .slice none 0 0, .string ⟨#[]⟩] 37) = w0 at *
  clear hw0
  have c2 := (hA.2 2 _ rfl).1
  have c3 := (hA.2 3 _ rfl).1
  go_wp2_with fail
  refine (HIP.out _).mono ?_
  rintro e w3 ⟨rfl, hb⟩
  have hbx := bel1 w3 (.cells #[.int .i64 y.f, .int .i64 y.t, .int .i64 y.tl, .int .i64 y.pr, .int .i64 y.id, .int .i64 y.fg, .bool y.mo, .bool y.dn, .string y.op, .string y.da] 28)
  have hI := At.box w3 #[.int .i64 y.f, .int .i64 y.t, .int .i64 y.tl, .int .i64 y.pr, .int .i64 y.id, .int .i64 y.fg, .bool y.mo, .bool y.dn, .string y.op, .string y.da] 28
  replace hb := bt hb hbx
  replace hl := bt hl hb
  replace hA := hA.later hb
  replace hR := hR.later hb
  clear hb HIP c2 c3
  go_upto_region 9 with fail
  obtain ⟨B6, hB6⟩ : ∃ B, B = w3.heap.size := ⟨_, rfl⟩
  rw [← hB6] at hI ⊢
  generalize w3.alloc (.cells #[.int .i64 y.f, .int .i64 y.t, .int .i64 y.tl, .int .i64 y.pr, .int .i64 y.id, .int .i64 y.fg, .bool y.mo, .bool y.dn, .string y.op, .string y.da] 28) = w4 at *
  clear hbx hB6
  go_wp2_with fail
  refine (refuse_s _ _ _ _).mono ?_
  rintro e wr ⟨p, rfl, hp, hP, hb⟩
  have hlt := Nat.lt_of_lt_of_le hR.1 hp
  have hwp := Nat.le_trans hl.size hp
  replace hl := bt hl hb
  replace hR := hR.later hb
  clear hb
  go_wp2_with (refine wpList_store_mid (by rfl) 37 _ _ (by rfl) (w.heap.size + 1) 0 (PZ) (by rfl) (by rfl) hR.there size36 PZ_one ?_)
  go_wp2
  exact bodyPost_ret (v := .tuple #[.agg PZ, .iface 70 (.pointer (some ⟨p, 0, none⟩))]) (ret_cell41 (by rfl) (At.whole (vs := PZ) hR rfl) rfl (by rfl) (by rfl)) (by rfl) ⟨p, rfl, hwp, At.apart hP (Nat.ne_of_lt hlt) _ _, Below.setCells (by omega) _ _ _ hl⟩
set_option maxHeartbeats 8000000 in
theorem con_6 (x : FrT) (w : World)
    (q : (x.k == 2054) = false) (q2 : (x.k == 2048) = false) :
    Calls Tryz.prog 13 #[.agg #[.int .i64 x.a, .int .i64 x.b, .int .i64 x.k, .string x.d]] w fun e w' => ∃ p, e = .returned (.tuple #[.agg PZ, .iface 70 (.pointer (some ⟨p, 0, none⟩))]) ∧ w.heap.size ≤ p ∧ At w' p (FailV ⟨#[101, 116, 104, 101, 114]⟩ (0) (90)) ∧ Below w.heap.size w w' := by
  have hb1 := bel1 w (.cells #[.int .i64 x.a, .int .i64 x.b, .int .i64 x.k, .string x.d] 24)
  have hb2 := bel1 (w.alloc (.cells #[.int .i64 x.a, .int .i64 x.b, .int .i64 x.k, .string x.d] 24)) (.cells #[.int .i64 0, .int .i64 0, .int .i64 0, .int .i64 0, .string ⟨#[]⟩, .int .i64 0, .int .i64 0, .int .i64 0, .int .i64 0, .int .i64 0, .int .i64 0, .int .i64 0, .int .i64 0, .int .i64 0, .int .i64 0, .int .i64 0, .bool false, .bool false, .string ⟨#[]⟩, .string ⟨#[]⟩, .int .i64 0, .int .i64 0, .int .i64 0, .int .i64 0, .string ⟨#[]⟩, .int .i64 0, .int .i64 0, .int .i64 0, .int .i64 0, .int .i64 0, .int .i64 0, .int .i64 0, .int .i64 0, .int .i64 0, .int .i64 0, .int .i64 0, .bool false, .bool false, .bool false, .slice none 0 0, .string ⟨#[]⟩] 37)
  have hA := (At.box w #[.int .i64 x.a, .int .i64 x.b, .int .i64 x.k, .string x.d] 24).later hb2
  have hR : At ((w.alloc (.cells #[.int .i64 x.a, .int .i64 x.b, .int .i64 x.k, .string x.d] 24)).alloc (.cells #[.int .i64 0, .int .i64 0, .int .i64 0, .int .i64 0, .string ⟨#[]⟩, .int .i64 0, .int .i64 0, .int .i64 0, .int .i64 0, .int .i64 0, .int .i64 0, .int .i64 0, .int .i64 0, .int .i64 0, .int .i64 0, .int .i64 0, .bool false, .bool false, .string ⟨#[]⟩, .string ⟨#[]⟩, .int .i64 0, .int .i64 0, .int .i64 0, .int .i64 0, .string ⟨#[]⟩, .int .i64 0, .int .i64 0, .int .i64 0, .int .i64 0, .int .i64 0, .int .i64 0, .int .i64 0, .int .i64 0, .int .i64 0, .int .i64 0, .int .i64 0, .bool false, .bool false, .bool false, .slice none 0 0, .string ⟨#[]⟩] 37)) (w.heap.size + 1) PZ := At.box2 w (.cells #[.int .i64 x.a, .int .i64 x.b, .int .i64 x.k, .string x.d] 24) #[.int .i64 0, .int .i64 0, .int .i64 0, .int .i64 0, .string ⟨#[]⟩, .int .i64 0, .int .i64 0, .int .i64 0, .int .i64 0, .int .i64 0, .int .i64 0, .int .i64 0, .int .i64 0, .int .i64 0, .int .i64 0, .int .i64 0, .bool false, .bool false, .string ⟨#[]⟩, .string ⟨#[]⟩, .int .i64 0, .int .i64 0, .int .i64 0, .int .i64 0, .string ⟨#[]⟩, .int .i64 0, .int .i64 0, .int .i64 0, .int .i64 0, .int .i64 0, .int .i64 0, .int .i64 0, .int .i64 0, .int .i64 0, .int .i64 0, .int .i64 0, .bool false, .bool false, .bool false, .slice none 0 0, .string ⟨#[]⟩] 37
  have hl := bt hb1 hb2
  have hz := buildZ
  clear hb1 hb2
  go_enter Tryz.func13, Tryz.ntmps13
  go_upto_region 1 with fail
  generalize hw0 : (w.alloc (.cells #[.int .i64 x.a, .int .i64 x.b, .int .i64 x.k, .string x.d] 24)).alloc (.cells #[.int .i64 0, .int .i64 0, .int .i64 0, .int .i64 0, .string ⟨#[]⟩, .int .i64 0, .int .i64 0, .int .i64 0, .int .i64 0, .int .i64 0, .int .i64 0, .int .i64 0, .int .i64 0, .int .i64 0, .int .i64 0, .int .i64 0, .bool false, .bool false, .string ⟨#[]⟩, .string ⟨#[]⟩, .int .i64 0, .int .i64 0, .int .i64 0, .int .i64 0, .string ⟨#[]⟩, .int .i64 0, .int .i64 0, .int .i64 0, .int .i64 0, .int .i64 0, .int .i64 0, .int .i64 0, .int .i64 0, .int .i64 0, .int .i64 0, .int .i64 0, .bool false, .bool false, .bool false, .slice none 0 0, .string ⟨#[]⟩] 37) = w0 at *
  clear hw0
  have c2 := (hA.2 2 _ rfl).1
  have c3 := (hA.2 3 _ rfl).1
  go_wp2_with fail
  refine (refuse_s _ _ _ _).mono ?_
  rintro e wr ⟨p, rfl, hp, hP, hb⟩
  have hlt := Nat.lt_of_lt_of_le hR.1 hp
  have hwp := Nat.le_trans hl.size hp
  replace hl := bt hl hb
  replace hR := hR.later hb
  clear hb
  go_wp2_with (refine wpList_store_mid (by rfl) 37 _ _ (by rfl) (w.heap.size + 1) 0 (PZ) (by rfl) (by rfl) hR.there size36 PZ_one ?_)
  go_wp2
  exact bodyPost_ret (v := .tuple #[.agg PZ, .iface 70 (.pointer (some ⟨p, 0, none⟩))]) (ret_cell41 (by rfl) (At.whole (vs := PZ) hR rfl) rfl (by rfl) (by rfl)) (by rfl) ⟨p, rfl, hwp, At.apart hP (Nat.ne_of_lt hlt) _ _, Below.setCells (by omega) _ _ _ hl⟩
set_option maxHeartbeats 8000000 in
theorem con_4 (x : FrT) (y : PkT) (l : ByteArray) (a c : Int) (w : World)
    (hG : OrE w)
    (HSH : Hid (ShFail 14))
    (q : (x.k == 2054) = false) (q2 : (x.k == 2048) = true)
    (HIP : Hid (∀ W, Calls Tryz.prog 29 #[.string x.d] W fun e w' => e = .returned (.tuple #[.agg #[.int .i64 y.f, .int .i64 y.t, .int .i64 y.tl, .int .i64 y.pr, .int .i64 y.id, .int .i64 y.fg, .bool y.mo, .bool y.dn, .string y.op, .string y.da], .int .i64 0]) ∧ Below W.heap.size W w'))
    (HIN : Hid (∀ W, OrE W → Calls Tryz.prog 30 #[.agg #[.int .i64 y.f, .int .i64 y.t, .int .i64 y.tl, .int .i64 y.pr, .int .i64 y.id, .int .i64 y.fg, .bool y.mo, .bool y.dn, .string y.op, .string y.da]] W fun e w' => ∃ p, e = .returned (.tuple #[.agg PZ, .iface 70 (.pointer (some ⟨p, 0, none⟩))]) ∧ W.heap.size ≤ p ∧ At w' p (FailV l a c) ∧ Below W.heap.size W w'))
    (ha0 : 0 ≤ a) (ha1 : a ≤ 140737488365328) :
    Calls Tryz.prog 13 #[.agg #[.int .i64 x.a, .int .i64 x.b, .int .i64 x.k, .string x.d]] w fun e w' => ∃ p, e = .returned (.tuple #[.agg PZ, .iface 70 (.pointer (some ⟨p, 0, none⟩))]) ∧ w.heap.size ≤ p ∧ At w' p (FailV l (a + 14) (c)) ∧ Below w.heap.size w w' := by
  have hb1 := bel1 w (.cells #[.int .i64 x.a, .int .i64 x.b, .int .i64 x.k, .string x.d] 24)
  have hb2 := bel1 (w.alloc (.cells #[.int .i64 x.a, .int .i64 x.b, .int .i64 x.k, .string x.d] 24)) (.cells #[.int .i64 0, .int .i64 0, .int .i64 0, .int .i64 0, .string ⟨#[]⟩, .int .i64 0, .int .i64 0, .int .i64 0, .int .i64 0, .int .i64 0, .int .i64 0, .int .i64 0, .int .i64 0, .int .i64 0, .int .i64 0, .int .i64 0, .bool false, .bool false, .string ⟨#[]⟩, .string ⟨#[]⟩, .int .i64 0, .int .i64 0, .int .i64 0, .int .i64 0, .string ⟨#[]⟩, .int .i64 0, .int .i64 0, .int .i64 0, .int .i64 0, .int .i64 0, .int .i64 0, .int .i64 0, .int .i64 0, .int .i64 0, .int .i64 0, .int .i64 0, .bool false, .bool false, .bool false, .slice none 0 0, .string ⟨#[]⟩] 37)
  have hA := (At.box w #[.int .i64 x.a, .int .i64 x.b, .int .i64 x.k, .string x.d] 24).later hb2
  have hR : At ((w.alloc (.cells #[.int .i64 x.a, .int .i64 x.b, .int .i64 x.k, .string x.d] 24)).alloc (.cells #[.int .i64 0, .int .i64 0, .int .i64 0, .int .i64 0, .string ⟨#[]⟩, .int .i64 0, .int .i64 0, .int .i64 0, .int .i64 0, .int .i64 0, .int .i64 0, .int .i64 0, .int .i64 0, .int .i64 0, .int .i64 0, .int .i64 0, .bool false, .bool false, .string ⟨#[]⟩, .string ⟨#[]⟩, .int .i64 0, .int .i64 0, .int .i64 0, .int .i64 0, .string ⟨#[]⟩, .int .i64 0, .int .i64 0, .int .i64 0, .int .i64 0, .int .i64 0, .int .i64 0, .int .i64 0, .int .i64 0, .int .i64 0, .int .i64 0, .int .i64 0, .bool false, .bool false, .bool false, .slice none 0 0, .string ⟨#[]⟩] 37)) (w.heap.size + 1) PZ := At.box2 w (.cells #[.int .i64 x.a, .int .i64 x.b, .int .i64 x.k, .string x.d] 24) #[.int .i64 0, .int .i64 0, .int .i64 0, .int .i64 0, .string ⟨#[]⟩, .int .i64 0, .int .i64 0, .int .i64 0, .int .i64 0, .int .i64 0, .int .i64 0, .int .i64 0, .int .i64 0, .int .i64 0, .int .i64 0, .int .i64 0, .bool false, .bool false, .string ⟨#[]⟩, .string ⟨#[]⟩, .int .i64 0, .int .i64 0, .int .i64 0, .int .i64 0, .string ⟨#[]⟩, .int .i64 0, .int .i64 0, .int .i64 0, .int .i64 0, .int .i64 0, .int .i64 0, .int .i64 0, .int .i64 0, .int .i64 0, .int .i64 0, .int .i64 0, .bool false, .bool false, .bool false, .slice none 0 0, .string ⟨#[]⟩] 37
  have hl := bt hb1 hb2
  have hz := buildZ
  clear hb1 hb2
  go_enter Tryz.func13, Tryz.ntmps13
  go_upto_region 1 with fail
  generalize hw0 : (w.alloc (.cells #[.int .i64 x.a, .int .i64 x.b, .int .i64 x.k, .string x.d] 24)).alloc (.cells #[.int .i64 0, .int .i64 0, .int .i64 0, .int .i64 0, .string ⟨#[]⟩, .int .i64 0, .int .i64 0, .int .i64 0, .int .i64 0, .int .i64 0, .int .i64 0, .int .i64 0, .int .i64 0, .int .i64 0, .int .i64 0, .int .i64 0, .bool false, .bool false, .string ⟨#[]⟩, .string ⟨#[]⟩, .int .i64 0, .int .i64 0, .int .i64 0, .int .i64 0, .string ⟨#[]⟩, .int .i64 0, .int .i64 0, .int .i64 0, .int .i64 0, .int .i64 0, .int .i64 0, .int .i64 0, .int .i64 0, .int .i64 0, .int .i64 0, .int .i64 0, .bool false, .bool false, .bool false, .slice none 0 0, .string ⟨#[]⟩] 37) = w0 at *
  clear hw0
  have c2 := (hA.2 2 _ rfl).1
  have c3 := (hA.2 3 _ rfl).1
  go_wp2_with fail
  refine (HIP.out _).mono ?_
  rintro e w3 ⟨rfl, hb⟩
  have hbx := bel1 w3 (.cells #[.int .i64 y.f, .int .i64 y.t, .int .i64 y.tl, .int .i64 y.pr, .int .i64 y.id, .int .i64 y.fg, .bool y.mo, .bool y.dn, .string y.op, .string y.da] 28)
  have hI := At.box w3 #[.int .i64 y.f, .int .i64 y.t, .int .i64 y.tl, .int .i64 y.pr, .int .i64 y.id, .int .i64 y.fg, .bool y.mo, .bool y.dn, .string y.op, .string y.da] 28
  replace hb := bt hb hbx
  replace hl := bt hl hb
  replace hA := hA.later hb
  replace hR := hR.later hb
  clear hb HIP c2 c3
  go_upto_region 9 with fail
  obtain ⟨B6, hB6⟩ : ∃ B, B = w3.heap.size := ⟨_, rfl⟩
  rw [← hB6] at hI ⊢
  generalize w3.alloc (.cells #[.int .i64 y.f, .int .i64 y.t, .int .i64 y.tl, .int .i64 y.pr, .int .i64 y.id, .int .i64 y.fg, .bool y.mo, .bool y.dn, .string y.op, .string y.da] 28) = w4 at *
  clear hbx hB6
  have hlt0 : w.heap.size + 1 < w4.heap.size := hR.1
  go_upto_region 11 with fail
  go_cut [8, 9] from 10 (fun q y W => ∃ (B8 p : Nat), q = .pointer (some ⟨B8, 0, none⟩) ∧ y = .iface 70 (.pointer (some ⟨p, 0, none⟩)) ∧ Below w.heap.size w W ∧ At W (w.heap.size + 1) PZ ∧ At W B8 PZ ∧ At W p (FailV l a c))
  case first =>
    clear HSH
    go_wp2_with (refine wpList_loadG 28 _ (by rfl) (by rfl) B6 0 (by rfl) _ _ hI.range Tryz.underlying28 rfl size27 ?_)
    refine (HIN.out _ (hG.later hl)).mono ?_
    rintro e w5 ⟨p, rfl, hp, hP, hb⟩
    replace hl := bt hl hb
    replace hR := hR.later hb
    clear hb HIN hI hA
    have hX0 : At (w5.alloc (.cells #[.int .i64 0, .int .i64 0, .int .i64 0, .int .i64 0, .string ⟨#[]⟩, .int .i64 0, .int .i64 0, .int .i64 0, .int .i64 0, .int .i64 0, .int .i64 0, .int .i64 0, .int .i64 0, .int .i64 0, .int .i64 0, .int .i64 0, .bool false, .bool false, .string ⟨#[]⟩, .string ⟨#[]⟩, .int .i64 0, .int .i64 0, .int .i64 0, .int .i64 0, .string ⟨#[]⟩, .int .i64 0, .int .i64 0, .int .i64 0, .int .i64 0, .int .i64 0, .int .i64 0, .int .i64 0, .int .i64 0, .int .i64 0, .int .i64 0, .int .i64 0, .bool false, .bool false, .bool false, .slice none 0 0, .string ⟨#[]⟩] 37)) w5.heap.size PZ := At.box w5 #[.int .i64 0, .int .i64 0, .int .i64 0, .int .i64 0, .string ⟨#[]⟩, .int .i64 0, .int .i64 0, .int .i64 0, .int .i64 0, .int .i64 0, .int .i64 0, .int .i64 0, .int .i64 0, .int .i64 0, .int .i64 0, .int .i64 0, .bool false, .bool false, .string ⟨#[]⟩, .string ⟨#[]⟩, .int .i64 0, .int .i64 0, .int .i64 0, .int .i64 0, .string ⟨#[]⟩, .int .i64 0, .int .i64 0, .int .i64 0, .int .i64 0, .int .i64 0, .int .i64 0, .int .i64 0, .int .i64 0, .int .i64 0, .int .i64 0, .int .i64 0, .bool false, .bool false, .bool false, .slice none 0 0, .string ⟨#[]⟩] 37
    have hbx : Below w5.heap.size w5 ((w5.alloc (.cells #[.int .i64 0, .int .i64 0, .int .i64 0, .int .i64 0, .string ⟨#[]⟩, .int .i64 0, .int .i64 0, .int .i64 0, .int .i64 0, .int .i64 0, .int .i64 0, .int .i64 0, .int .i64 0, .int .i64 0, .int .i64 0, .int .i64 0, .bool false, .bool false, .string ⟨#[]⟩, .string ⟨#[]⟩, .int .i64 0, .int .i64 0, .int .i64 0, .int .i64 0, .string ⟨#[]⟩, .int .i64 0, .int .i64 0, .int .i64 0, .int .i64 0, .int .i64 0, .int .i64 0, .int .i64 0, .int .i64 0, .int .i64 0, .int .i64 0, .int .i64 0, .bool false, .bool false, .bool false, .slice none 0 0, .string ⟨#[]⟩] 37)).setCells w5.heap.size 0 PZ.toList) := Below.setCells (Nat.le_refl _) _ _ _ (bel1 w5 (.cells #[.int .i64 0, .int .i64 0, .int .i64 0, .int .i64 0, .string ⟨#[]⟩, .int .i64 0, .int .i64 0, .int .i64 0, .int .i64 0, .int .i64 0, .int .i64 0, .int .i64 0, .int .i64 0, .int .i64 0, .int .i64 0, .int .i64 0, .bool false, .bool false, .string ⟨#[]⟩, .string ⟨#[]⟩, .int .i64 0, .int .i64 0, .int .i64 0, .int .i64 0, .string ⟨#[]⟩, .int .i64 0, .int .i64 0, .int .i64 0, .int .i64 0, .int .i64 0, .int .i64 0, .int .i64 0, .int .i64 0, .int .i64 0, .int .i64 0, .int .i64 0, .bool false, .bool false, .bool false, .slice none 0 0, .string ⟨#[]⟩] 37))
    have hX : At ((w5.alloc (.cells #[.int .i64 0, .int .i64 0, .int .i64 0, .int .i64 0, .string ⟨#[]⟩, .int .i64 0, .int .i64 0, .int .i64 0, .int .i64 0, .int .i64 0, .int .i64 0, .int .i64 0, .int .i64 0, .int .i64 0, .int .i64 0, .int .i64 0, .bool false, .bool false, .string ⟨#[]⟩, .string ⟨#[]⟩, .int .i64 0, .int .i64 0, .int .i64 0, .int .i64 0, .string ⟨#[]⟩, .int .i64 0, .int .i64 0, .int .i64 0, .int .i64 0, .int .i64 0, .int .i64 0, .int .i64 0, .int .i64 0, .int .i64 0, .int .i64 0, .int .i64 0, .bool false, .bool false, .bool false, .slice none 0 0, .string ⟨#[]⟩] 37)).setCells w5.heap.size 0 PZ.toList) w5.heap.size PZ := At.whole (vs := PZ) hX0 rfl
    go_wp2_with (refine wpList_store_mid (by rfl) 37 _ _ (by rfl) (w5.heap.size) 0 PZ (by rfl) (by rfl) hX0.there size36 PZ_one ?_)
    go_wp2
    go_meet
    case rel => exact ⟨w5.heap.size, p, rfl, rfl, bt hl hbx, hR.later hbx, hX, hP.later hbx⟩
  case rest =>
  clear hl hR hI hA HIN
  obtain ⟨B8, p, rfl, rfl, hl, hR, hX, hP⟩ := hcut
  have HX : Hid (Below w.heap.size w wc ∧ At wc (w.heap.size + 1) PZ ∧ At wc B8 PZ ∧ At wc p (FailV l a c)) := ⟨hl, hR, hX, hP⟩
  clear hl hR hX hP
  go_wp2
  refine wp_region_any (by kernel_rfl) ?_
  refine region_facts_end (fun W => Below wc.heap.size wc W) (GE (fun qq => match qq with | 0 => .agg PZ | 1 => .iface 70 (.pointer (some ⟨p, 0, none⟩)) | _ => undef) (fun qq => match qq with | 2 => some (fun v W => ∃ q, v = .iface 70 (.pointer (some ⟨q, 0, none⟩)) ∧ wc.heap.size ≤ q ∧ At W q (FailV l (a + 14) c)) | _ => none)) (n := 53) 3 8 (by kernel_rfl) (by kernel_rfl) rfl (by kernel_rfl) (GE_later _ _ (by
      intro i F hF v w w' h hb
      split at hF
      · obtain rfl := Option.some.inj hF
        obtain ⟨q, e, h0, h1⟩ := h
        exact ⟨q, e, h0, h1.later hb⟩
      · cases hF)) ?_ ?_ ((Below.refl _ _).drew) (Nat.le_refl _)
  · skip
    refine ⟨?_, ?_, ?_, trivial⟩
    · intro ac w1 hS hT hB hD K hK
      rw [if_pos (by rfl)]
      have d8 : ac.tmps.getD 8 undef = .pointer (some ⟨B8, 0, none⟩) := hB 8 (by kernel_rfl)
      clear hB hD hT
      exact wp_load_mid 37 (.tmp 8) rfl B8 0 d8 _ _ (HX.out.2.2.1.later hS).range Tryz.underlying37 rfl size36 (hK _ _ hS (Below.refl _ _) rfl)
    · intro ac w1 hS hT hB hD K hK
      rw [if_pos (by rfl)]
      have d9 : ac.tmps.getD 9 undef = .iface 70 (.pointer (some ⟨p, 0, none⟩)) := hB 9 (by kernel_rfl)
      clear hB hD hT
      go_simp
      exact hK _ _ hS (Below.refl _ _) rfl
    · intro ac w1 hS hT hB hD K hK
      rw [if_pos (by rfl)]
      have d48 : ac.tmps.getD 48 undef = .iface 70 (.pointer (some ⟨p, 0, none⟩)) := hD ⟨1, .data⟩ (by simp) rfl _ 48 rfl rfl
      clear hB hD hT
      go_simp
      refine (HSH.out _ p l a c (hG.later (bt HX.out.1 hS)) ha0 ha1 (HX.out.2.2.2.later hS)).mono ?_
      rintro e w' ⟨q, rfl, hq, hQ, hb⟩
      exact hK _ _ (bt hS hb) hb ⟨q, rfl, Nat.le_trans hS.size hq, hQ⟩
  · intro ac w9 hS hT hdf hB hF
    obtain ⟨⟨ll⟩, df⟩ := ac
    match ll, hT with
    | x0 :: x1 :: x2 :: x3 :: x4 :: x5 :: x6 :: x7 :: x8 :: x9 :: x10 :: x11 :: x12 :: x13 :: x14 :: x15 :: x16 :: x17 :: x18 :: x19 :: x20 :: x21 :: x22 :: x23 :: x24 :: x25 :: x26 :: x27 :: x28 :: x29 :: x30 :: x31 :: x32 :: x33 :: x34 :: x35 :: x36 :: x37 :: x38 :: x39 :: x40 :: x41 :: x42 :: x43 :: x44 :: x45 :: x46 :: x47 :: x48 :: x49 :: x50 :: x51 :: x52 :: [], _ =>
      have s2 : x2 = .pointer (some ⟨w.heap.size + 1, 0, none⟩) := hB 2 (by kernel_rfl)
      have s47 : x47 = .agg PZ := hF 0 _ 47 (by decide) rfl rfl
      obtain ⟨q, s49, hq, hQ⟩ : ∃ q, x49 = .iface 70 (.pointer (some ⟨q, 0, none⟩)) ∧ wc.heap.size ≤ q ∧ At w9 q (FailV l (a + 14) c) := hF 2 _ 49 (by decide) rfl rfl
      have sd : df = [] := hdf
      subst s2 s47 s49 sd
      clear hB hF HSH
      have hl := bt HX.out.1 hS
      have hR := HX.out.2.1.later hS
      have hlt : w.heap.size + 1 < q := Nat.lt_of_lt_of_le HX.out.2.1.1 hq
      clear HX hS
      intro Kc hKc
      rw [if_pos (by rfl)]
      refine wp_store_mid 37 (.tmp 2) (.tmp 47) (by rfl) (w.heap.size + 1) 0 PZ (by rfl) (by rfl) hR.there size36 PZ_one ?_
      apply hKc
      clear hKc Kc
      intro Kc hKc
      rw [if_pos (by rfl)]
      go_simp
      apply hKc
      clear hKc Kc
      refine TailOk_nil ?_
      go_wp2
      exact bodyPost_ret (v := .tuple #[.agg PZ, .iface 70 (.pointer (some ⟨q, 0, none⟩))]) (ret_cell41 (by rfl) (At.whole (vs := PZ) hR rfl) rfl (by rfl) (by rfl)) (by rfl) ⟨q, rfl, by omega, At.apart hQ (Nat.ne_of_lt hlt) _ _, Below.setCells (by omega) _ _ _ hl⟩
set_option maxHeartbeats 8000000 in
theorem con_5 (x : FrT) (y : PkT) (z : Pd) (w : World)
    (hG : OrE w)
    (HSH : Hid ShNil)
    (q : (x.k == 2054) = false) (q2 : (x.k == 2048) = true)
    (HIP : Hid (∀ W, Calls Tryz.prog 29 #[.string x.d] W fun e w' => e = .returned (.tuple #[.agg #[.int .i64 y.f, .int .i64 y.t, .int .i64 y.tl, .int .i64 y.pr, .int .i64 y.id, .int .i64 y.fg, .bool y.mo, .bool y.dn, .string y.op, .string y.da], .int .i64 0]) ∧ Below W.heap.size W w'))
    (HIN : Hid (∀ W, OrE W → Calls Tryz.prog 30 #[.agg #[.int .i64 y.f, .int .i64 y.t, .int .i64 y.tl, .int .i64 y.pr, .int .i64 y.id, .int .i64 y.fg, .bool y.mo, .bool y.dn, .string y.op, .string y.da]] W fun e w' => ∃ v, e = .returned (.tuple #[.agg (z.v v), .nilIface]) ∧ RgA W.heap.size w' v z.sg.o.rs ∧ Below W.heap.size W w')) :
    Calls Tryz.prog 13 #[.agg #[.int .i64 x.a, .int .i64 x.b, .int .i64 x.k, .string x.d]] w fun e w' => ∃ v, e = .returned (.tuple #[.agg (Pd.v (z) v), .nilIface]) ∧ RgA w.heap.size w' v (z).sg.o.rs ∧ Below w.heap.size w w' := by
  have hb1 := bel1 w (.cells #[.int .i64 x.a, .int .i64 x.b, .int .i64 x.k, .string x.d] 24)
  have hb2 := bel1 (w.alloc (.cells #[.int .i64 x.a, .int .i64 x.b, .int .i64 x.k, .string x.d] 24)) (.cells #[.int .i64 0, .int .i64 0, .int .i64 0, .int .i64 0, .string ⟨#[]⟩, .int .i64 0, .int .i64 0, .int .i64 0, .int .i64 0, .int .i64 0, .int .i64 0, .int .i64 0, .int .i64 0, .int .i64 0, .int .i64 0, .int .i64 0, .bool false, .bool false, .string ⟨#[]⟩, .string ⟨#[]⟩, .int .i64 0, .int .i64 0, .int .i64 0, .int .i64 0, .string ⟨#[]⟩, .int .i64 0, .int .i64 0, .int .i64 0, .int .i64 0, .int .i64 0, .int .i64 0, .int .i64 0, .int .i64 0, .int .i64 0, .int .i64 0, .int .i64 0, .bool false, .bool false, .bool false, .slice none 0 0, .string ⟨#[]⟩] 37)
  have hA := (At.box w #[.int .i64 x.a, .int .i64 x.b, .int .i64 x.k, .string x.d] 24).later hb2
  have hR : At ((w.alloc (.cells #[.int .i64 x.a, .int .i64 x.b, .int .i64 x.k, .string x.d] 24)).alloc (.cells #[.int .i64 0, .int .i64 0, .int .i64 0, .int .i64 0, .string ⟨#[]⟩, .int .i64 0, .int .i64 0, .int .i64 0, .int .i64 0, .int .i64 0, .int .i64 0, .int .i64 0, .int .i64 0, .int .i64 0, .int .i64 0, .int .i64 0, .bool false, .bool false, .string ⟨#[]⟩, .string ⟨#[]⟩, .int .i64 0, .int .i64 0, .int .i64 0, .int .i64 0, .string ⟨#[]⟩, .int .i64 0, .int .i64 0, .int .i64 0, .int .i64 0, .int .i64 0, .int .i64 0, .int .i64 0, .int .i64 0, .int .i64 0, .int .i64 0, .int .i64 0, .bool false, .bool false, .bool false, .slice none 0 0, .string ⟨#[]⟩] 37)) (w.heap.size + 1) PZ := At.box2 w (.cells #[.int .i64 x.a, .int .i64 x.b, .int .i64 x.k, .string x.d] 24) #[.int .i64 0, .int .i64 0, .int .i64 0, .int .i64 0, .string ⟨#[]⟩, .int .i64 0, .int .i64 0, .int .i64 0, .int .i64 0, .int .i64 0, .int .i64 0, .int .i64 0, .int .i64 0, .int .i64 0, .int .i64 0, .int .i64 0, .bool false, .bool false, .string ⟨#[]⟩, .string ⟨#[]⟩, .int .i64 0, .int .i64 0, .int .i64 0, .int .i64 0, .string ⟨#[]⟩, .int .i64 0, .int .i64 0, .int .i64 0, .int .i64 0, .int .i64 0, .int .i64 0, .int .i64 0, .int .i64 0, .int .i64 0, .int .i64 0, .int .i64 0, .bool false, .bool false, .bool false, .slice none 0 0, .string ⟨#[]⟩] 37
  have hl := bt hb1 hb2
  have hz := buildZ
  clear hb1 hb2
  go_enter Tryz.func13, Tryz.ntmps13
  go_upto_region 1 with fail
  generalize hw0 : (w.alloc (.cells #[.int .i64 x.a, .int .i64 x.b, .int .i64 x.k, .string x.d] 24)).alloc (.cells #[.int .i64 0, .int .i64 0, .int .i64 0, .int .i64 0, .string ⟨#[]⟩, .int .i64 0, .int .i64 0, .int .i64 0, .int .i64 0, .int .i64 0, .int .i64 0, .int .i64 0, .int .i64 0, .int .i64 0, .int .i64 0, .int .i64 0, .bool false, .bool false, .string ⟨#[]⟩, .string ⟨#[]⟩, .int .i64 0, .int .i64 0, .int .i64 0, .int .i64 0, .string ⟨#[]⟩, .int .i64 0, .int .i64 0, .int .i64 0, .int .i64 0, .int .i64 0, .int .i64 0, .int .i64 0, .int .i64 0, .int .i64 0, .int .i64 0, .int .i64 0, .bool false, .bool false, .bool false, .slice none 0 0, .string ⟨#[]⟩] 37) = w0 at *
  clear hw0
  have c2 := (hA.2 2 _ rfl).1
  have c3 := (hA.2 3 _ rfl).1
  go_wp2_with fail
  refine (HIP.out _).mono ?_
  rintro e w3 ⟨rfl, hb⟩
  have hbx := bel1 w3 (.cells #[.int .i64 y.f, .int .i64 y.t, .int .i64 y.tl, .int .i64 y.pr, .int .i64 y.id, .int .i64 y.fg, .bool y.mo, .bool y.dn, .string y.op, .string y.da] 28)
  have hI := At.box w3 #[.int .i64 y.f, .int .i64 y.t, .int .i64 y.tl, .int .i64 y.pr, .int .i64 y.id, .int .i64 y.fg, .bool y.mo, .bool y.dn, .string y.op, .string y.da] 28
  replace hb := bt hb hbx
  replace hl := bt hl hb
  replace hA := hA.later hb
  replace hR := hR.later hb
  clear hb HIP c2 c3
  go_upto_region 9 with fail
  obtain ⟨B6, hB6⟩ : ∃ B, B = w3.heap.size := ⟨_, rfl⟩
  rw [← hB6] at hI ⊢
  generalize w3.alloc (.cells #[.int .i64 y.f, .int .i64 y.t, .int .i64 y.tl, .int .i64 y.pr, .int .i64 y.id, .int .i64 y.fg, .bool y.mo, .bool y.dn, .string y.op, .string y.da] 28) = w4 at *
  clear hbx hB6
  have hlt0 : w.heap.size + 1 < w4.heap.size := hR.1
  go_upto_region 11 with fail
  go_cut [8, 9] from 10 (fun q y W => ∃ (B8 : Nat) (a0 : Option Addr) (cap0 : Nat), q = .pointer (some ⟨B8, 0, none⟩) ∧ y = .nilIface ∧ Below w.heap.size w W ∧ At W (w.heap.size + 1) PZ ∧ At W B8 (z.v (.slice a0 z.sg.o.rs.length cap0)) ∧ RgA w4.heap.size W (.slice a0 z.sg.o.rs.length cap0) z.sg.o.rs)
  case first =>
    clear HSH
    go_wp2_with (refine wpList_loadG 28 _ (by rfl) (by rfl) B6 0 (by rfl) _ _ hI.range Tryz.underlying28 rfl size27 ?_)
    refine (HIN.out _ (hG.later hl)).mono ?_
    rintro e w5 ⟨v, rfl, hvr, hb⟩
    obtain ⟨a0, cap0, hve, -⟩ := id hvr
    subst hve
    replace hl := bt hl hb
    replace hR := hR.later hb
    clear hb HIN hI hA
    have hX0 : At (w5.alloc (.cells #[.int .i64 0, .int .i64 0, .int .i64 0, .int .i64 0, .string ⟨#[]⟩, .int .i64 0, .int .i64 0, .int .i64 0, .int .i64 0, .int .i64 0, .int .i64 0, .int .i64 0, .int .i64 0, .int .i64 0, .int .i64 0, .int .i64 0, .bool false, .bool false, .string ⟨#[]⟩, .string ⟨#[]⟩, .int .i64 0, .int .i64 0, .int .i64 0, .int .i64 0, .string ⟨#[]⟩, .int .i64 0, .int .i64 0, .int .i64 0, .int .i64 0, .int .i64 0, .int .i64 0, .int .i64 0, .int .i64 0, .int .i64 0, .int .i64 0, .int .i64 0, .bool false, .bool false, .bool false, .slice none 0 0, .string ⟨#[]⟩] 37)) w5.heap.size PZ := At.box w5 #[.int .i64 0, .int .i64 0, .int .i64 0, .int .i64 0, .string ⟨#[]⟩, .int .i64 0, .int .i64 0, .int .i64 0, .int .i64 0, .int .i64 0, .int .i64 0, .int .i64 0, .int .i64 0, .int .i64 0, .int .i64 0, .int .i64 0, .bool false, .bool false, .string ⟨#[]⟩, .string ⟨#[]⟩, .int .i64 0, .int .i64 0, .int .i64 0, .int .i64 0, .string ⟨#[]⟩, .int .i64 0, .int .i64 0, .int .i64 0, .int .i64 0, .int .i64 0, .int .i64 0, .int .i64 0, .int .i64 0, .int .i64 0, .int .i64 0, .int .i64 0, .bool false, .bool false, .bool false, .slice none 0 0, .string ⟨#[]⟩] 37
    have hbx : Below w5.heap.size w5 ((w5.alloc (.cells #[.int .i64 0, .int .i64 0, .int .i64 0, .int .i64 0, .string ⟨#[]⟩, .int .i64 0, .int .i64 0, .int .i64 0, .int .i64 0, .int .i64 0, .int .i64 0, .int .i64 0, .int .i64 0, .int .i64 0, .int .i64 0, .int .i64 0, .bool false, .bool false, .string ⟨#[]⟩, .string ⟨#[]⟩, .int .i64 0, .int .i64 0, .int .i64 0, .int .i64 0, .string ⟨#[]⟩, .int .i64 0, .int .i64 0, .int .i64 0, .int .i64 0, .int .i64 0, .int .i64 0, .int .i64 0, .int .i64 0, .int .i64 0, .int .i64 0, .int .i64 0, .bool false, .bool false, .bool false, .slice none 0 0, .string ⟨#[]⟩] 37)).setCells w5.heap.size 0 (z.v (.slice a0 z.sg.o.rs.length cap0)).toList) := Below.setCells (Nat.le_refl _) _ _ _ (bel1 w5 (.cells #[.int .i64 0, .int .i64 0, .int .i64 0, .int .i64 0, .string ⟨#[]⟩, .int .i64 0, .int .i64 0, .int .i64 0, .int .i64 0, .int .i64 0, .int .i64 0, .int .i64 0, .int .i64 0, .int .i64 0, .int .i64 0, .int .i64 0, .bool false, .bool false, .string ⟨#[]⟩, .string ⟨#[]⟩, .int .i64 0, .int .i64 0, .int .i64 0, .int .i64 0, .string ⟨#[]⟩, .int .i64 0, .int .i64 0, .int .i64 0, .int .i64 0, .int .i64 0, .int .i64 0, .int .i64 0, .int .i64 0, .int .i64 0, .int .i64 0, .int .i64 0, .bool false, .bool false, .bool false, .slice none 0 0, .string ⟨#[]⟩] 37))
    have hX : At ((w5.alloc (.cells #[.int .i64 0, .int .i64 0, .int .i64 0, .int .i64 0, .string ⟨#[]⟩, .int .i64 0, .int .i64 0, .int .i64 0, .int .i64 0, .int .i64 0, .int .i64 0, .int .i64 0, .int .i64 0, .int .i64 0, .int .i64 0, .int .i64 0, .bool false, .bool false, .string ⟨#[]⟩, .string ⟨#[]⟩, .int .i64 0, .int .i64 0, .int .i64 0, .int .i64 0, .string ⟨#[]⟩, .int .i64 0, .int .i64 0, .int .i64 0, .int .i64 0, .int .i64 0, .int .i64 0, .int .i64 0, .int .i64 0, .int .i64 0, .int .i64 0, .int .i64 0, .bool false, .bool false, .bool false, .slice none 0 0, .string ⟨#[]⟩] 37)).setCells w5.heap.size 0 (z.v (.slice a0 z.sg.o.rs.length cap0)).toList) w5.heap.size (z.v (.slice a0 z.sg.o.rs.length cap0)) := At.whole (vs := (z.v (.slice a0 z.sg.o.rs.length cap0))) hX0 rfl
    go_wp2_with (refine wpList_store_mid (by rfl) 37 _ _ (by rfl) (w5.heap.size) 0 (z.v (.slice a0 z.sg.o.rs.length cap0)) (by rfl) (by rfl) hX0.there size36 (Pd.one _ rfl) ?_)
    go_wp2
    go_meet
    case rel => exact ⟨w5.heap.size, a0, cap0, rfl, rfl, bt hl hbx, hR.later hbx, hX, hvr.later hbx⟩
  case rest =>
  clear hl hR hI hA HIN
  obtain ⟨B8, a0, cap0, rfl, rfl, hl, hR, hX, hvr⟩ := hcut
  have HX : Hid (Below w.heap.size w wc ∧ At wc (w.heap.size + 1) PZ ∧ At wc B8 (z.v (.slice a0 z.sg.o.rs.length cap0)) ∧ RgA w4.heap.size wc (.slice a0 z.sg.o.rs.length cap0) z.sg.o.rs) := ⟨hl, hR, hX, hvr⟩
  clear hl hR hX hvr
  go_wp2
  refine wp_region_any (by kernel_rfl) ?_
  refine region_facts_end (fun W => Below wc.heap.size wc W) (GE (fun qq => match qq with | 0 => .agg (z.v (.slice a0 z.sg.o.rs.length cap0)) | 1 => .nilIface | 2 => .nilIface | _ => undef) (fun _ => none)) (n := 53) 3 8 (by kernel_rfl) (by kernel_rfl) rfl (by kernel_rfl) (GE_later _ _ (fun _ _ h => by cases h)) ?_ ?_ ((Below.refl _ _).drew) (Nat.le_refl _)
  · skip
    refine ⟨?_, ?_, ?_, trivial⟩
    · intro ac w1 hS hT hB hD K hK
      rw [if_pos (by rfl)]
      have d8 : ac.tmps.getD 8 undef = .pointer (some ⟨B8, 0, none⟩) := hB 8 (by kernel_rfl)
      clear hB hD hT
      exact wp_load_mid 37 (.tmp 8) rfl B8 0 d8 _ _ (HX.out.2.2.1.later hS).range Tryz.underlying37 rfl size36 (hK _ _ hS (Below.refl _ _) rfl)
    · intro ac w1 hS hT hB hD K hK
      rw [if_pos (by rfl)]
      have d9 : ac.tmps.getD 9 undef = .nilIface := hB 9 (by kernel_rfl)
      clear hB hD hT
      go_simp
      exact hK _ _ hS (Below.refl _ _) rfl
    · intro ac w1 hS hT hB hD K hK
      rw [if_pos (by rfl)]
      have d48 : ac.tmps.getD 48 undef = .nilIface := hD ⟨1, .data⟩ (by simp) rfl _ 48 rfl rfl
      clear hB hD hT
      go_simp
      refine (HSH.out 14 _).mono ?_
      rintro e w' ⟨rfl, hb⟩
      exact hK _ _ (bt hS hb) hb rfl
  · intro ac w9 hS hT hdf hB hF
    obtain ⟨⟨ll⟩, df⟩ := ac
    match ll, hT with
    | x0 :: x1 :: x2 :: x3 :: x4 :: x5 :: x6 :: x7 :: x8 :: x9 :: x10 :: x11 :: x12 :: x13 :: x14 :: x15 :: x16 :: x17 :: x18 :: x19 :: x20 :: x21 :: x22 :: x23 :: x24 :: x25 :: x26 :: x27 :: x28 :: x29 :: x30 :: x31 :: x32 :: x33 :: x34 :: x35 :: x36 :: x37 :: x38 :: x39 :: x40 :: x41 :: x42 :: x43 :: x44 :: x45 :: x46 :: x47 :: x48 :: x49 :: x50 :: x51 :: x52 :: [], _ =>
      have s2 : x2 = .pointer (some ⟨w.heap.size + 1, 0, none⟩) := hB 2 (by kernel_rfl)
      have s47 : x47 = .agg (z.v (.slice a0 z.sg.o.rs.length cap0)) := hF 0 _ 47 (by decide) rfl rfl
      have s49 : x49 = .nilIface := hF 2 _ 49 (by decide) rfl rfl
      have sd : df = [] := hdf
      subst s2 s47 s49 sd
      clear hB hF HSH
      have hl := bt HX.out.1 hS
      have hR := HX.out.2.1.later hS
      have hvr := HX.out.2.2.2.later hS
      clear HX hS
      intro Kc hKc
      rw [if_pos (by rfl)]
      refine wp_store_mid 37 (.tmp 2) (.tmp 47) (by rfl) (w.heap.size + 1) 0 (z.v (.slice a0 z.sg.o.rs.length cap0)) (by rfl) (by rfl) hR.there size36 (Pd.one _ rfl) ?_
      apply hKc
      clear hKc Kc
      intro Kc hKc
      rw [if_pos (by rfl)]
      go_simp
      apply hKc
      clear hKc Kc
      refine TailOk_nil ?_
      go_wp2
      exact bodyPost_ret (v := .tuple #[.agg (z.v (.slice a0 z.sg.o.rs.length cap0)), .nilIface]) (ret_cell41 (by rfl) (At.whole (vs := (z.v (.slice a0 z.sg.o.rs.length cap0))) hR rfl) rfl (by rfl) (by rfl)) (by rfl) ⟨_, rfl, (hvr.setCells _ _ _ hlt0).mono (by omega), Below.setCells (by omega) _ _ _ hl⟩
set_option maxHeartbeats 8000000 in
theorem par_1 (st : ByteArray) (x : FrT) (c : Int) (w : World)
    (HED : Hid (∀ W, Calls Tryz.prog 11 #[.string st] W fun e w' => e = .returned (.tuple #[.agg #[.int .i64 x.a, .int .i64 x.b, .int .i64 x.k, .string x.d], .int .i64 c]) ∧ Below W.heap.size W w'))
    (hc : (c != 0) = true) :
    Calls Tryz.prog 5 #[.string st] w fun e w' => ∃ p, e = .returned (.tuple #[.agg PZ, .iface 70 (.pointer (some ⟨p, 0, none⟩))]) ∧ w.heap.size ≤ p ∧ At w' p (FailV ⟨#[101, 116, 104, 101, 114]⟩ (0) (c)) ∧ Below w.heap.size w w' := by
  have hR : At (w.alloc (.cells #[.int .i64 0, .int .i64 0, .int .i64 0, .int .i64 0, .string ⟨#[]⟩, .int .i64 0, .int .i64 0, .int .i64 0, .int .i64 0, .int .i64 0, .int .i64 0, .int .i64 0, .int .i64 0, .int .i64 0, .int .i64 0, .int .i64 0, .bool false, .bool false, .string ⟨#[]⟩, .string ⟨#[]⟩, .int .i64 0, .int .i64 0, .int .i64 0, .int .i64 0, .string ⟨#[]⟩, .int .i64 0, .int .i64 0, .int .i64 0, .int .i64 0, .int .i64 0, .int .i64 0, .int .i64 0, .int .i64 0, .int .i64 0, .int .i64 0, .int .i64 0, .bool false, .bool false, .bool false, .slice none 0 0, .string ⟨#[]⟩] 37)) w.heap.size PZ := At.box w #[.int .i64 0, .int .i64 0, .int .i64 0, .int .i64 0, .string ⟨#[]⟩, .int .i64 0, .int .i64 0, .int .i64 0, .int .i64 0, .int .i64 0, .int .i64 0, .int .i64 0, .int .i64 0, .int .i64 0, .int .i64 0, .int .i64 0, .bool false, .bool false, .string ⟨#[]⟩, .string ⟨#[]⟩, .int .i64 0, .int .i64 0, .int .i64 0, .int .i64 0, .string ⟨#[]⟩, .int .i64 0, .int .i64 0, .int .i64 0, .int .i64 0, .int .i64 0, .int .i64 0, .int .i64 0, .int .i64 0, .int .i64 0, .int .i64 0, .int .i64 0, .bool false, .bool false, .bool false, .slice none 0 0, .string ⟨#[]⟩] 37
  have hl := bel1 w (.cells #[.int .i64 0, .int .i64 0, .int .i64 0, .int .i64 0, .string ⟨#[]⟩, .int .i64 0, .int .i64 0, .int .i64 0, .int .i64 0, .int .i64 0, .int .i64 0, .int .i64 0, .int .i64 0, .int .i64 0, .int .i64 0, .int .i64 0, .bool false, .bool false, .string ⟨#[]⟩, .string ⟨#[]⟩, .int .i64 0, .int .i64 0, .int .i64 0, .int .i64 0, .string ⟨#[]⟩, .int .i64 0, .int .i64 0, .int .i64 0, .int .i64 0, .int .i64 0, .int .i64 0, .int .i64 0, .int .i64 0, .int .i64 0, .int .i64 0, .int .i64 0, .bool false, .bool false, .bool false, .slice none 0 0, .string ⟨#[]⟩] 37)
  have hz := buildZ
  go_enter Tryz.func5, Tryz.ntmps5
  go_upto_region 1 with fail
  generalize hw0 : w.alloc (.cells #[.int .i64 0, .int .i64 0, .int .i64 0, .int .i64 0, .string ⟨#[]⟩, .int .i64 0, .int .i64 0, .int .i64 0, .int .i64 0, .int .i64 0, .int .i64 0, .int .i64 0, .int .i64 0, .int .i64 0, .int .i64 0, .int .i64 0, .bool false, .bool false, .string ⟨#[]⟩, .string ⟨#[]⟩, .int .i64 0, .int .i64 0, .int .i64 0, .int .i64 0, .string ⟨#[]⟩, .int .i64 0, .int .i64 0, .int .i64 0, .int .i64 0, .int .i64 0, .int .i64 0, .int .i64 0, .int .i64 0, .int .i64 0, .int .i64 0, .int .i64 0, .bool false, .bool false, .bool false, .slice none 0 0, .string ⟨#[]⟩] 37) = w0 at *
  clear hw0
  go_wp2_with fail
  refine (HED.out _).mono ?_
  rintro e w3 ⟨rfl, hb⟩
  have hbx := bel1 w3 (.cells #[.int .i64 x.a, .int .i64 x.b, .int .i64 x.k, .string x.d] 24)
  have hF4 := At.box w3 #[.int .i64 x.a, .int .i64 x.b, .int .i64 x.k, .string x.d] 24
  replace hb := bt hb hbx
  replace hl := bt hl hb
  replace hR := hR.later hb
  clear hb HED
  go_upto_region 2 with fail
  obtain ⟨B4, hB4⟩ : ∃ B, B = w3.heap.size := ⟨_, rfl⟩
  rw [← hB4] at hF4 ⊢
  generalize w3.alloc (.cells #[.int .i64 x.a, .int .i64 x.b, .int .i64 x.k, .string x.d] 24) = w4 at *
  clear hbx hB4
  go_wp2_with fail
  refine (refuse_s _ _ _ _).mono ?_
  rintro e wr ⟨p, rfl, hp, hP, hb⟩
  have hlt := Nat.lt_of_lt_of_le hR.1 hp
  have hwp := Nat.le_trans hl.size hp
  replace hl := bt hl hb
  replace hR := hR.later hb
  clear hb
  go_wp2_with (refine wpList_store_mid (by rfl) 37 _ _ (by rfl) (w.heap.size) 0 (PZ) (by rfl) (by rfl) hR.there size36 PZ_one ?_)
  go_wp2
  exact bodyPost_ret (v := .tuple #[.agg PZ, .iface 70 (.pointer (some ⟨p, 0, none⟩))]) (ret_cell41 (by rfl) (At.whole (vs := PZ) hR rfl) rfl (by rfl) (by rfl)) (by rfl) ⟨p, rfl, hwp, At.apart hP (Nat.ne_of_lt hlt) _ _, Below.setCells (by omega) _ _ _ hl⟩
set_option maxHeartbeats 8000000 in
theorem par_2 (st : ByteArray) (x : FrT) (l : ByteArray) (a c : Int) (w : World)
    (hG : OrE w)
    (HED : Hid (∀ W, Calls Tryz.prog 11 #[.string st] W fun e w' => e = .returned (.tuple #[.agg #[.int .i64 x.a, .int .i64 x.b, .int .i64 x.k, .string x.d], .int .i64 0]) ∧ Below W.heap.size W w'))
    (HCO : Hid (∀ W, OrE W → Calls Tryz.prog 13 #[.agg #[.int .i64 x.a, .int .i64 x.b, .int .i64 x.k, .string x.d]] W fun e w' => ∃ p, e = .returned (.tuple #[.agg PZ, .iface 70 (.pointer (some ⟨p, 0, none⟩))]) ∧ W.heap.size ≤ p ∧ At w' p (FailV l a c) ∧ Below W.heap.size W w')) :
    Calls Tryz.prog 5 #[.string st] w fun e w' => ∃ p, e = .returned (.tuple #[.agg PZ, .iface 70 (.pointer (some ⟨p, 0, none⟩))]) ∧ w.heap.size ≤ p ∧ At w' p (FailV l (a) (c)) ∧ Below w.heap.size w w' := by
  have hR : At (w.alloc (.cells #[.int .i64 0, .int .i64 0, .int .i64 0, .int .i64 0, .string ⟨#[]⟩, .int .i64 0, .int .i64 0, .int .i64 0, .int .i64 0, .int .i64 0, .int .i64 0, .int .i64 0, .int .i64 0, .int .i64 0, .int .i64 0, .int .i64 0, .bool false, .bool false, .string ⟨#[]⟩, .string ⟨#[]⟩, .int .i64 0, .int .i64 0, .int .i64 0, .int .i64 0, .string ⟨#[]⟩, .int .i64 0, .int .i64 0, .int .i64 0, .int .i64 0, .int .i64 0, .int .i64 0, .int .i64 0, .int .i64 0, .int .i64 0, .int .i64 0, .int .i64 0, .bool false, .bool false, .bool false, .slice none 0 0, .string ⟨#[]⟩] 37)) w.heap.size PZ := At.box w #[.int .i64 0, .int .i64 0, .int .i64 0, .int .i64 0, .string ⟨#[]⟩, .int .i64 0, .int .i64 0, .int .i64 0, .int .i64 0, .int .i64 0, .int .i64 0, .int .i64 0, .int .i64 0, .int .i64 0, .int .i64 0, .int .i64 0, .bool false, .bool false, .string ⟨#[]⟩, .string ⟨#[]⟩, .int .i64 0, .int .i64 0, .int .i64 0, .int .i64 0, .string ⟨#[]⟩, .int .i64 0, .int .i64 0, .int .i64 0, .int .i64 0, .int .i64 0, .int .i64 0, .int .i64 0, .int .i64 0, .int .i64 0, .int .i64 0, .int .i64 0, .bool false, .bool false, .bool false, .slice none 0 0, .string ⟨#[]⟩] 37
  have hl := bel1 w (.cells #[.int .i64 0, .int .i64 0, .int .i64 0, .int .i64 0, .string ⟨#[]⟩, .int .i64 0, .int .i64 0, .int .i64 0, .int .i64 0, .int .i64 0, .int .i64 0, .int .i64 0, .int .i64 0, .int .i64 0, .int .i64 0, .int .i64 0, .bool false, .bool false, .string ⟨#[]⟩, .string ⟨#[]⟩, .int .i64 0, .int .i64 0, .int .i64 0, .int .i64 0, .string ⟨#[]⟩, .int .i64 0, .int .i64 0, .int .i64 0, .int .i64 0, .int .i64 0, .int .i64 0, .int .i64 0, .int .i64 0, .int .i64 0, .int .i64 0, .int .i64 0, .bool false, .bool false, .bool false, .slice none 0 0, .string ⟨#[]⟩] 37)
  have hz := buildZ
  go_enter Tryz.func5, Tryz.ntmps5
  go_upto_region 1 with fail
  generalize hw0 : w.alloc (.cells #[.int .i64 0, .int .i64 0, .int .i64 0, .int .i64 0, .string ⟨#[]⟩, .int .i64 0, .int .i64 0, .int .i64 0, .int .i64 0, .int .i64 0, .int .i64 0, .int .i64 0, .int .i64 0, .int .i64 0, .int .i64 0, .int .i64 0, .bool false, .bool false, .string ⟨#[]⟩, .string ⟨#[]⟩, .int .i64 0, .int .i64 0, .int .i64 0, .int .i64 0, .string ⟨#[]⟩, .int .i64 0, .int .i64 0, .int .i64 0, .int .i64 0, .int .i64 0, .int .i64 0, .int .i64 0, .int .i64 0, .int .i64 0, .int .i64 0, .int .i64 0, .bool false, .bool false, .bool false, .slice none 0 0, .string ⟨#[]⟩] 37) = w0 at *
  clear hw0
  go_wp2_with fail
  refine (HED.out _).mono ?_
  rintro e w3 ⟨rfl, hb⟩
  have hbx := bel1 w3 (.cells #[.int .i64 x.a, .int .i64 x.b, .int .i64 x.k, .string x.d] 24)
  have hF4 := At.box w3 #[.int .i64 x.a, .int .i64 x.b, .int .i64 x.k, .string x.d] 24
  replace hb := bt hb hbx
  replace hl := bt hl hb
  replace hR := hR.later hb
  clear hb HED
  go_upto_region 2 with fail
  obtain ⟨B4, hB4⟩ : ∃ B, B = w3.heap.size := ⟨_, rfl⟩
  rw [← hB4] at hF4 ⊢
  generalize w3.alloc (.cells #[.int .i64 x.a, .int .i64 x.b, .int .i64 x.k, .string x.d] 24) = w4 at *
  clear hbx hB4
  have hlt0 : w.heap.size < w4.heap.size := hR.1
  go_upto_region 4 with fail
  go_cut [6, 7] from 8 (fun q y W => ∃ (B6 p : Nat), q = .pointer (some ⟨B6, 0, none⟩) ∧ y = .iface 70 (.pointer (some ⟨p, 0, none⟩)) ∧ Below w.heap.size w W ∧ At W w.heap.size PZ ∧ At W p (FailV l a c) ∧ w.heap.size < p)
  case first =>
    go_wp2_with (refine wpList_loadG 24 _ (by rfl) (by rfl) B4 0 (by rfl) _ _ hF4.range Tryz.underlying24 rfl size23 ?_)
    refine (HCO.out _ (hG.later hl)).mono ?_
    rintro e w5 ⟨p, rfl, hp, hP, hb⟩
    replace hl := bt hl hb
    replace hR := hR.later hb
    replace hF4 := hF4.later hb
    clear hb HCO
    have hX0 : At (w5.alloc (.cells #[.int .i64 0, .int .i64 0, .int .i64 0, .int .i64 0, .string ⟨#[]⟩, .int .i64 0, .int .i64 0, .int .i64 0, .int .i64 0, .int .i64 0, .int .i64 0, .int .i64 0, .int .i64 0, .int .i64 0, .int .i64 0, .int .i64 0, .bool false, .bool false, .string ⟨#[]⟩, .string ⟨#[]⟩, .int .i64 0, .int .i64 0, .int .i64 0, .int .i64 0, .string ⟨#[]⟩, .int .i64 0, .int .i64 0, .int .i64 0, .int .i64 0, .int .i64 0, .int .i64 0, .int .i64 0, .int .i64 0, .int .i64 0, .int .i64 0, .int .i64 0, .bool false, .bool false, .bool false, .slice none 0 0, .string ⟨#[]⟩] 37)) w5.heap.size PZ := At.box w5 #[.int .i64 0, .int .i64 0, .int .i64 0, .int .i64 0, .string ⟨#[]⟩, .int .i64 0, .int .i64 0, .int .i64 0, .int .i64 0, .int .i64 0, .int .i64 0, .int .i64 0, .int .i64 0, .int .i64 0, .int .i64 0, .int .i64 0, .bool false, .bool false, .string ⟨#[]⟩, .string ⟨#[]⟩, .int .i64 0, .int .i64 0, .int .i64 0, .int .i64 0, .string ⟨#[]⟩, .int .i64 0, .int .i64 0, .int .i64 0, .int .i64 0, .int .i64 0, .int .i64 0, .int .i64 0, .int .i64 0, .int .i64 0, .int .i64 0, .int .i64 0, .bool false, .bool false, .bool false, .slice none 0 0, .string ⟨#[]⟩] 37
    have hbx : Below w5.heap.size w5 ((w5.alloc (.cells #[.int .i64 0, .int .i64 0, .int .i64 0, .int .i64 0, .string ⟨#[]⟩, .int .i64 0, .int .i64 0, .int .i64 0, .int .i64 0, .int .i64 0, .int .i64 0, .int .i64 0, .int .i64 0, .int .i64 0, .int .i64 0, .int .i64 0, .bool false, .bool false, .string ⟨#[]⟩, .string ⟨#[]⟩, .int .i64 0, .int .i64 0, .int .i64 0, .int .i64 0, .string ⟨#[]⟩, .int .i64 0, .int .i64 0, .int .i64 0, .int .i64 0, .int .i64 0, .int .i64 0, .int .i64 0, .int .i64 0, .int .i64 0, .int .i64 0, .int .i64 0, .bool false, .bool false, .bool false, .slice none 0 0, .string ⟨#[]⟩] 37)).setCells w5.heap.size 0 PZ.toList) := Below.setCells (Nat.le_refl _) _ _ _ (bel1 w5 (.cells #[.int .i64 0, .int .i64 0, .int .i64 0, .int .i64 0, .string ⟨#[]⟩, .int .i64 0, .int .i64 0, .int .i64 0, .int .i64 0, .int .i64 0, .int .i64 0, .int .i64 0, .int .i64 0, .int .i64 0, .int .i64 0, .int .i64 0, .bool false, .bool false, .string ⟨#[]⟩, .string ⟨#[]⟩, .int .i64 0, .int .i64 0, .int .i64 0, .int .i64 0, .string ⟨#[]⟩, .int .i64 0, .int .i64 0, .int .i64 0, .int .i64 0, .int .i64 0, .int .i64 0, .int .i64 0, .int .i64 0, .int .i64 0, .int .i64 0, .int .i64 0, .bool false, .bool false, .bool false, .slice none 0 0, .string ⟨#[]⟩] 37))
    have hX : At ((w5.alloc (.cells #[.int .i64 0, .int .i64 0, .int .i64 0, .int .i64 0, .string ⟨#[]⟩, .int .i64 0, .int .i64 0, .int .i64 0, .int .i64 0, .int .i64 0, .int .i64 0, .int .i64 0, .int .i64 0, .int .i64 0, .int .i64 0, .int .i64 0, .bool false, .bool false, .string ⟨#[]⟩, .string ⟨#[]⟩, .int .i64 0, .int .i64 0, .int .i64 0, .int .i64 0, .string ⟨#[]⟩, .int .i64 0, .int .i64 0, .int .i64 0, .int .i64 0, .int .i64 0, .int .i64 0, .int .i64 0, .int .i64 0, .int .i64 0, .int .i64 0, .int .i64 0, .bool false, .bool false, .bool false, .slice none 0 0, .string ⟨#[]⟩] 37)).setCells w5.heap.size 0 PZ.toList) w5.heap.size PZ := At.whole (vs := PZ) hX0 rfl
    go_wp2_with (refine wpList_store_mid (by rfl) 37 _ _ (by rfl) (w5.heap.size) 0 PZ (by rfl) (by rfl) hX0.there size36 PZ_one ?_)
    go_wp2
    go_meet
    case rel => exact ⟨w5.heap.size, p, rfl, rfl, bt hl hbx, hR.later hbx, hP.later hbx, Nat.lt_of_lt_of_le hlt0 hp⟩
  case rest =>
  clear hl hR HCO
  clear hF4
  obtain ⟨B6, p, rfl, rfl, hl, hR, hP, hlt⟩ := hcut
  go_wp2_with (refine wpList_store_mid (by rfl) 37 _ _ (by rfl) (w.heap.size) 0 (PZ) (by rfl) (by rfl) hR.there size36 PZ_one ?_)
  go_wp2
  exact bodyPost_ret (v := .tuple #[.agg PZ, .iface 70 (.pointer (some ⟨p, 0, none⟩))]) (ret_cell41 (by rfl) (At.whole (vs := PZ) hR rfl) rfl (by rfl) (by rfl)) (by rfl) ⟨p, rfl, Nat.le_of_lt hlt, At.apart hP (Nat.ne_of_lt hlt) _ _, Below.setCells (Nat.le_refl _) _ _ _ hl⟩
set_option maxHeartbeats 8000000 in
theorem par_3 (st : ByteArray) (x : FrT) (z z' : Pd) (w : World)
    (hz' : Hid (z' = ({ z with fr := x } : Pd)))
    (hsg : Hid (z'.sg = z.sg))
    (hG : OrE w)
    (HED : Hid (∀ W, Calls Tryz.prog 11 #[.string st] W fun e w' => e = .returned (.tuple #[.agg #[.int .i64 x.a, .int .i64 x.b, .int .i64 x.k, .string x.d], .int .i64 0]) ∧ Below W.heap.size W w'))
    (HCO : Hid (∀ W, OrE W → Calls Tryz.prog 13 #[.agg #[.int .i64 x.a, .int .i64 x.b, .int .i64 x.k, .string x.d]] W fun e w' => ∃ v, e = .returned (.tuple #[.agg (z.v v), .nilIface]) ∧ RgA W.heap.size w' v z.sg.o.rs ∧ Below W.heap.size W w')) :
    Calls Tryz.prog 5 #[.string st] w fun e w' => ∃ v, e = .returned (.tuple #[.agg (Pd.v (z') v), .nilIface]) ∧ RgA w.heap.size w' v (z').sg.o.rs ∧ Below w.heap.size w w' := by
  have hR : At (w.alloc (.cells #[.int .i64 0, .int .i64 0, .int .i64 0, .int .i64 0, .string ⟨#[]⟩, .int .i64 0, .int .i64 0, .int .i64 0, .int .i64 0, .int .i64 0, .int .i64 0, .int .i64 0, .int .i64 0, .int .i64 0, .int .i64 0, .int .i64 0, .bool false, .bool false, .string ⟨#[]⟩, .string ⟨#[]⟩, .int .i64 0, .int .i64 0, .int .i64 0, .int .i64 0, .string ⟨#[]⟩, .int .i64 0, .int .i64 0, .int .i64 0, .int .i64 0, .int .i64 0, .int .i64 0, .int .i64 0, .int .i64 0, .int .i64 0, .int .i64 0, .int .i64 0, .bool false, .bool false, .bool false, .slice none 0 0, .string ⟨#[]⟩] 37)) w.heap.size PZ := At.box w #[.int .i64 0, .int .i64 0, .int .i64 0, .int .i64 0, .string ⟨#[]⟩, .int .i64 0, .int .i64 0, .int .i64 0, .int .i64 0, .int .i64 0, .int .i64 0, .int .i64 0, .int .i64 0, .int .i64 0, .int .i64 0, .int .i64 0, .bool false, .bool false, .string ⟨#[]⟩, .string ⟨#[]⟩, .int .i64 0, .int .i64 0, .int .i64 0, .int .i64 0, .string ⟨#[]⟩, .int .i64 0, .int .i64 0, .int .i64 0, .int .i64 0, .int .i64 0, .int .i64 0, .int .i64 0, .int .i64 0, .int .i64 0, .int .i64 0, .int .i64 0, .bool false, .bool false, .bool false, .slice none 0 0, .string ⟨#[]⟩] 37
  have hl := bel1 w (.cells #[.int .i64 0, .int .i64 0, .int .i64 0, .int .i64 0, .string ⟨#[]⟩, .int .i64 0, .int .i64 0, .int .i64 0, .int .i64 0, .int .i64 0, .int .i64 0, .int .i64 0, .int .i64 0, .int .i64 0, .int .i64 0, .int .i64 0, .bool false, .bool false, .string ⟨#[]⟩, .string ⟨#[]⟩, .int .i64 0, .int .i64 0, .int .i64 0, .int .i64 0, .string ⟨#[]⟩, .int .i64 0, .int .i64 0, .int .i64 0, .int .i64 0, .int .i64 0, .int .i64 0, .int .i64 0, .int .i64 0, .int .i64 0, .int .i64 0, .int .i64 0, .bool false, .bool false, .bool false, .slice none 0 0, .string ⟨#[]⟩] 37)
  have hz := buildZ
  go_enter Tryz.func5, Tryz.ntmps5
  go_upto_region 1 with fail
  generalize hw0 : w.alloc (.cells #[.int .i64 0, .int .i64 0, .int .i64 0, .int .i64 0, .string ⟨#[]⟩, .int .i64 0, .int .i64 0, .int .i64 0, .int .i64 0, .int .i64 0, .int .i64 0, .int .i64 0, .int .i64 0, .int .i64 0, .int .i64 0, .int .i64 0, .bool false, .bool false, .string ⟨#[]⟩, .string ⟨#[]⟩, .int .i64 0, .int .i64 0, .int .i64 0, .int .i64 0, .string ⟨#[]⟩, .int .i64 0, .int .i64 0, .int .i64 0, .int .i64 0, .int .i64 0, .int .i64 0, .int .i64 0, .int .i64 0, .int .i64 0, .int .i64 0, .int .i64 0, .bool false, .bool false, .bool false, .slice none 0 0, .string ⟨#[]⟩] 37) = w0 at *
  clear hw0
  go_wp2_with fail
  refine (HED.out _).mono ?_
  rintro e w3 ⟨rfl, hb⟩
  have hbx := bel1 w3 (.cells #[.int .i64 x.a, .int .i64 x.b, .int .i64 x.k, .string x.d] 24)
  have hF4 := At.box w3 #[.int .i64 x.a, .int .i64 x.b, .int .i64 x.k, .string x.d] 24
  replace hb := bt hb hbx
  replace hl := bt hl hb
  replace hR := hR.later hb
  clear hb HED
  go_upto_region 2 with fail
  obtain ⟨B4, hB4⟩ : ∃ B, B = w3.heap.size := ⟨_, rfl⟩
  rw [← hB4] at hF4 ⊢
  generalize w3.alloc (.cells #[.int .i64 x.a, .int .i64 x.b, .int .i64 x.k, .string x.d] 24) = w4 at *
  clear hbx hB4
  have hlt0 : w.heap.size < w4.heap.size := hR.1
  go_upto_region 4 with fail
  go_cut [6, 7] from 8 (fun q y W => ∃ (w5 : World) (a0 : Option Addr) (cap0 : Nat), q = .pointer (some ⟨w5.heap.size, 0, none⟩) ∧ y = .nilIface ∧ Below w.heap.size w w5 ∧ At w5 w.heap.size PZ ∧ At w5 B4 #[.int .i64 x.a, .int .i64 x.b, .int .i64 x.k, .string x.d] ∧ RgA w4.heap.size w5 (.slice a0 z.sg.o.rs.length cap0) z.sg.o.rs ∧ Below w5.heap.size w5 W ∧ At W w5.heap.size (z.v (.slice a0 z.sg.o.rs.length cap0)))
  case first =>
    go_wp2_with (refine wpList_loadG 24 _ (by rfl) (by rfl) B4 0 (by rfl) _ _ hF4.range Tryz.underlying24 rfl size23 ?_)
    refine (HCO.out _ (hG.later hl)).mono ?_
    rintro e w5 ⟨v, rfl, hvr, hb⟩
    obtain ⟨a0, cap0, hve, -⟩ := id hvr
    subst hve
    replace hl := bt hl hb
    replace hR := hR.later hb
    replace hF4 := hF4.later hb
    clear hb HCO
    have hX0 : At (w5.alloc (.cells #[.int .i64 0, .int .i64 0, .int .i64 0, .int .i64 0, .string ⟨#[]⟩, .int .i64 0, .int .i64 0, .int .i64 0, .int .i64 0, .int .i64 0, .int .i64 0, .int .i64 0, .int .i64 0, .int .i64 0, .int .i64 0, .int .i64 0, .bool false, .bool false, .string ⟨#[]⟩, .string ⟨#[]⟩, .int .i64 0, .int .i64 0, .int .i64 0, .int .i64 0, .string ⟨#[]⟩, .int .i64 0, .int .i64 0, .int .i64 0, .int .i64 0, .int .i64 0, .int .i64 0, .int .i64 0, .int .i64 0, .int .i64 0, .int .i64 0, .int .i64 0, .bool false, .bool false, .bool false, .slice none 0 0, .string ⟨#[]⟩] 37)) w5.heap.size PZ := At.box w5 #[.int .i64 0, .int .i64 0, .int .i64 0, .int .i64 0, .string ⟨#[]⟩, .int .i64 0, .int .i64 0, .int .i64 0, .int .i64 0, .int .i64 0, .int .i64 0, .int .i64 0, .int .i64 0, .int .i64 0, .int .i64 0, .int .i64 0, .bool false, .bool false, .string ⟨#[]⟩, .string ⟨#[]⟩, .int .i64 0, .int .i64 0, .int .i64 0, .int .i64 0, .string ⟨#[]⟩, .int .i64 0, .int .i64 0, .int .i64 0, .int .i64 0, .int .i64 0, .int .i64 0, .int .i64 0, .int .i64 0, .int .i64 0, .int .i64 0, .int .i64 0, .bool false, .bool false, .bool false, .slice none 0 0, .string ⟨#[]⟩] 37
    have hbx : Below w5.heap.size w5 ((w5.alloc (.cells #[.int .i64 0, .int .i64 0, .int .i64 0, .int .i64 0, .string ⟨#[]⟩, .int .i64 0, .int .i64 0, .int .i64 0, .int .i64 0, .int .i64 0, .int .i64 0, .int .i64 0, .int .i64 0, .int .i64 0, .int .i64 0, .int .i64 0, .bool false, .bool false, .string ⟨#[]⟩, .string ⟨#[]⟩, .int .i64 0, .int .i64 0, .int .i64 0, .int .i64 0, .string ⟨#[]⟩, .int .i64 0, .int .i64 0, .int .i64 0, .int .i64 0, .int .i64 0, .int .i64 0, .int .i64 0, .int .i64 0, .int .i64 0, .int .i64 0, .int .i64 0, .bool false, .bool false, .bool false, .slice none 0 0, .string ⟨#[]⟩] 37)).setCells w5.heap.size 0 (z.v (.slice a0 z.sg.o.rs.length cap0)).toList) := Below.setCells (Nat.le_refl _) _ _ _ (bel1 w5 (.cells #[.int .i64 0, .int .i64 0, .int .i64 0, .int .i64 0, .string ⟨#[]⟩, .int .i64 0, .int .i64 0, .int .i64 0, .int .i64 0, .int .i64 0, .int .i64 0, .int .i64 0, .int .i64 0, .int .i64 0, .int .i64 0, .int .i64 0, .bool false, .bool false, .string ⟨#[]⟩, .string ⟨#[]⟩, .int .i64 0, .int .i64 0, .int .i64 0, .int .i64 0, .string ⟨#[]⟩, .int .i64 0, .int .i64 0, .int .i64 0, .int .i64 0, .int .i64 0, .int .i64 0, .int .i64 0, .int .i64 0, .int .i64 0, .int .i64 0, .int .i64 0, .bool false, .bool false, .bool false, .slice none 0 0, .string ⟨#[]⟩] 37))
    have hX : At ((w5.alloc (.cells #[.int .i64 0, .int .i64 0, .int .i64 0, .int .i64 0, .string ⟨#[]⟩, .int .i64 0, .int .i64 0, .int .i64 0, .int .i64 0, .int .i64 0, .int .i64 0, .int .i64 0, .int .i64 0, .int .i64 0, .int .i64 0, .int .i64 0, .bool false, .bool false, .string ⟨#[]⟩, .string ⟨#[]⟩, .int .i64 0, .int .i64 0, .int .i64 0, .int .i64 0, .string ⟨#[]⟩, .int .i64 0, .int .i64 0, .int .i64 0, .int .i64 0, .int .i64 0, .int .i64 0, .int .i64 0, .int .i64 0, .int .i64 0, .int .i64 0, .int .i64 0, .bool false, .bool false, .bool false, .slice none 0 0, .string ⟨#[]⟩] 37)).setCells w5.heap.size 0 (z.v (.slice a0 z.sg.o.rs.length cap0)).toList) w5.heap.size (z.v (.slice a0 z.sg.o.rs.length cap0)) := At.whole (vs := (z.v (.slice a0 z.sg.o.rs.length cap0))) hX0 rfl
    go_wp2_with (refine wpList_store_mid (by rfl) 37 _ _ (by rfl) (w5.heap.size) 0 (z.v (.slice a0 z.sg.o.rs.length cap0)) (by rfl) (by rfl) hX0.there size36 (Pd.one _ rfl) ?_)
    go_wp2
    go_meet
    case rel => exact ⟨w5, a0, cap0, rfl, rfl, hl, hR, hF4, hvr, hbx, hX⟩
  case rest =>
  clear hl hR HCO
  clear hF4
  obtain ⟨w5, a0, cap0, rfl, rfl, hl5, hR5, hF5, hv5, hb5, hX⟩ := hcut
  have hF6 := hF5.later hb5
  have hb6 : Below w5.heap.size w5 (wc.setCells w5.heap.size 1 [.int .i64 x.a, .int .i64 x.b, .int .i64 x.k, .string x.d]) := Below.setCells (Nat.le_refl _) _ _ _ hb5
  have hX2 := hX.setFr x
  rw [← hz'.out] at hX2
  rw [← hsg.out] at hX2 hX hv5
  have hR6 := hR5.later hb6
  have hv6 := hv5.later hb6
  have hl6 := bt hl5 hb6
  clear hF5 hv5 hR5 hz
  go_upto_region 7 with fail
  go_upto_region 8 with (first | (refine wpList_loadG 24 _ (by rfl) (by rfl) B4 0 (by rfl) _ _ hF6.range Tryz.underlying24 rfl size23 ?_) | (refine wpList_store_mid (by rfl) 24 _ _ (by rfl) w5.heap.size 1 #[.int .i64 x.a, .int .i64 x.b, .int .i64 x.k, .string x.d] (by rfl) (by rfl) hX.mid4 size23 (by simp [Value.oneCell']) ?_))
  generalize wc.setCells w5.heap.size 1 [.int .i64 x.a, .int .i64 x.b, .int .i64 x.k, .string x.d] = w7 at *
  clear hX hF6 hb5
  go_wp2_with (first | (refine wpList_loadG 37 _ (by rfl) (by rfl) w5.heap.size 0 (by rfl) _ _ hX2.range Tryz.underlying37 rfl size36 ?_) | (refine wpList_store_mid (by rfl) 37 _ _ (by rfl) (w.heap.size) 0 (z'.v (.slice a0 z'.sg.o.rs.length cap0)) (by rfl) (by rfl) hR6.there size36 (Pd.one _ rfl) ?_))
  go_wp2
  exact bodyPost_ret (v := .tuple #[.agg (z'.v (.slice a0 z'.sg.o.rs.length cap0)), .nilIface]) (ret_cell41 (by rfl) (At.whole (vs := z'.v (.slice a0 z'.sg.o.rs.length cap0)) hR6 rfl) rfl (by rfl) (by rfl)) (by rfl) ⟨_, rfl, (hv6.setCells _ _ _ hlt0).mono (by omega), Below.setCells (Nat.le_refl _) _ _ _ hl6⟩
end Go.Proofs.YtkpdmgoldngdaabGreatDoor
