/- the texts Va, Vb, Vc, Vg, Vi, Vj, Fr, in part, merged by program -/
import Derived.Test.YtkpdmgoldngdaaaGreatDoorProg
import Derived.Test.YtkpdmgoldngdaaaGreatDoorRows
import Derived.Deep.MidRow
import Derived.Deep.Cut
import Derived.WalkKit
import Derived.WalkSpells
import Derived.RegionTactic
import Derived.Below
import Derived.Laws.Tables
import Derived.Great.BuildSlice
import Derived.Laws.OwnMore
import Derived.Laws.AppendOwn
import Derived.Laws.AppendOwnNone
import Derived.Deep.LoopGhost
import Derived.Deep.RegionHeld3
import Derived.Deep.QuietTactic
import Derived.BigQuiet
import Derived.WalkSmall
import Derived.Laws.StructEq
import Derived.Shelf.Strings.Repeat
import Derived.Deep.RegionWith
import Derived.LoopN
import Derived.BigRegion
import Derived.Deep.Light
import Derived.Deep.CutRange
import Derived.ProofKit
import Derived.OpenShut
import Derived.ShutString
import Derived.ChangeOld
import Derived.Carry
import Derived.SizedLaws
import Derived.Deep.Fields
import Derived.Deep.SlicePairs
import Derived.LaidMore
import Derived.Lib.LaidTab
import Derived.LaidLaws
import Derived.LaidHandle
import Derived.Test.YtkpdmgoldngdaaaGreatDoorMA01
import Derived.Test.YtkpdmgoldngdaaaGreatDoorMA02
import Derived.Test.YtkpdmgoldngdaaaGreatDoorMA03
import Derived.Test.YtkpdmgoldngdaaaGreatDoorMA04
import Derived.Test.YtkpdmgoldngdaaaGreatDoorMA05
import Derived.Test.YtkpdmgoldngdaaaGreatDoorMA06
namespace Go.Proofs.YtkpdmgoldngdaaaGreatDoor
open Go.RowKit
set_option maxRecDepth 100000
set_option linter.unusedVariables false

structure FrT where
  a : Int
  b : Int
  k : Int
  d : ByteArray
structure ArT where
  o : Int
  fm : Int
  fi : Int
  tm : Int
  ti : Int
structure PkT where
  f : Int
  t : Int
  tl : Int
  pr : Int
  id : Int
  fg : Int
  mo : Bool
  dn : Bool
  op : ByteArray
  da : ByteArray
structure IcT where
  ty : Int
  co : Int
  x : Int
  y : Int
  da : ByteArray
def FrT.zero : FrT := ⟨0, 0, 0, ⟨#[]⟩⟩
def ArT.zero : ArT := ⟨0, 0, 0, 0, 0⟩
def PkT.zero : PkT := ⟨0, 0, 0, 0, 0, 0, false, false, ⟨#[]⟩, ⟨#[]⟩⟩
def IcT.zero : IcT := ⟨0, 0, 0, 0, ⟨#[]⟩⟩
def Sg.zero : Sg := ⟨0, 0, 0, 0, 0, 0, 0, Op.zero, ⟨#[]⟩⟩
structure Pd where
  k : Int
  fr : FrT
  ar : ArT
  pk : PkT
  ic : IcT
  sg : Sg
def Pd.zero : Pd := ⟨0, FrT.zero, ArT.zero, PkT.zero, IcT.zero, Sg.zero⟩
def Pd.v (x : Pd) (v : Value) : Array Value := #[.int .i64 x.k, .int .i64 x.fr.a, .int .i64 x.fr.b, .int .i64 x.fr.k, .string x.fr.d, .int .i64 x.ar.o, .int .i64 x.ar.fm, .int .i64 x.ar.fi, .int .i64 x.ar.tm, .int .i64 x.ar.ti, .int .i64 x.pk.f, .int .i64 x.pk.t, .int .i64 x.pk.tl, .int .i64 x.pk.pr, .int .i64 x.pk.id, .int .i64 x.pk.fg, .bool x.pk.mo, .bool x.pk.dn, .string x.pk.op, .string x.pk.da, .int .i64 x.ic.ty, .int .i64 x.ic.co, .int .i64 x.ic.x, .int .i64 x.ic.y, .string x.ic.da, .int .i64 x.sg.fr, .int .i64 x.sg.dt, .int .i64 x.sg.sq, .int .i64 x.sg.ak, .int .i64 x.sg.fl, .int .i64 x.sg.wi, .int .i64 x.sg.ur, .int .i64 x.sg.o.m, .int .i64 x.sg.o.c, .int .i64 x.sg.o.t, .int .i64 x.sg.o.ec, .bool x.sg.o.sd, .bool x.sg.o.ok, .bool x.sg.o.sp, v, .string x.sg.da]
def PZ : Array Value := #[.int .i64 0, .int .i64 0, .int .i64 0, .int .i64 0, .string ⟨#[]⟩, .int .i64 0, .int .i64 0, .int .i64 0, .int .i64 0, .int .i64 0, .int .i64 0, .int .i64 0, .int .i64 0, .int .i64 0, .int .i64 0, .int .i64 0, .bool false, .bool false, .string ⟨#[]⟩, .string ⟨#[]⟩, .int .i64 0, .int .i64 0, .int .i64 0, .int .i64 0, .string ⟨#[]⟩, .int .i64 0, .int .i64 0, .int .i64 0, .int .i64 0, .int .i64 0, .int .i64 0, .int .i64 0, .int .i64 0, .int .i64 0, .int .i64 0, .int .i64 0, .bool false, .bool false, .bool false, .slice none 0 0, .string ⟨#[]⟩]
theorem Pd.one (x : Pd) {v : Value} (h : v.oneCell' = true) : (x.v v).all (·.oneCell') = true := by
  unfold Pd.v
  simp only [List.all_toArray, List.all_cons, List.all_nil, Bool.and_true, h]
  rfl
theorem PZ_one : PZ.all (·.oneCell') = true := Pd.one Pd.zero (v := .slice none 0 0) rfl
theorem size36 : (Tryz.prog.info? 36).map (·.size) = some 41 := by kernel_rfl
theorem ret_cell41 {fn : Func} {i j : Nat} (hres : fn.results = #[.cell i 36, .tmp j]) {tmps : Array Value} {W : World} {b : Nat} {vs : Array Value} {x : Value} (hA : At W b vs) (hs : vs.size = 41) (hi : tmps.getD i undef = .pointer (some ⟨b, 0, none⟩)) (hj : tmps.getD j undef = x) : (results fn tmps).run Tryz.prog W = .ok (.tuple #[.agg vs, x]) W := by
  have hl := run_loadVar_mid (P := Tryz.prog) W b 0 36 vs.toList _ hA.range Tryz.underlying36 rfl (by rw [show vs.toList.length = 41 by simpa using hs]; exact size36)
  rw [Array.getD_eq_getD_getElem?] at hi hj
  unfold results
  rw [hres]
  simp [hi, hj, asAddr, hl]
theorem buildZ (W : World) : (Instr.build 36 #[]).run Tryz.prog W = .ok (.agg PZ) W := run_build W 36 #[] _ (by kernel_rfl)
def FailV (l : ByteArray) (a c : Int) : Array Value := #[.string l, .int .i64 a, .iface 41 (.int .i64 c)]
def failE (p : Nat) : Value := .iface 88 (.pointer (some ⟨p, 0, none⟩))
set_option maxHeartbeats 4000000 in
theorem refuse_s (l : ByteArray) (a c : Int) (w : World) :
    Calls Tryz.prog 27 #[.string l, .int .i64 a, .int .i64 c] w fun e w' => ∃ p, e = .returned (.tuple #[.agg PZ, failE p]) ∧ w.heap.size ≤ p ∧ At w' p (FailV l a c) ∧ Below w.heap.size w w' := by
  have hR : At (w.alloc (.cells #[.int .i64 0, .int .i64 0, .int .i64 0, .int .i64 0, .string ⟨#[]⟩, .int .i64 0, .int .i64 0, .int .i64 0, .int .i64 0, .int .i64 0, .int .i64 0, .int .i64 0, .int .i64 0, .int .i64 0, .int .i64 0, .int .i64 0, .bool false, .bool false, .string ⟨#[]⟩, .string ⟨#[]⟩, .int .i64 0, .int .i64 0, .int .i64 0, .int .i64 0, .string ⟨#[]⟩, .int .i64 0, .int .i64 0, .int .i64 0, .int .i64 0, .int .i64 0, .int .i64 0, .int .i64 0, .int .i64 0, .int .i64 0, .int .i64 0, .int .i64 0, .bool false, .bool false, .bool false, .slice none 0 0, .string ⟨#[]⟩] 36)) w.heap.size PZ := At.box w #[.int .i64 0, .int .i64 0, .int .i64 0, .int .i64 0, .string ⟨#[]⟩, .int .i64 0, .int .i64 0, .int .i64 0, .int .i64 0, .int .i64 0, .int .i64 0, .int .i64 0, .int .i64 0, .int .i64 0, .int .i64 0, .int .i64 0, .bool false, .bool false, .string ⟨#[]⟩, .string ⟨#[]⟩, .int .i64 0, .int .i64 0, .int .i64 0, .int .i64 0, .string ⟨#[]⟩, .int .i64 0, .int .i64 0, .int .i64 0, .int .i64 0, .int .i64 0, .int .i64 0, .int .i64 0, .int .i64 0, .int .i64 0, .int .i64 0, .int .i64 0, .bool false, .bool false, .bool false, .slice none 0 0, .string ⟨#[]⟩] 36
  have hl := bel1 w (.cells #[.int .i64 0, .int .i64 0, .int .i64 0, .int .i64 0, .string ⟨#[]⟩, .int .i64 0, .int .i64 0, .int .i64 0, .int .i64 0, .int .i64 0, .int .i64 0, .int .i64 0, .int .i64 0, .int .i64 0, .int .i64 0, .int .i64 0, .bool false, .bool false, .string ⟨#[]⟩, .string ⟨#[]⟩, .int .i64 0, .int .i64 0, .int .i64 0, .int .i64 0, .string ⟨#[]⟩, .int .i64 0, .int .i64 0, .int .i64 0, .int .i64 0, .int .i64 0, .int .i64 0, .int .i64 0, .int .i64 0, .int .i64 0, .int .i64 0, .int .i64 0, .bool false, .bool false, .bool false, .slice none 0 0, .string ⟨#[]⟩] 36)
  go_enter Tryz.func27, Tryz.ntmps27
  go_upto_region 1 with fail
  generalize hw0 : w.alloc (.cells #[.int .i64 0, .int .i64 0, .int .i64 0, .int .i64 0, .string ⟨#[]⟩, .int .i64 0, .int .i64 0, .int .i64 0, .int .i64 0, .int .i64 0, .int .i64 0, .int .i64 0, .int .i64 0, .int .i64 0, .int .i64 0, .int .i64 0, .bool false, .bool false, .string ⟨#[]⟩, .string ⟨#[]⟩, .int .i64 0, .int .i64 0, .int .i64 0, .int .i64 0, .string ⟨#[]⟩, .int .i64 0, .int .i64 0, .int .i64 0, .int .i64 0, .int .i64 0, .int .i64 0, .int .i64 0, .int .i64 0, .int .i64 0, .int .i64 0, .int .i64 0, .bool false, .bool false, .bool false, .slice none 0 0, .string ⟨#[]⟩] 36) = w0 at *
  clear hw0
  have hz := buildZ
  have hb3 : ∀ W, (Instr.build 92 #[(0, .string l), (1, .int .i64 a), (2, .iface 41 (.int .i64 c))]).run Tryz.prog W = .ok (.agg #[.string l, .int .i64 a, .iface 41 (.int .i64 c)]) W := fun W => run_build W 92 _ _ (by kernel_rfl)
  have hbx := bel1 w0 (.cells #[.string l, .int .i64 a, .iface 41 (.int .i64 c)] 92)
  have hP := At.box w0 #[.string l, .int .i64 a, .iface 41 (.int .i64 c)] 92
  have hR2 := hR.later hbx
  go_wp2_with (refine wpList_store_mid (by rfl) 36 _ _ (by rfl) (w.heap.size) 0 PZ (by rfl) (by rfl) hR2.there size36 PZ_one ?_)
  go_wp2
  exact bodyPost_ret (v := .tuple #[.agg PZ, failE w0.heap.size]) (ret_cell41 (by rfl) (At.whole (vs := PZ) hR2 rfl) rfl (by rfl) (by rfl)) (by rfl) ⟨w0.heap.size, rfl, hl.size, At.apart hP (Nat.ne_of_lt hR.1) _ _, Below.setCells (Nat.le_refl _) _ _ _ (bt hl hbx)⟩
end Go.Proofs.YtkpdmgoldngdaaaGreatDoor

namespace Go.Proofs.YtkpdmgoldngdaaaGreatDoor
open Go.RowKit
set_option maxRecDepth 100000
set_option linter.unusedVariables false

theorem size27 : (Tryz.prog.info? 27).map (·.size) = some 10 := by kernel_rfl
def InnP (r : Except (ByteArray × Int × Int) Pd) (w : World) (e : Ending) (w' : World) : Prop := match r with
  | .error q => ∃ p, e = .returned (.tuple #[.agg PZ, .iface 88 (.pointer (some ⟨p, 0, none⟩))]) ∧ w.heap.size ≤ p ∧ At w' p (FailV q.1 q.2.1 q.2.2) ∧ Below w.heap.size w w'
  | .ok y => ∃ v, e = .returned (.tuple #[.agg (y.v v), .nilIface]) ∧ RgA w.heap.size w' v y.sg.o.rs ∧ Below w.heap.size w w'
end Go.Proofs.YtkpdmgoldngdaaaGreatDoor

namespace Go.Proofs.YtkpdmgoldngdaaaGreatDoor
open Go.RowKit
set_option maxRecDepth 100000
set_option linter.unusedVariables false

theorem size23 : (Tryz.prog.info? 23).map (·.size) = some 4 := by kernel_rfl
def ShNil : Prop := ∀ (by' : Int) (W : World), Calls Tryz.prog 16 #[.nilIface, .int .i64 by'] W fun e w' => e = .returned .nilIface ∧ Below W.heap.size W w'
def ShFail (by' : Int) : Prop := ∀ (W : World) (p : Nat) (l : ByteArray) (a c : Int), OrE W → 0 ≤ a → a ≤ 140737488365328 → At W p (FailV l a c) → Calls Tryz.prog 16 #[.iface 88 (.pointer (some ⟨p, 0, none⟩)), .int .i64 by'] W fun e w' => ∃ q, e = .returned (.iface 88 (.pointer (some ⟨q, 0, none⟩))) ∧ W.heap.size ≤ q ∧ At w' q (FailV l (a + by') c) ∧ Below W.heap.size W w'
set_option maxHeartbeats 8000000 in
theorem par_1 (st : ByteArray) (x : FrT) (c : Int) (w : World)
    (HED : Hid (∀ W, Calls Tryz.prog 26 #[.string st] W fun e w' => e = .returned (.tuple #[.agg #[.int .i64 x.a, .int .i64 x.b, .int .i64 x.k, .string x.d], .int .i64 c]) ∧ Below W.heap.size W w'))
    (hc : (c != 0) = true) :
    Calls Tryz.prog 9 #[.string st] w fun e w' => ∃ p, e = .returned (.tuple #[.agg PZ, .iface 88 (.pointer (some ⟨p, 0, none⟩))]) ∧ w.heap.size ≤ p ∧ At w' p (FailV ⟨#[101, 116, 104, 101, 114]⟩ (0) (c)) ∧ Below w.heap.size w w' := by
  have hR : At (w.alloc (.cells #[.int .i64 0, .int .i64 0, .int .i64 0, .int .i64 0, .string ⟨#[]⟩, .int .i64 0, .int .i64 0, .int .i64 0, .int .i64 0, .int .i64 0, .int .i64 0, .int .i64 0, .int .i64 0, .int .i64 0, .int .i64 0, .int .i64 0, .bool false, .bool false, .string ⟨#[]⟩, .string ⟨#[]⟩, .int .i64 0, .int .i64 0, .int .i64 0, .int .i64 0, .string ⟨#[]⟩, .int .i64 0, .int .i64 0, .int .i64 0, .int .i64 0, .int .i64 0, .int .i64 0, .int .i64 0, .int .i64 0, .int .i64 0, .int .i64 0, .int .i64 0, .bool false, .bool false, .bool false, .slice none 0 0, .string ⟨#[]⟩] 36)) w.heap.size PZ := At.box w #[.int .i64 0, .int .i64 0, .int .i64 0, .int .i64 0, .string ⟨#[]⟩, .int .i64 0, .int .i64 0, .int .i64 0, .int .i64 0, .int .i64 0, .int .i64 0, .int .i64 0, .int .i64 0, .int .i64 0, .int .i64 0, .int .i64 0, .bool false, .bool false, .string ⟨#[]⟩, .string ⟨#[]⟩, .int .i64 0, .int .i64 0, .int .i64 0, .int .i64 0, .string ⟨#[]⟩, .int .i64 0, .int .i64 0, .int .i64 0, .int .i64 0, .int .i64 0, .int .i64 0, .int .i64 0, .int .i64 0, .int .i64 0, .int .i64 0, .int .i64 0, .bool false, .bool false, .bool false, .slice none 0 0, .string ⟨#[]⟩] 36
  have hl := bel1 w (.cells #[.int .i64 0, .int .i64 0, .int .i64 0, .int .i64 0, .string ⟨#[]⟩, .int .i64 0, .int .i64 0, .int .i64 0, .int .i64 0, .int .i64 0, .int .i64 0, .int .i64 0, .int .i64 0, .int .i64 0, .int .i64 0, .int .i64 0, .bool false, .bool false, .string ⟨#[]⟩, .string ⟨#[]⟩, .int .i64 0, .int .i64 0, .int .i64 0, .int .i64 0, .string ⟨#[]⟩, .int .i64 0, .int .i64 0, .int .i64 0, .int .i64 0, .int .i64 0, .int .i64 0, .int .i64 0, .int .i64 0, .int .i64 0, .int .i64 0, .int .i64 0, .bool false, .bool false, .bool false, .slice none 0 0, .string ⟨#[]⟩] 36)
  have hz := buildZ
  go_enter Tryz.func9, Tryz.ntmps9
  go_upto_region 1 with fail
  generalize hw0 : w.alloc (.cells #[.int .i64 0, .int .i64 0, .int .i64 0, .int .i64 0, .string ⟨#[]⟩, .int .i64 0, .int .i64 0, .int .i64 0, .int .i64 0, .int .i64 0, .int .i64 0, .int .i64 0, .int .i64 0, .int .i64 0, .int .i64 0, .int .i64 0, .bool false, .bool false, .string ⟨#[]⟩, .string ⟨#[]⟩, .int .i64 0, .int .i64 0, .int .i64 0, .int .i64 0, .string ⟨#[]⟩, .int .i64 0, .int .i64 0, .int .i64 0, .int .i64 0, .int .i64 0, .int .i64 0, .int .i64 0, .int .i64 0, .int .i64 0, .int .i64 0, .int .i64 0, .bool false, .bool false, .bool false, .slice none 0 0, .string ⟨#[]⟩] 36) = w0 at *
  clear hw0
  go_wp2_with fail
  refine (HED.out _).mono ?_
  rintro e w3 ⟨rfl, hb⟩
  have hbx := bel1 w3 (.cells #[.int .i64 x.a, .int .i64 x.b, .int .i64 x.k, .string x.d] 23)
  have hF4 := At.box w3 #[.int .i64 x.a, .int .i64 x.b, .int .i64 x.k, .string x.d] 23
  replace hb := bt hb hbx
  replace hl := bt hl hb
  replace hR := hR.later hb
  clear hb HED
  go_upto_region 2 with fail
  obtain ⟨B4, hB4⟩ : ∃ B, B = w3.heap.size := ⟨_, rfl⟩
  rw [← hB4] at hF4 ⊢
  generalize w3.alloc (.cells #[.int .i64 x.a, .int .i64 x.b, .int .i64 x.k, .string x.d] 23) = w4 at *
  clear hbx hB4
  go_wp2_with fail
  refine (refuse_s _ _ _ _).mono ?_
  rintro e wr ⟨p, rfl, hp, hP, hb⟩
  have hlt := Nat.lt_of_lt_of_le hR.1 hp
  have hwp := Nat.le_trans hl.size hp
  replace hl := bt hl hb
  replace hR := hR.later hb
  clear hb
  go_wp2_with (refine wpList_store_mid (by rfl) 36 _ _ (by rfl) (w.heap.size) 0 (PZ) (by rfl) (by rfl) hR.there size36 PZ_one ?_)
  go_wp2
  exact bodyPost_ret (v := .tuple #[.agg PZ, .iface 88 (.pointer (some ⟨p, 0, none⟩))]) (ret_cell41 (by rfl) (At.whole (vs := PZ) hR rfl) rfl (by rfl) (by rfl)) (by rfl) ⟨p, rfl, hwp, At.apart hP (Nat.ne_of_lt hlt) _ _, Below.setCells (by omega) _ _ _ hl⟩
end Go.Proofs.YtkpdmgoldngdaaaGreatDoor

namespace Go.Proofs.YtkpdmgoldngdaaaGreatDoor
open Go.RowKit
set_option maxRecDepth 100000
set_option linter.unusedVariables false

def RInn (r : Except (ByteArray × Int × Int) Pd) (w : World) (e : Ending) (w' : World) : Prop := match r with
  | .error q => e = .returned (.tuple #[.agg PZ, .agg #[.int .i64 q.2.2, .string q.1, .int .i64 q.2.1]]) ∧ Below w.heap.size w w'
  | .ok y => ∃ v, e = .returned (.tuple #[.agg (y.v v), .agg #[.int .i64 0, .string ⟨#[]⟩, .int .i64 0]]) ∧ RgA w.heap.size w' v y.sg.o.rs ∧ Below w.heap.size w w'
def okR (r : Except (ByteArray × Int × Int) Pd) : Prop := match r with
  | .error q => 0 ≤ q.2.1 ∧ q.2.1 ≤ 140737488355362 ∧ (q.2.2 != 0) = true
  | .ok y => y.sg.o.rs.length ≤ 4
end Go.Proofs.YtkpdmgoldngdaaaGreatDoor

namespace Go.Proofs.YtkpdmgoldngdaaaGreatDoor
open Go.RowKit
set_option maxRecDepth 100000
set_option linter.unusedVariables false
def TF (ev : Value) (w : World) (l : ByteArray) (a c : Int) : Prop := ∀ W, Below w.heap.size w W → (Calls Tryz.prog 17 #[ev] W fun e w' => e = .returned (.tuple #[.string l, .int .i64 a, .bool true]) ∧ Below W.heap.size W w') ∧ (Calls Tryz.prog 18 #[ev] W fun e w' => e = .returned (.int .i64 c) ∧ Below W.heap.size W w') ∧ ∀ (d : Int), Calls Tryz.prog 33 #[ev, .int .i64 d] W fun e w' => e = .returned (.bool (c == d)) ∧ Below W.heap.size W w'
end Go.Proofs.YtkpdmgoldngdaaaGreatDoor

namespace Go.Proofs.YtkpdmgoldngdaaaGreatDoor
open Go.RowKit
set_option maxRecDepth 100000
set_option linter.unusedVariables false

def TA : Prop := ∀ (W : World) (p : Nat) (l : ByteArray) (a c : Int), OrE W → At W p (FailV l a c) → TF (.iface 88 (.pointer (some ⟨p, 0, none⟩))) W l a c
theorem par_empty (w : World) : Calls Tryz.prog 9 #[.string ⟨#[]⟩] w fun e w' => ∃ p, e = .returned (.tuple #[.agg PZ, .iface 88 (.pointer (some ⟨p, 0, none⟩))]) ∧ w.heap.size ≤ p ∧ At w' p (FailV ⟨#[101, 116, 104, 101, 114]⟩ 0 30) ∧ Below w.heap.size w w' :=
  par_1 ⟨#[]⟩ FrT.zero 30 w (fun W => Eth.dec_any ⟨#[]⟩ W (Nat.zero_le _)) rfl
set_option maxHeartbeats 4000000 in
theorem works_p (w : World) (hG : OrE w) (HT : Hid TA) : Calls Tryz.prog 13 #[] w fun e w' => e = .returned (.bool true) ∧ Below w.heap.size w w' := by
  go_enter Tryz.func13, Tryz.ntmps13
  go_upto_region 1 with fail
  go_cut [1, 2] from 6 (fun q y W => ∃ (B6 p : Nat), q = .pointer (some ⟨B6, 0, none⟩) ∧ y = .iface 88 (.pointer (some ⟨p, 0, none⟩)) ∧ Below w.heap.size w W ∧ At W p (FailV ⟨#[101, 116, 104, 101, 114]⟩ 0 30))
  case first =>
    go_wp2_with fail
    refine (par_empty _).mono ?_
    rintro e w5 ⟨p, rfl, hp, hP, hb⟩
    have hX0 : At (w5.alloc (.cells #[.int .i64 0, .int .i64 0, .int .i64 0, .int .i64 0, .string ⟨#[]⟩, .int .i64 0, .int .i64 0, .int .i64 0, .int .i64 0, .int .i64 0, .int .i64 0, .int .i64 0, .int .i64 0, .int .i64 0, .int .i64 0, .int .i64 0, .bool false, .bool false, .string ⟨#[]⟩, .string ⟨#[]⟩, .int .i64 0, .int .i64 0, .int .i64 0, .int .i64 0, .string ⟨#[]⟩, .int .i64 0, .int .i64 0, .int .i64 0, .int .i64 0, .int .i64 0, .int .i64 0, .int .i64 0, .int .i64 0, .int .i64 0, .int .i64 0, .int .i64 0, .bool false, .bool false, .bool false, .slice none 0 0, .string ⟨#[]⟩] 36)) w5.heap.size PZ := At.box w5 #[.int .i64 0, .int .i64 0, .int .i64 0, .int .i64 0, .string ⟨#[]⟩, .int .i64 0, .int .i64 0, .int .i64 0, .int .i64 0, .int .i64 0, .int .i64 0, .int .i64 0, .int .i64 0, .int .i64 0, .int .i64 0, .int .i64 0, .bool false, .bool false, .string ⟨#[]⟩, .string ⟨#[]⟩, .int .i64 0, .int .i64 0, .int .i64 0, .int .i64 0, .string ⟨#[]⟩, .int .i64 0, .int .i64 0, .int .i64 0, .int .i64 0, .int .i64 0, .int .i64 0, .int .i64 0, .int .i64 0, .int .i64 0, .int .i64 0, .int .i64 0, .bool false, .bool false, .bool false, .slice none 0 0, .string ⟨#[]⟩] 36
    have hbx : Below w5.heap.size w5 ((w5.alloc (.cells #[.int .i64 0, .int .i64 0, .int .i64 0, .int .i64 0, .string ⟨#[]⟩, .int .i64 0, .int .i64 0, .int .i64 0, .int .i64 0, .int .i64 0, .int .i64 0, .int .i64 0, .int .i64 0, .int .i64 0, .int .i64 0, .int .i64 0, .bool false, .bool false, .string ⟨#[]⟩, .string ⟨#[]⟩, .int .i64 0, .int .i64 0, .int .i64 0, .int .i64 0, .string ⟨#[]⟩, .int .i64 0, .int .i64 0, .int .i64 0, .int .i64 0, .int .i64 0, .int .i64 0, .int .i64 0, .int .i64 0, .int .i64 0, .int .i64 0, .int .i64 0, .bool false, .bool false, .bool false, .slice none 0 0, .string ⟨#[]⟩] 36)).setCells w5.heap.size 0 (PZ).toList) := Below.setCells (Nat.le_refl _) _ _ _ (bel1 w5 (.cells #[.int .i64 0, .int .i64 0, .int .i64 0, .int .i64 0, .string ⟨#[]⟩, .int .i64 0, .int .i64 0, .int .i64 0, .int .i64 0, .int .i64 0, .int .i64 0, .int .i64 0, .int .i64 0, .int .i64 0, .int .i64 0, .int .i64 0, .bool false, .bool false, .string ⟨#[]⟩, .string ⟨#[]⟩, .int .i64 0, .int .i64 0, .int .i64 0, .int .i64 0, .string ⟨#[]⟩, .int .i64 0, .int .i64 0, .int .i64 0, .int .i64 0, .int .i64 0, .int .i64 0, .int .i64 0, .int .i64 0, .int .i64 0, .int .i64 0, .int .i64 0, .bool false, .bool false, .bool false, .slice none 0 0, .string ⟨#[]⟩] 36))
    have hX : At ((w5.alloc (.cells #[.int .i64 0, .int .i64 0, .int .i64 0, .int .i64 0, .string ⟨#[]⟩, .int .i64 0, .int .i64 0, .int .i64 0, .int .i64 0, .int .i64 0, .int .i64 0, .int .i64 0, .int .i64 0, .int .i64 0, .int .i64 0, .int .i64 0, .bool false, .bool false, .string ⟨#[]⟩, .string ⟨#[]⟩, .int .i64 0, .int .i64 0, .int .i64 0, .int .i64 0, .string ⟨#[]⟩, .int .i64 0, .int .i64 0, .int .i64 0, .int .i64 0, .int .i64 0, .int .i64 0, .int .i64 0, .int .i64 0, .int .i64 0, .int .i64 0, .int .i64 0, .bool false, .bool false, .bool false, .slice none 0 0, .string ⟨#[]⟩] 36)).setCells w5.heap.size 0 (PZ).toList) w5.heap.size (PZ) := At.whole (vs := PZ) hX0 rfl
    go_wp2_with (refine wpList_store_mid (by rfl) 36 _ _ (by rfl) (w5.heap.size) 0 (PZ) (by rfl) (by rfl) hX0.there size36 PZ_one ?_)
    go_wp2
    go_meet
    case rel => exact ⟨w5.heap.size, p, rfl, rfl, bt hb hbx, hP.later hbx⟩
  case rest =>
  obtain ⟨B6, p, rfl, rfl, hl, hP⟩ := hcut
  obtain ⟨w4, hw4⟩ : ∃ x, x = wc := ⟨wc, rfl⟩
  subst hw4
  have HF := HT.out _ _ _ _ _ (hG.later hl) hP
  go_wp2_with fail
  refine ((HF _ (Below.refl _ _)).1).mono ?_
  rintro e w6 ⟨rfl, hb⟩
  go_wp2_with fail
  refine ((HF _ hb).2.1).mono ?_
  rintro e w7 ⟨rfl, hb7⟩
  go_wp2
  go_ret
  exact ⟨rfl, bt (bt hl hb) hb7⟩
end Go.Proofs.YtkpdmgoldngdaaaGreatDoor

namespace Go.Proofs.YtkpdmgoldngdaaaGreatDoor
open Go.ChangeShapes Go.WideShapes Go.ChangeAt Go.RowKit
set_option maxRecDepth 100000
open Go.ChangeMaps (open_string)

theorem ownK : ownKnob Tryz.prog.godebug = none := by kernel_rfl
theorem laidOutK : laidOutB Tryz.prog = true := by kernel_rfl
theorem gOrder : Tryz.prog.globalNamed "sternpost/opts.order" = some 0 := by kernel_rfl
theorem tOrder : (Tryz.prog.globals[0]?).map (·.type) = some 183 := by kernel_rfl
theorem gErr : Tryz.prog.globalNamed "errors.errorType" = some 1 := by kernel_rfl
theorem rtK : (Tryz.prog.cutTypes.find? (·.1 == "internal/reflectlite.rtype")).map (·.2) = some 191 := by kernel_rfl
theorem oneRow : ((List.range 274).filter fun t => Tryz.prog.rowNamed t [101, 114, 114, 111, 114]) = [38] := by kernel_rfl
theorem typesK : Tryz.prog.types.size = 274 := by kernel_rfl
def laidL : List (String × DataW Unit) := [("errors.errorType", Rows.laid_errors_errorType), ("sternpost/opts.order", Rows.laid_sternpost_opts_order)]
def laidO : List (String × DataW Unit) := [("sternpost/opts.order", Rows.laid_sternpost_opts_order)]
def laidE : List (String × DataW Unit) := [("errors.errorType", Rows.laid_errors_errorType)]
theorem door_met (os : Os) (args : Array Value) : laidMetH Tryz.prog laidL ((World.doorLaid Tryz.prog 400 os).forCall (fun _ _ => 0) ⟨#[], args, []⟩).memory :=
  laidMetH_of_parts3 (fuel := 8) (laidMet_of_run' 8 (by kernel_rfl) (by kernel_rfl)) (by kernel_rfl) (by kernel_rfl)
theorem ety_of {W : World} (h : laidMetH Tryz.prog laidL W) : Ety W := by
  have h' : laidMet Tryz.prog laidO W ∧ handlesMet Tryz.prog laidE W := h
  obtain ⟨name, u, ty, e1, e2, e3, e4, e5⟩ := h'.2 _ (List.mem_singleton.2 rfl)
  have en : name = [101, 114, 114, 111, 114] := (Option.some.inj e1).symm
  subst en
  obtain rfl := Option.some.inj (rtK.symm.trans e2)
  have hm : ty ∈ (List.range 274).filter fun t => Tryz.prog.rowNamed t [101, 114, 114, 111, 114] := List.mem_filter.2 ⟨List.mem_range.2 (by rw [← typesK]; exact e3), e4⟩
  rw [oneRow] at hm
  obtain rfl := List.mem_singleton.1 hm
  have hh : typeHandle Tryz.prog 38 = .pointer (some ⟨3, 38, none⟩) := by kernel_rfl
  rw [hh] at e5
  have := World.var?_cell gErr e5 0
  unfold Ety
  simpa using this
theorem ord_of {W : World} (h : laidMetH Tryz.prog laidL W) : OrE W := by
  have h' : laidMet Tryz.prog laidO W ∧ handlesMet Tryz.prog laidE W := h
  have hT : Lib.TabIs Tryz.prog W "sternpost/opts.order" .i64 [2, 3, 4, 8, 5] := Lib.tabIs_of_head gOrder tOrder Tryz.underlying183 Tryz.underlying3 (by kernel_rfl) (by kernel_rfl) h'.1
  exact ⟨⟨hT.cell gOrder 0 (by decide), hT.cell gOrder 1 (by decide), hT.cell gOrder 2 (by decide), hT.cell gOrder 3 (by decide), hT.cell gOrder 4 (by decide)⟩, ety_of h⟩
end Go.Proofs.YtkpdmgoldngdaaaGreatDoor
