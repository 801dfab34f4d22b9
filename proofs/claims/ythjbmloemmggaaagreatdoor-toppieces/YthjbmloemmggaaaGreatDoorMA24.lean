/- the texts Va, Vb, in part, merged by program -/
import Derived.Test.YthjbmloemmggaaaGreatDoorRows
import Derived.Deep.MidRow
import Derived.Deep.Cut
import Derived.WalkKit
import Derived.WalkSpells
import Derived.RegionTactic
import Derived.Below
import Derived.Laws.Tables
import Derived.Great.BuildSlice
import Derived.Laws.OwnMore
import Derived.Laws.AppendOwn
import Derived.Laws.AppendOwnNone
import Derived.Deep.LoopGhost
import Derived.Lib.Repeat
import Derived.Deep.RegionHeld3
import Derived.Deep.QuietTactic
import Derived.BigQuiet
import Derived.WalkSmall
import Derived.Laws.StructEq
import Derived.Deep.RegionWith
import Derived.LoopN
import Derived.BigRegion
import Derived.Deep.Light
import Derived.Test.YthjbmloemmggaaaGreatDoorMA01
import Derived.Test.YthjbmloemmggaaaGreatDoorMA02
import Derived.Test.YthjbmloemmggaaaGreatDoorMA16
import Derived.Test.YthjbmloemmggaaaGreatDoorMA17
import Derived.Test.YthjbmloemmggaaaGreatDoorMA18
import Derived.Test.YthjbmloemmggaaaGreatDoorMA19
import Derived.Test.YthjbmloemmggaaaGreatDoorMA20
import Derived.Test.YthjbmloemmggaaaGreatDoorMA21
import Derived.Test.YthjbmloemmggaaaGreatDoorMA22
namespace Go.Proofs.YthjbmloemmggaaaGreatDoor
open Go.RowKit
set_option maxRecDepth 100000
set_option linter.unusedVariables false

structure FrT where
  a : Int
  b : Int
  k : Int
  d : ByteArray
structure ArT where
  o : Int
  fm : Int
  fi : Int
  tm : Int
  ti : Int
structure PkT where
  f : Int
  t : Int
  tl : Int
  pr : Int
  id : Int
  fg : Int
  mo : Bool
  dn : Bool
  op : ByteArray
  da : ByteArray
structure IcT where
  ty : Int
  co : Int
  x : Int
  y : Int
  da : ByteArray
def FrT.zero : FrT := ⟨0, 0, 0, ⟨#[]⟩⟩
def ArT.zero : ArT := ⟨0, 0, 0, 0, 0⟩
def PkT.zero : PkT := ⟨0, 0, 0, 0, 0, 0, false, false, ⟨#[]⟩, ⟨#[]⟩⟩
def IcT.zero : IcT := ⟨0, 0, 0, 0, ⟨#[]⟩⟩
def Sg.zero : Sg := ⟨0, 0, 0, 0, 0, 0, 0, Op.zero, ⟨#[]⟩⟩
structure Pd where
  k : Int
  fr : FrT
  ar : ArT
  pk : PkT
  ic : IcT
  sg : Sg
def Pd.zero : Pd := ⟨0, FrT.zero, ArT.zero, PkT.zero, IcT.zero, Sg.zero⟩
def Pd.v (x : Pd) (v : Value) : Array Value := #[.int .i64 x.k, .int .i64 x.fr.a, .int .i64 x.fr.b, .int .i64 x.fr.k, .string x.fr.d, .int .i64 x.ar.o, .int .i64 x.ar.fm, .int .i64 x.ar.fi, .int .i64 x.ar.tm, .int .i64 x.ar.ti, .int .i64 x.pk.f, .int .i64 x.pk.t, .int .i64 x.pk.tl, .int .i64 x.pk.pr, .int .i64 x.pk.id, .int .i64 x.pk.fg, .bool x.pk.mo, .bool x.pk.dn, .string x.pk.op, .string x.pk.da, .int .i64 x.ic.ty, .int .i64 x.ic.co, .int .i64 x.ic.x, .int .i64 x.ic.y, .string x.ic.da, .int .i64 x.sg.fr, .int .i64 x.sg.dt, .int .i64 x.sg.sq, .int .i64 x.sg.ak, .int .i64 x.sg.fl, .int .i64 x.sg.wi, .int .i64 x.sg.ur, .int .i64 x.sg.o.m, .int .i64 x.sg.o.c, .int .i64 x.sg.o.t, .int .i64 x.sg.o.ec, .bool x.sg.o.sd, .bool x.sg.o.ok, .bool x.sg.o.sp, v, .string x.sg.da]
def PZ : Array Value := #[.int .i64 0, .int .i64 0, .int .i64 0, .int .i64 0, .string ⟨#[]⟩, .int .i64 0, .int .i64 0, .int .i64 0, .int .i64 0, .int .i64 0, .int .i64 0, .int .i64 0, .int .i64 0, .int .i64 0, .int .i64 0, .int .i64 0, .bool false, .bool false, .string ⟨#[]⟩, .string ⟨#[]⟩, .int .i64 0, .int .i64 0, .int .i64 0, .int .i64 0, .string ⟨#[]⟩, .int .i64 0, .int .i64 0, .int .i64 0, .int .i64 0, .int .i64 0, .int .i64 0, .int .i64 0, .int .i64 0, .int .i64 0, .int .i64 0, .int .i64 0, .bool false, .bool false, .bool false, .slice none 0 0, .string ⟨#[]⟩]
theorem Pd.one (x : Pd) {v : Value} (h : v.oneCell' = true) : (x.v v).all (·.oneCell') = true := by
  unfold Pd.v
  simp only [List.all_toArray, List.all_cons, List.all_nil, Bool.and_true, h]
  rfl
theorem PZ_one : PZ.all (·.oneCell') = true := Pd.one Pd.zero (v := .slice none 0 0) rfl
theorem size36 : (Tryz.prog.info? 56).map (·.size) = some 41 := by kernel_rfl
theorem ret_cell41 {fn : Func} {i j : Nat} (hres : fn.results = #[.cell i 56, .tmp j]) {tmps : Array Value} {W : World} {b : Nat} {vs : Array Value} {x : Value} (hA : At W b vs) (hs : vs.size = 41) (hi : tmps.getD i undef = .pointer (some ⟨b, 0, none⟩)) (hj : tmps.getD j undef = x) : (results fn tmps).run Tryz.prog W = .ok (.tuple #[.agg vs, x]) W := by
  have hl := run_loadVar_mid (P := Tryz.prog) W b 0 56 vs.toList _ hA.range Tryz.underlying56 rfl (by rw [show vs.toList.length = 41 by simpa using hs]; exact size36)
  rw [Array.getD_eq_getD_getElem?] at hi hj
  unfold results
  rw [hres]
  simp [hi, hj, asAddr, hl]
theorem buildZ (W : World) : (Instr.build 56 #[]).run Tryz.prog W = .ok (.agg PZ) W := run_build W 56 #[] _ (by kernel_rfl)
def FailV (l : ByteArray) (a c : Int) : Array Value := #[.string l, .int .i64 a, .iface 27 (.int .i64 c)]
def failE (p : Nat) : Value := .iface 103 (.pointer (some ⟨p, 0, none⟩))
set_option maxHeartbeats 4000000 in
theorem refuse_s (l : ByteArray) (a c : Int) (w : World) :
    Calls Tryz.prog 30 #[.string l, .int .i64 a, .int .i64 c] w fun e w' => ∃ p, e = .returned (.tuple #[.agg PZ, failE p]) ∧ w.heap.size ≤ p ∧ At w' p (FailV l a c) ∧ Below w.heap.size w w' := by
  have hR : At (w.alloc (.cells #[.int .i64 0, .int .i64 0, .int .i64 0, .int .i64 0, .string ⟨#[]⟩, .int .i64 0, .int .i64 0, .int .i64 0, .int .i64 0, .int .i64 0, .int .i64 0, .int .i64 0, .int .i64 0, .int .i64 0, .int .i64 0, .int .i64 0, .bool false, .bool false, .string ⟨#[]⟩, .string ⟨#[]⟩, .int .i64 0, .int .i64 0, .int .i64 0, .int .i64 0, .string ⟨#[]⟩, .int .i64 0, .int .i64 0, .int .i64 0, .int .i64 0, .int .i64 0, .int .i64 0, .int .i64 0, .int .i64 0, .int .i64 0, .int .i64 0, .int .i64 0, .bool false, .bool false, .bool false, .slice none 0 0, .string ⟨#[]⟩] 56)) w.heap.size PZ := At.box w #[.int .i64 0, .int .i64 0, .int .i64 0, .int .i64 0, .string ⟨#[]⟩, .int .i64 0, .int .i64 0, .int .i64 0, .int .i64 0, .int .i64 0, .int .i64 0, .int .i64 0, .int .i64 0, .int .i64 0, .int .i64 0, .int .i64 0, .bool false, .bool false, .string ⟨#[]⟩, .string ⟨#[]⟩, .int .i64 0, .int .i64 0, .int .i64 0, .int .i64 0, .string ⟨#[]⟩, .int .i64 0, .int .i64 0, .int .i64 0, .int .i64 0, .int .i64 0, .int .i64 0, .int .i64 0, .int .i64 0, .int .i64 0, .int .i64 0, .int .i64 0, .bool false, .bool false, .bool false, .slice none 0 0, .string ⟨#[]⟩] 56
  have hl := bel1 w (.cells #[.int .i64 0, .int .i64 0, .int .i64 0, .int .i64 0, .string ⟨#[]⟩, .int .i64 0, .int .i64 0, .int .i64 0, .int .i64 0, .int .i64 0, .int .i64 0, .int .i64 0, .int .i64 0, .int .i64 0, .int .i64 0, .int .i64 0, .bool false, .bool false, .string ⟨#[]⟩, .string ⟨#[]⟩, .int .i64 0, .int .i64 0, .int .i64 0, .int .i64 0, .string ⟨#[]⟩, .int .i64 0, .int .i64 0, .int .i64 0, .int .i64 0, .int .i64 0, .int .i64 0, .int .i64 0, .int .i64 0, .int .i64 0, .int .i64 0, .int .i64 0, .bool false, .bool false, .bool false, .slice none 0 0, .string ⟨#[]⟩] 56)
  go_enter Tryz.func30, Tryz.ntmps30
  go_upto_region 1 with fail
  generalize hw0 : w.alloc (.cells #[.int .i64 0, .int .i64 0, .int .i64 0, .int .i64 0, .string ⟨#[]⟩, .int .i64 0, .int .i64 0, .int .i64 0, .int .i64 0, .int .i64 0, .int .i64 0, .int .i64 0, .int .i64 0, .int .i64 0, .int .i64 0, .int .i64 0, .bool false, .bool false, .string ⟨#[]⟩, .string ⟨#[]⟩, .int .i64 0, .int .i64 0, .int .i64 0, .int .i64 0, .string ⟨#[]⟩, .int .i64 0, .int .i64 0, .int .i64 0, .int .i64 0, .int .i64 0, .int .i64 0, .int .i64 0, .int .i64 0, .int .i64 0, .int .i64 0, .int .i64 0, .bool false, .bool false, .bool false, .slice none 0 0, .string ⟨#[]⟩] 56) = w0 at *
  clear hw0
  have hz := buildZ
  have hb3 : ∀ W, (Instr.build 105 #[(0, .string l), (1, .int .i64 a), (2, .iface 27 (.int .i64 c))]).run Tryz.prog W = .ok (.agg #[.string l, .int .i64 a, .iface 27 (.int .i64 c)]) W := fun W => run_build W 105 _ _ (by kernel_rfl)
  have hbx := bel1 w0 (.cells #[.string l, .int .i64 a, .iface 27 (.int .i64 c)] 105)
  have hP := At.box w0 #[.string l, .int .i64 a, .iface 27 (.int .i64 c)] 105
  have hR2 := hR.later hbx
  go_wp2_with (refine wpList_store_mid (by rfl) 56 _ _ (by rfl) (w.heap.size) 0 PZ (by rfl) (by rfl) hR2.there size36 PZ_one ?_)
  go_wp2
  exact bodyPost_ret (v := .tuple #[.agg PZ, failE w0.heap.size]) (ret_cell41 (by rfl) (At.whole (vs := PZ) hR2 rfl) rfl (by rfl) (by rfl)) (by rfl) ⟨w0.heap.size, rfl, hl.size, At.apart hP (Nat.ne_of_lt hR.1) _ _, Below.setCells (Nat.le_refl _) _ _ _ (bt hl hbx)⟩
end Go.Proofs.YthjbmloemmggaaaGreatDoor

namespace Go.Proofs.YthjbmloemmggaaaGreatDoor
open Go.RowKit
set_option maxRecDepth 100000
set_option linter.unusedVariables false

theorem size27 : (Tryz.prog.info? 23).map (·.size) = some 10 := by kernel_rfl
theorem size29 : (Tryz.prog.info? 49).map (·.size) = some 5 := by kernel_rfl
def InnP (r : Except (ByteArray × Int × Int) Pd) (w : World) (e : Ending) (w' : World) : Prop := match r with
  | .error q => ∃ p, e = .returned (.tuple #[.agg PZ, .iface 103 (.pointer (some ⟨p, 0, none⟩))]) ∧ w.heap.size ≤ p ∧ At w' p (FailV q.1 q.2.1 q.2.2) ∧ Below w.heap.size w w'
  | .ok y => ∃ v, e = .returned (.tuple #[.agg (y.v v), .nilIface]) ∧ RgA w.heap.size w' v y.sg.o.rs ∧ Below w.heap.size w w'
theorem RgA.nil (base : Nat) (W : World) : RgA base W (.slice none 0 0) [] := ⟨none, 0, rfl, ⟨Nat.le_refl _, fun _ => rfl⟩, .inl rfl⟩
set_option maxHeartbeats 4000000 in
theorem inn_2 (x : PkT) (w : World)
    (HC : Hid (∀ W, Calls Tryz.prog 32 #[.agg #[.int .i64 x.f, .int .i64 x.t, .int .i64 x.tl, .int .i64 x.pr, .int .i64 x.id, .int .i64 x.fg, .bool x.mo, .bool x.dn, .string x.op, .string x.da]] W fun e w' => e = .returned (.int .i64 0) ∧ Below W.heap.size W w'))
    (HW : Hid (∀ W, Calls Tryz.prog 34 #[.agg #[.int .i64 x.f, .int .i64 x.t, .int .i64 x.tl, .int .i64 x.pr, .int .i64 x.id, .int .i64 x.fg, .bool x.mo, .bool x.dn, .string x.op, .string x.da]] W fun e w' => e = .returned (.bool false) ∧ Below W.heap.size W w')) :
    Calls Tryz.prog 51 #[.agg #[.int .i64 x.f, .int .i64 x.t, .int .i64 x.tl, .int .i64 x.pr, .int .i64 x.id, .int .i64 x.fg, .bool x.mo, .bool x.dn, .string x.op, .string x.da]] w fun e w' => ∃ v, e = .returned (.tuple #[.agg (Pd.v ((⟨2, FrT.zero, ArT.zero, x, IcT.zero, Sg.zero⟩ : Pd)) v), .nilIface]) ∧ RgA w.heap.size w' v ((⟨2, FrT.zero, ArT.zero, x, IcT.zero, Sg.zero⟩ : Pd)).sg.o.rs ∧ Below w.heap.size w w' := by
  have hb1 := bel1 w (.cells #[.int .i64 x.f, .int .i64 x.t, .int .i64 x.tl, .int .i64 x.pr, .int .i64 x.id, .int .i64 x.fg, .bool x.mo, .bool x.dn, .string x.op, .string x.da] 23)
  have hb2 := bel1 (w.alloc (.cells #[.int .i64 x.f, .int .i64 x.t, .int .i64 x.tl, .int .i64 x.pr, .int .i64 x.id, .int .i64 x.fg, .bool x.mo, .bool x.dn, .string x.op, .string x.da] 23)) (.cells #[.int .i64 0, .int .i64 0, .int .i64 0, .int .i64 0, .string ⟨#[]⟩, .int .i64 0, .int .i64 0, .int .i64 0, .int .i64 0, .int .i64 0, .int .i64 0, .int .i64 0, .int .i64 0, .int .i64 0, .int .i64 0, .int .i64 0, .bool false, .bool false, .string ⟨#[]⟩, .string ⟨#[]⟩, .int .i64 0, .int .i64 0, .int .i64 0, .int .i64 0, .string ⟨#[]⟩, .int .i64 0, .int .i64 0, .int .i64 0, .int .i64 0, .int .i64 0, .int .i64 0, .int .i64 0, .int .i64 0, .int .i64 0, .int .i64 0, .int .i64 0, .bool false, .bool false, .bool false, .slice none 0 0, .string ⟨#[]⟩] 56)
  have hA := (At.box w #[.int .i64 x.f, .int .i64 x.t, .int .i64 x.tl, .int .i64 x.pr, .int .i64 x.id, .int .i64 x.fg, .bool x.mo, .bool x.dn, .string x.op, .string x.da] 23).later hb2
  have hR : At ((w.alloc (.cells #[.int .i64 x.f, .int .i64 x.t, .int .i64 x.tl, .int .i64 x.pr, .int .i64 x.id, .int .i64 x.fg, .bool x.mo, .bool x.dn, .string x.op, .string x.da] 23)).alloc (.cells #[.int .i64 0, .int .i64 0, .int .i64 0, .int .i64 0, .string ⟨#[]⟩, .int .i64 0, .int .i64 0, .int .i64 0, .int .i64 0, .int .i64 0, .int .i64 0, .int .i64 0, .int .i64 0, .int .i64 0, .int .i64 0, .int .i64 0, .bool false, .bool false, .string ⟨#[]⟩, .string ⟨#[]⟩, .int .i64 0, .int .i64 0, .int .i64 0, .int .i64 0, .string ⟨#[]⟩, .int .i64 0, .int .i64 0, .int .i64 0, .int .i64 0, .int .i64 0, .int .i64 0, .int .i64 0, .int .i64 0, .int .i64 0, .int .i64 0, .int .i64 0, .bool false, .bool false, .bool false, .slice none 0 0, .string ⟨#[]⟩] 56)) (w.heap.size + 1) PZ := At.box2 w (.cells #[.int .i64 x.f, .int .i64 x.t, .int .i64 x.tl, .int .i64 x.pr, .int .i64 x.id, .int .i64 x.fg, .bool x.mo, .bool x.dn, .string x.op, .string x.da] 23) #[.int .i64 0, .int .i64 0, .int .i64 0, .int .i64 0, .string ⟨#[]⟩, .int .i64 0, .int .i64 0, .int .i64 0, .int .i64 0, .int .i64 0, .int .i64 0, .int .i64 0, .int .i64 0, .int .i64 0, .int .i64 0, .int .i64 0, .bool false, .bool false, .string ⟨#[]⟩, .string ⟨#[]⟩, .int .i64 0, .int .i64 0, .int .i64 0, .int .i64 0, .string ⟨#[]⟩, .int .i64 0, .int .i64 0, .int .i64 0, .int .i64 0, .int .i64 0, .int .i64 0, .int .i64 0, .int .i64 0, .int .i64 0, .int .i64 0, .int .i64 0, .bool false, .bool false, .bool false, .slice none 0 0, .string ⟨#[]⟩] 56
  have hl := bt hb1 hb2
  have hz := buildZ
  clear hb1 hb2
  go_enter Tryz.func51, Tryz.ntmps51
  go_upto_region 1 with fail
  generalize hw0 : (w.alloc (.cells #[.int .i64 x.f, .int .i64 x.t, .int .i64 x.tl, .int .i64 x.pr, .int .i64 x.id, .int .i64 x.fg, .bool x.mo, .bool x.dn, .string x.op, .string x.da] 23)).alloc (.cells #[.int .i64 0, .int .i64 0, .int .i64 0, .int .i64 0, .string ⟨#[]⟩, .int .i64 0, .int .i64 0, .int .i64 0, .int .i64 0, .int .i64 0, .int .i64 0, .int .i64 0, .int .i64 0, .int .i64 0, .int .i64 0, .int .i64 0, .bool false, .bool false, .string ⟨#[]⟩, .string ⟨#[]⟩, .int .i64 0, .int .i64 0, .int .i64 0, .int .i64 0, .string ⟨#[]⟩, .int .i64 0, .int .i64 0, .int .i64 0, .int .i64 0, .int .i64 0, .int .i64 0, .int .i64 0, .int .i64 0, .int .i64 0, .int .i64 0, .int .i64 0, .bool false, .bool false, .bool false, .slice none 0 0, .string ⟨#[]⟩] 56) = w0 at *
  clear hw0
  go_wp2_with (refine wpList_loadG 23 _ (by rfl) (by rfl) (w.heap.size) 0 (by rfl) _ _ hA.range Tryz.underlying23 rfl size27 ?_)
  refine (HC.out _).mono ?_
  rintro e w1 ⟨rfl, hb⟩
  replace hl := bt hl hb
  replace hA := hA.later hb
  replace hR := hR.later hb
  clear hb
  clear HC
  go_wp2_with (refine wpList_loadG 23 _ (by rfl) (by rfl) (w.heap.size) 0 (by rfl) _ _ hA.range Tryz.underlying23 rfl size27 ?_)
  refine (HW.out _).mono ?_
  rintro e w2 ⟨rfl, hb⟩
  replace hl := bt hl hb
  replace hA := hA.later hb
  replace hR := hR.later hb
  clear hb
  clear HW
  have hb5 : ∀ W, (Instr.build 56 #[(0, .int .i64 2), (3, .agg #[.int .i64 x.f, .int .i64 x.t, .int .i64 x.tl, .int .i64 x.pr, .int .i64 x.id, .int .i64 x.fg, .bool x.mo, .bool x.dn, .string x.op, .string x.da])]).run Tryz.prog W = .ok (.agg ((⟨2, FrT.zero, ArT.zero, x, IcT.zero, Sg.zero⟩ : Pd).v (.slice none 0 0))) W := fun W => run_build W 56 _ _ (by kernel_rfl)
  go_wp2_with (first | (refine wpList_loadG 23 _ (by rfl) (by rfl) (w.heap.size) 0 (by rfl) _ _ hA.range Tryz.underlying23 rfl size27 ?_) | (refine wpList_store_mid (by rfl) 56 _ _ (by rfl) (w.heap.size + 1) 0 ((⟨2, FrT.zero, ArT.zero, x, IcT.zero, Sg.zero⟩ : Pd).v (.slice none 0 0)) (by rfl) (by rfl) hR.there size36 (Pd.one _ rfl) ?_))
  go_wp2
  exact bodyPost_ret (v := .tuple #[.agg ((⟨2, FrT.zero, ArT.zero, x, IcT.zero, Sg.zero⟩ : Pd).v (.slice none 0 0)), .nilIface]) (ret_cell41 (by rfl) (At.whole (vs := (⟨2, FrT.zero, ArT.zero, x, IcT.zero, Sg.zero⟩ : Pd).v (.slice none 0 0)) hR rfl) rfl (by rfl) (by rfl)) (by rfl) ⟨_, rfl, RgA.nil _ _, Below.setCells (by omega) _ _ _ hl⟩
set_option maxHeartbeats 4000000 in
theorem inn_5 (x : PkT) (w : World)
    (HC : Hid (∀ W, Calls Tryz.prog 32 #[.agg #[.int .i64 x.f, .int .i64 x.t, .int .i64 x.tl, .int .i64 x.pr, .int .i64 x.id, .int .i64 x.fg, .bool x.mo, .bool x.dn, .string x.op, .string x.da]] W fun e w' => e = .returned (.int .i64 0) ∧ Below W.heap.size W w'))
    (HW : Hid (∀ W, Calls Tryz.prog 34 #[.agg #[.int .i64 x.f, .int .i64 x.t, .int .i64 x.tl, .int .i64 x.pr, .int .i64 x.id, .int .i64 x.fg, .bool x.mo, .bool x.dn, .string x.op, .string x.da]] W fun e w' => e = .returned (.bool true) ∧ Below W.heap.size W w'))
    (e20 : IntKind.i64.wrap (20 + (x.op.size : Int)) = 20 + (x.op.size : Int)) (hop : x.op.size ≤ 140737488355328)
    (q1 : (x.pr == 1) = false) (q6 : (x.pr == 6) = false) :
    Calls Tryz.prog 51 #[.agg #[.int .i64 x.f, .int .i64 x.t, .int .i64 x.tl, .int .i64 x.pr, .int .i64 x.id, .int .i64 x.fg, .bool x.mo, .bool x.dn, .string x.op, .string x.da]] w fun e w' => ∃ p, e = .returned (.tuple #[.agg PZ, .iface 103 (.pointer (some ⟨p, 0, none⟩))]) ∧ w.heap.size ≤ p ∧ At w' p (FailV ⟨#[105, 112]⟩ (0) (90)) ∧ Below w.heap.size w w' := by
  have hb1 := bel1 w (.cells #[.int .i64 x.f, .int .i64 x.t, .int .i64 x.tl, .int .i64 x.pr, .int .i64 x.id, .int .i64 x.fg, .bool x.mo, .bool x.dn, .string x.op, .string x.da] 23)
  have hb2 := bel1 (w.alloc (.cells #[.int .i64 x.f, .int .i64 x.t, .int .i64 x.tl, .int .i64 x.pr, .int .i64 x.id, .int .i64 x.fg, .bool x.mo, .bool x.dn, .string x.op, .string x.da] 23)) (.cells #[.int .i64 0, .int .i64 0, .int .i64 0, .int .i64 0, .string ⟨#[]⟩, .int .i64 0, .int .i64 0, .int .i64 0, .int .i64 0, .int .i64 0, .int .i64 0, .int .i64 0, .int .i64 0, .int .i64 0, .int .i64 0, .int .i64 0, .bool false, .bool false, .string ⟨#[]⟩, .string ⟨#[]⟩, .int .i64 0, .int .i64 0, .int .i64 0, .int .i64 0, .string ⟨#[]⟩, .int .i64 0, .int .i64 0, .int .i64 0, .int .i64 0, .int .i64 0, .int .i64 0, .int .i64 0, .int .i64 0, .int .i64 0, .int .i64 0, .int .i64 0, .bool false, .bool false, .bool false, .slice none 0 0, .string ⟨#[]⟩] 56)
  have hA := (At.box w #[.int .i64 x.f, .int .i64 x.t, .int .i64 x.tl, .int .i64 x.pr, .int .i64 x.id, .int .i64 x.fg, .bool x.mo, .bool x.dn, .string x.op, .string x.da] 23).later hb2
  have hR : At ((w.alloc (.cells #[.int .i64 x.f, .int .i64 x.t, .int .i64 x.tl, .int .i64 x.pr, .int .i64 x.id, .int .i64 x.fg, .bool x.mo, .bool x.dn, .string x.op, .string x.da] 23)).alloc (.cells #[.int .i64 0, .int .i64 0, .int .i64 0, .int .i64 0, .string ⟨#[]⟩, .int .i64 0, .int .i64 0, .int .i64 0, .int .i64 0, .int .i64 0, .int .i64 0, .int .i64 0, .int .i64 0, .int .i64 0, .int .i64 0, .int .i64 0, .bool false, .bool false, .string ⟨#[]⟩, .string ⟨#[]⟩, .int .i64 0, .int .i64 0, .int .i64 0, .int .i64 0, .string ⟨#[]⟩, .int .i64 0, .int .i64 0, .int .i64 0, .int .i64 0, .int .i64 0, .int .i64 0, .int .i64 0, .int .i64 0, .int .i64 0, .int .i64 0, .int .i64 0, .bool false, .bool false, .bool false, .slice none 0 0, .string ⟨#[]⟩] 56)) (w.heap.size + 1) PZ := At.box2 w (.cells #[.int .i64 x.f, .int .i64 x.t, .int .i64 x.tl, .int .i64 x.pr, .int .i64 x.id, .int .i64 x.fg, .bool x.mo, .bool x.dn, .string x.op, .string x.da] 23) #[.int .i64 0, .int .i64 0, .int .i64 0, .int .i64 0, .string ⟨#[]⟩, .int .i64 0, .int .i64 0, .int .i64 0, .int .i64 0, .int .i64 0, .int .i64 0, .int .i64 0, .int .i64 0, .int .i64 0, .int .i64 0, .int .i64 0, .bool false, .bool false, .string ⟨#[]⟩, .string ⟨#[]⟩, .int .i64 0, .int .i64 0, .int .i64 0, .int .i64 0, .string ⟨#[]⟩, .int .i64 0, .int .i64 0, .int .i64 0, .int .i64 0, .int .i64 0, .int .i64 0, .int .i64 0, .int .i64 0, .int .i64 0, .int .i64 0, .int .i64 0, .bool false, .bool false, .bool false, .slice none 0 0, .string ⟨#[]⟩] 56
  have hl := bt hb1 hb2
  have hz := buildZ
  clear hb1 hb2
  go_enter Tryz.func51, Tryz.ntmps51
  go_upto_region 1 with fail
  generalize hw0 : (w.alloc (.cells #[.int .i64 x.f, .int .i64 x.t, .int .i64 x.tl, .int .i64 x.pr, .int .i64 x.id, .int .i64 x.fg, .bool x.mo, .bool x.dn, .string x.op, .string x.da] 23)).alloc (.cells #[.int .i64 0, .int .i64 0, .int .i64 0, .int .i64 0, .string ⟨#[]⟩, .int .i64 0, .int .i64 0, .int .i64 0, .int .i64 0, .int .i64 0, .int .i64 0, .int .i64 0, .int .i64 0, .int .i64 0, .int .i64 0, .int .i64 0, .bool false, .bool false, .string ⟨#[]⟩, .string ⟨#[]⟩, .int .i64 0, .int .i64 0, .int .i64 0, .int .i64 0, .string ⟨#[]⟩, .int .i64 0, .int .i64 0, .int .i64 0, .int .i64 0, .int .i64 0, .int .i64 0, .int .i64 0, .int .i64 0, .int .i64 0, .int .i64 0, .int .i64 0, .bool false, .bool false, .bool false, .slice none 0 0, .string ⟨#[]⟩] 56) = w0 at *
  clear hw0
  go_wp2_with (refine wpList_loadG 23 _ (by rfl) (by rfl) (w.heap.size) 0 (by rfl) _ _ hA.range Tryz.underlying23 rfl size27 ?_)
  refine (HC.out _).mono ?_
  rintro e w1 ⟨rfl, hb⟩
  replace hl := bt hl hb
  replace hA := hA.later hb
  replace hR := hR.later hb
  clear hb
  clear HC
  go_wp2_with (refine wpList_loadG 23 _ (by rfl) (by rfl) (w.heap.size) 0 (by rfl) _ _ hA.range Tryz.underlying23 rfl size27 ?_)
  refine (HW.out _).mono ?_
  rintro e w2 ⟨rfl, hb⟩
  replace hl := bt hl hb
  replace hA := hA.later hb
  replace hR := hR.later hb
  clear hb
  clear HW
  have c8 := (hA.2 8 _ rfl).1
  have c3 := (hA.2 3 _ rfl).1
  go_wp2_with fail
  refine (refuse_s _ _ _ _).mono ?_
  rintro e wr ⟨p, rfl, hp, hP, hb⟩
  have hlt := Nat.lt_of_lt_of_le hR.1 hp
  have hwp := Nat.le_trans hl.size hp
  replace hl := bt hl hb
  replace hR := hR.later hb
  clear hb
  go_wp2_with (refine wpList_store_mid (by rfl) 56 _ _ (by rfl) (w.heap.size + 1) 0 (PZ) (by rfl) (by rfl) hR.there size36 PZ_one ?_)
  go_wp2
  exact bodyPost_ret (v := .tuple #[.agg PZ, .iface 103 (.pointer (some ⟨p, 0, none⟩))]) (ret_cell41 (by rfl) (At.whole (vs := PZ) hR rfl) rfl (by rfl) (by rfl)) (by rfl) ⟨p, rfl, hwp, At.apart hP (Nat.ne_of_lt hlt) _ _, Below.setCells (by omega) _ _ _ hl⟩
set_option maxHeartbeats 4000000 in
theorem inn_3 (x : PkT) (m : IcT) (c : Int) (w : World)
    (HC : Hid (∀ W, Calls Tryz.prog 32 #[.agg #[.int .i64 x.f, .int .i64 x.t, .int .i64 x.tl, .int .i64 x.pr, .int .i64 x.id, .int .i64 x.fg, .bool x.mo, .bool x.dn, .string x.op, .string x.da]] W fun e w' => e = .returned (.int .i64 0) ∧ Below W.heap.size W w'))
    (HW : Hid (∀ W, Calls Tryz.prog 34 #[.agg #[.int .i64 x.f, .int .i64 x.t, .int .i64 x.tl, .int .i64 x.pr, .int .i64 x.id, .int .i64 x.fg, .bool x.mo, .bool x.dn, .string x.op, .string x.da]] W fun e w' => e = .returned (.bool true) ∧ Below W.heap.size W w'))
    (e20 : IntKind.i64.wrap (20 + (x.op.size : Int)) = 20 + (x.op.size : Int)) (hop : x.op.size ≤ 140737488355328)
    (q1 : (x.pr == 1) = true)
    (HI : Hid (∀ W, Calls Tryz.prog 67 #[.string x.da] W fun e w' => e = .returned (.tuple #[.agg #[.int .i64 m.ty, .int .i64 m.co, .int .i64 m.x, .int .i64 m.y, .string m.da], .int .i64 c]) ∧ Below W.heap.size W w'))
    (hc : (c != 0) = true) :
    Calls Tryz.prog 51 #[.agg #[.int .i64 x.f, .int .i64 x.t, .int .i64 x.tl, .int .i64 x.pr, .int .i64 x.id, .int .i64 x.fg, .bool x.mo, .bool x.dn, .string x.op, .string x.da]] w fun e w' => ∃ p, e = .returned (.tuple #[.agg PZ, .iface 103 (.pointer (some ⟨p, 0, none⟩))]) ∧ w.heap.size ≤ p ∧ At w' p (FailV ⟨#[105, 99, 109, 112]⟩ (20 + (x.op.size : Int)) (c)) ∧ Below w.heap.size w w' := by
  have hb1 := bel1 w (.cells #[.int .i64 x.f, .int .i64 x.t, .int .i64 x.tl, .int .i64 x.pr, .int .i64 x.id, .int .i64 x.fg, .bool x.mo, .bool x.dn, .string x.op, .string x.da] 23)
  have hb2 := bel1 (w.alloc (.cells #[.int .i64 x.f, .int .i64 x.t, .int .i64 x.tl, .int .i64 x.pr, .int .i64 x.id, .int .i64 x.fg, .bool x.mo, .bool x.dn, .string x.op, .string x.da] 23)) (.cells #[.int .i64 0, .int .i64 0, .int .i64 0, .int .i64 0, .string ⟨#[]⟩, .int .i64 0, .int .i64 0, .int .i64 0, .int .i64 0, .int .i64 0, .int .i64 0, .int .i64 0, .int .i64 0, .int .i64 0, .int .i64 0, .int .i64 0, .bool false, .bool false, .string ⟨#[]⟩, .string ⟨#[]⟩, .int .i64 0, .int .i64 0, .int .i64 0, .int .i64 0, .string ⟨#[]⟩, .int .i64 0, .int .i64 0, .int .i64 0, .int .i64 0, .int .i64 0, .int .i64 0, .int .i64 0, .int .i64 0, .int .i64 0, .int .i64 0, .int .i64 0, .bool false, .bool false, .bool false, .slice none 0 0, .string ⟨#[]⟩] 56)
  have hA := (At.box w #[.int .i64 x.f, .int .i64 x.t, .int .i64 x.tl, .int .i64 x.pr, .int .i64 x.id, .int .i64 x.fg, .bool x.mo, .bool x.dn, .string x.op, .string x.da] 23).later hb2
  have hR : At ((w.alloc (.cells #[.int .i64 x.f, .int .i64 x.t, .int .i64 x.tl, .int .i64 x.pr, .int .i64 x.id, .int .i64 x.fg, .bool x.mo, .bool x.dn, .string x.op, .string x.da] 23)).alloc (.cells #[.int .i64 0, .int .i64 0, .int .i64 0, .int .i64 0, .string ⟨#[]⟩, .int .i64 0, .int .i64 0, .int .i64 0, .int .i64 0, .int .i64 0, .int .i64 0, .int .i64 0, .int .i64 0, .int .i64 0, .int .i64 0, .int .i64 0, .bool false, .bool false, .string ⟨#[]⟩, .string ⟨#[]⟩, .int .i64 0, .int .i64 0, .int .i64 0, .int .i64 0, .string ⟨#[]⟩, .int .i64 0, .int .i64 0, .int .i64 0, .int .i64 0, .int .i64 0, .int .i64 0, .int .i64 0, .int .i64 0, .int .i64 0, .int .i64 0, .int .i64 0, .bool false, .bool false, .bool false, .slice none 0 0, .string ⟨#[]⟩] 56)) (w.heap.size + 1) PZ := At.box2 w (.cells #[.int .i64 x.f, .int .i64 x.t, .int .i64 x.tl, .int .i64 x.pr, .int .i64 x.id, .int .i64 x.fg, .bool x.mo, .bool x.dn, .string x.op, .string x.da] 23) #[.int .i64 0, .int .i64 0, .int .i64 0, .int .i64 0, .string ⟨#[]⟩, .int .i64 0, .int .i64 0, .int .i64 0, .int .i64 0, .int .i64 0, .int .i64 0, .int .i64 0, .int .i64 0, .int .i64 0, .int .i64 0, .int .i64 0, .bool false, .bool false, .string ⟨#[]⟩, .string ⟨#[]⟩, .int .i64 0, .int .i64 0, .int .i64 0, .int .i64 0, .string ⟨#[]⟩, .int .i64 0, .int .i64 0, .int .i64 0, .int .i64 0, .int .i64 0, .int .i64 0, .int .i64 0, .int .i64 0, .int .i64 0, .int .i64 0, .int .i64 0, .bool false, .bool false, .bool false, .slice none 0 0, .string ⟨#[]⟩] 56
  have hl := bt hb1 hb2
  have hz := buildZ
  clear hb1 hb2
  go_enter Tryz.func51, Tryz.ntmps51
  go_upto_region 1 with fail
  generalize hw0 : (w.alloc (.cells #[.int .i64 x.f, .int .i64 x.t, .int .i64 x.tl, .int .i64 x.pr, .int .i64 x.id, .int .i64 x.fg, .bool x.mo, .bool x.dn, .string x.op, .string x.da] 23)).alloc (.cells #[.int .i64 0, .int .i64 0, .int .i64 0, .int .i64 0, .string ⟨#[]⟩, .int .i64 0, .int .i64 0, .int .i64 0, .int .i64 0, .int .i64 0, .int .i64 0, .int .i64 0, .int .i64 0, .int .i64 0, .int .i64 0, .int .i64 0, .bool false, .bool false, .string ⟨#[]⟩, .string ⟨#[]⟩, .int .i64 0, .int .i64 0, .int .i64 0, .int .i64 0, .string ⟨#[]⟩, .int .i64 0, .int .i64 0, .int .i64 0, .int .i64 0, .int .i64 0, .int .i64 0, .int .i64 0, .int .i64 0, .int .i64 0, .int .i64 0, .int .i64 0, .bool false, .bool false, .bool false, .slice none 0 0, .string ⟨#[]⟩] 56) = w0 at *
  clear hw0
  go_wp2_with (refine wpList_loadG 23 _ (by rfl) (by rfl) (w.heap.size) 0 (by rfl) _ _ hA.range Tryz.underlying23 rfl size27 ?_)
  refine (HC.out _).mono ?_
  rintro e w1 ⟨rfl, hb⟩
  replace hl := bt hl hb
  replace hA := hA.later hb
  replace hR := hR.later hb
  clear hb
  clear HC
  go_wp2_with (refine wpList_loadG 23 _ (by rfl) (by rfl) (w.heap.size) 0 (by rfl) _ _ hA.range Tryz.underlying23 rfl size27 ?_)
  refine (HW.out _).mono ?_
  rintro e w2 ⟨rfl, hb⟩
  replace hl := bt hl hb
  replace hA := hA.later hb
  replace hR := hR.later hb
  clear hb
  clear HW
  have c8 := (hA.2 8 _ rfl).1
  have c3 := (hA.2 3 _ rfl).1
  have c9 := (hA.2 9 _ rfl).1
  go_wp2_with fail
  refine (HI.out _).mono ?_
  rintro e w3 ⟨rfl, hb⟩
  have hbx := bel1 w3 (.cells #[.int .i64 m.ty, .int .i64 m.co, .int .i64 m.x, .int .i64 m.y, .string m.da] 49)
  have hI := At.box w3 #[.int .i64 m.ty, .int .i64 m.co, .int .i64 m.x, .int .i64 m.y, .string m.da] 49
  replace hb := bt hb hbx
  replace hl := bt hl hb
  replace hA := hA.later hb
  replace hR := hR.later hb
  clear hb HI c8 c3 c9
  go_upto_region 10 with fail
  obtain ⟨B6, hB6⟩ : ∃ B, B = w3.heap.size := ⟨_, rfl⟩
  rw [← hB6] at hI ⊢
  generalize w3.alloc (.cells #[.int .i64 m.ty, .int .i64 m.co, .int .i64 m.x, .int .i64 m.y, .string m.da] 49) = w4 at *
  clear hbx hB6
  go_wp2_with fail
  refine (refuse_s _ _ _ _).mono ?_
  rintro e wr ⟨p, rfl, hp, hP, hb⟩
  have hlt := Nat.lt_of_lt_of_le hR.1 hp
  have hwp := Nat.le_trans hl.size hp
  replace hl := bt hl hb
  replace hR := hR.later hb
  clear hb
  go_wp2_with (refine wpList_store_mid (by rfl) 56 _ _ (by rfl) (w.heap.size + 1) 0 (PZ) (by rfl) (by rfl) hR.there size36 PZ_one ?_)
  go_wp2
  exact bodyPost_ret (v := .tuple #[.agg PZ, .iface 103 (.pointer (some ⟨p, 0, none⟩))]) (ret_cell41 (by rfl) (At.whole (vs := PZ) hR rfl) rfl (by rfl) (by rfl)) (by rfl) ⟨p, rfl, hwp, At.apart hP (Nat.ne_of_lt hlt) _ _, Below.setCells (by omega) _ _ _ hl⟩
set_option maxHeartbeats 4000000 in
theorem inn_4 (x : PkT) (m : IcT) (w : World)
    (HC : Hid (∀ W, Calls Tryz.prog 32 #[.agg #[.int .i64 x.f, .int .i64 x.t, .int .i64 x.tl, .int .i64 x.pr, .int .i64 x.id, .int .i64 x.fg, .bool x.mo, .bool x.dn, .string x.op, .string x.da]] W fun e w' => e = .returned (.int .i64 0) ∧ Below W.heap.size W w'))
    (HW : Hid (∀ W, Calls Tryz.prog 34 #[.agg #[.int .i64 x.f, .int .i64 x.t, .int .i64 x.tl, .int .i64 x.pr, .int .i64 x.id, .int .i64 x.fg, .bool x.mo, .bool x.dn, .string x.op, .string x.da]] W fun e w' => e = .returned (.bool true) ∧ Below W.heap.size W w'))
    (e20 : IntKind.i64.wrap (20 + (x.op.size : Int)) = 20 + (x.op.size : Int)) (hop : x.op.size ≤ 140737488355328)
    (q1 : (x.pr == 1) = true)
    (HI : Hid (∀ W, Calls Tryz.prog 67 #[.string x.da] W fun e w' => e = .returned (.tuple #[.agg #[.int .i64 m.ty, .int .i64 m.co, .int .i64 m.x, .int .i64 m.y, .string m.da], .int .i64 0]) ∧ Below W.heap.size W w')) :
    Calls Tryz.prog 51 #[.agg #[.int .i64 x.f, .int .i64 x.t, .int .i64 x.tl, .int .i64 x.pr, .int .i64 x.id, .int .i64 x.fg, .bool x.mo, .bool x.dn, .string x.op, .string x.da]] w fun e w' => ∃ v, e = .returned (.tuple #[.agg (Pd.v ((⟨3, FrT.zero, ArT.zero, x, m, Sg.zero⟩ : Pd)) v), .nilIface]) ∧ RgA w.heap.size w' v ((⟨3, FrT.zero, ArT.zero, x, m, Sg.zero⟩ : Pd)).sg.o.rs ∧ Below w.heap.size w w' := by
  have hb1 := bel1 w (.cells #[.int .i64 x.f, .int .i64 x.t, .int .i64 x.tl, .int .i64 x.pr, .int .i64 x.id, .int .i64 x.fg, .bool x.mo, .bool x.dn, .string x.op, .string x.da] 23)
  have hb2 := bel1 (w.alloc (.cells #[.int .i64 x.f, .int .i64 x.t, .int .i64 x.tl, .int .i64 x.pr, .int .i64 x.id, .int .i64 x.fg, .bool x.mo, .bool x.dn, .string x.op, .string x.da] 23)) (.cells #[.int .i64 0, .int .i64 0, .int .i64 0, .int .i64 0, .string ⟨#[]⟩, .int .i64 0, .int .i64 0, .int .i64 0, .int .i64 0, .int .i64 0, .int .i64 0, .int .i64 0, .int .i64 0, .int .i64 0, .int .i64 0, .int .i64 0, .bool false, .bool false, .string ⟨#[]⟩, .string ⟨#[]⟩, .int .i64 0, .int .i64 0, .int .i64 0, .int .i64 0, .string ⟨#[]⟩, .int .i64 0, .int .i64 0, .int .i64 0, .int .i64 0, .int .i64 0, .int .i64 0, .int .i64 0, .int .i64 0, .int .i64 0, .int .i64 0, .int .i64 0, .bool false, .bool false, .bool false, .slice none 0 0, .string ⟨#[]⟩] 56)
  have hA := (At.box w #[.int .i64 x.f, .int .i64 x.t, .int .i64 x.tl, .int .i64 x.pr, .int .i64 x.id, .int .i64 x.fg, .bool x.mo, .bool x.dn, .string x.op, .string x.da] 23).later hb2
  have hR : At ((w.alloc (.cells #[.int .i64 x.f, .int .i64 x.t, .int .i64 x.tl, .int .i64 x.pr, .int .i64 x.id, .int .i64 x.fg, .bool x.mo, .bool x.dn, .string x.op, .string x.da] 23)).alloc (.cells #[.int .i64 0, .int .i64 0, .int .i64 0, .int .i64 0, .string ⟨#[]⟩, .int .i64 0, .int .i64 0, .int .i64 0, .int .i64 0, .int .i64 0, .int .i64 0, .int .i64 0, .int .i64 0, .int .i64 0, .int .i64 0, .int .i64 0, .bool false, .bool false, .string ⟨#[]⟩, .string ⟨#[]⟩, .int .i64 0, .int .i64 0, .int .i64 0, .int .i64 0, .string ⟨#[]⟩, .int .i64 0, .int .i64 0, .int .i64 0, .int .i64 0, .int .i64 0, .int .i64 0, .int .i64 0, .int .i64 0, .int .i64 0, .int .i64 0, .int .i64 0, .bool false, .bool false, .bool false, .slice none 0 0, .string ⟨#[]⟩] 56)) (w.heap.size + 1) PZ := At.box2 w (.cells #[.int .i64 x.f, .int .i64 x.t, .int .i64 x.tl, .int .i64 x.pr, .int .i64 x.id, .int .i64 x.fg, .bool x.mo, .bool x.dn, .string x.op, .string x.da] 23) #[.int .i64 0, .int .i64 0, .int .i64 0, .int .i64 0, .string ⟨#[]⟩, .int .i64 0, .int .i64 0, .int .i64 0, .int .i64 0, .int .i64 0, .int .i64 0, .int .i64 0, .int .i64 0, .int .i64 0, .int .i64 0, .int .i64 0, .bool false, .bool false, .string ⟨#[]⟩, .string ⟨#[]⟩, .int .i64 0, .int .i64 0, .int .i64 0, .int .i64 0, .string ⟨#[]⟩, .int .i64 0, .int .i64 0, .int .i64 0, .int .i64 0, .int .i64 0, .int .i64 0, .int .i64 0, .int .i64 0, .int .i64 0, .int .i64 0, .int .i64 0, .bool false, .bool false, .bool false, .slice none 0 0, .string ⟨#[]⟩] 56
  have hl := bt hb1 hb2
  have hz := buildZ
  clear hb1 hb2
  go_enter Tryz.func51, Tryz.ntmps51
  go_upto_region 1 with fail
  generalize hw0 : (w.alloc (.cells #[.int .i64 x.f, .int .i64 x.t, .int .i64 x.tl, .int .i64 x.pr, .int .i64 x.id, .int .i64 x.fg, .bool x.mo, .bool x.dn, .string x.op, .string x.da] 23)).alloc (.cells #[.int .i64 0, .int .i64 0, .int .i64 0, .int .i64 0, .string ⟨#[]⟩, .int .i64 0, .int .i64 0, .int .i64 0, .int .i64 0, .int .i64 0, .int .i64 0, .int .i64 0, .int .i64 0, .int .i64 0, .int .i64 0, .int .i64 0, .bool false, .bool false, .string ⟨#[]⟩, .string ⟨#[]⟩, .int .i64 0, .int .i64 0, .int .i64 0, .int .i64 0, .string ⟨#[]⟩, .int .i64 0, .int .i64 0, .int .i64 0, .int .i64 0, .int .i64 0, .int .i64 0, .int .i64 0, .int .i64 0, .int .i64 0, .int .i64 0, .int .i64 0, .bool false, .bool false, .bool false, .slice none 0 0, .string ⟨#[]⟩] 56) = w0 at *
  clear hw0
  go_wp2_with (refine wpList_loadG 23 _ (by rfl) (by rfl) (w.heap.size) 0 (by rfl) _ _ hA.range Tryz.underlying23 rfl size27 ?_)
  refine (HC.out _).mono ?_
  rintro e w1 ⟨rfl, hb⟩
  replace hl := bt hl hb
  replace hA := hA.later hb
  replace hR := hR.later hb
  clear hb
  clear HC
  go_wp2_with (refine wpList_loadG 23 _ (by rfl) (by rfl) (w.heap.size) 0 (by rfl) _ _ hA.range Tryz.underlying23 rfl size27 ?_)
  refine (HW.out _).mono ?_
  rintro e w2 ⟨rfl, hb⟩
  replace hl := bt hl hb
  replace hA := hA.later hb
  replace hR := hR.later hb
  clear hb
  clear HW
  have c8 := (hA.2 8 _ rfl).1
  have c3 := (hA.2 3 _ rfl).1
  have c9 := (hA.2 9 _ rfl).1
  go_wp2_with fail
  refine (HI.out _).mono ?_
  rintro e w3 ⟨rfl, hb⟩
  have hbx := bel1 w3 (.cells #[.int .i64 m.ty, .int .i64 m.co, .int .i64 m.x, .int .i64 m.y, .string m.da] 49)
  have hI := At.box w3 #[.int .i64 m.ty, .int .i64 m.co, .int .i64 m.x, .int .i64 m.y, .string m.da] 49
  replace hb := bt hb hbx
  replace hl := bt hl hb
  replace hA := hA.later hb
  replace hR := hR.later hb
  clear hb HI c8 c3 c9
  go_upto_region 10 with fail
  obtain ⟨B6, hB6⟩ : ∃ B, B = w3.heap.size := ⟨_, rfl⟩
  rw [← hB6] at hI ⊢
  generalize w3.alloc (.cells #[.int .i64 m.ty, .int .i64 m.co, .int .i64 m.x, .int .i64 m.y, .string m.da] 49) = w4 at *
  clear hbx hB6
  have hb5 : ∀ W, (Instr.build 56 #[(0, .int .i64 3), (3, .agg #[.int .i64 x.f, .int .i64 x.t, .int .i64 x.tl, .int .i64 x.pr, .int .i64 x.id, .int .i64 x.fg, .bool x.mo, .bool x.dn, .string x.op, .string x.da]), (4, .agg #[.int .i64 m.ty, .int .i64 m.co, .int .i64 m.x, .int .i64 m.y, .string m.da])]).run Tryz.prog W = .ok (.agg ((⟨3, FrT.zero, ArT.zero, x, m, Sg.zero⟩ : Pd).v (.slice none 0 0))) W := fun W => run_build W 56 _ _ (by kernel_rfl)
  go_wp2_with (first | (refine wpList_loadG 23 _ (by rfl) (by rfl) (w.heap.size) 0 (by rfl) _ _ hA.range Tryz.underlying23 rfl size27 ?_) | (refine wpList_loadG 49 _ (by rfl) (by rfl) B6 0 (by rfl) _ _ hI.range Tryz.underlying49 rfl size29 ?_) | (refine wpList_store_mid (by rfl) 56 _ _ (by rfl) (w.heap.size + 1) 0 ((⟨3, FrT.zero, ArT.zero, x, m, Sg.zero⟩ : Pd).v (.slice none 0 0)) (by rfl) (by rfl) hR.there size36 (Pd.one _ rfl) ?_))
  go_wp2
  exact bodyPost_ret (v := .tuple #[.agg ((⟨3, FrT.zero, ArT.zero, x, m, Sg.zero⟩ : Pd).v (.slice none 0 0)), .nilIface]) (ret_cell41 (by rfl) (At.whole (vs := (⟨3, FrT.zero, ArT.zero, x, m, Sg.zero⟩ : Pd).v (.slice none 0 0)) hR rfl) rfl (by rfl) (by rfl)) (by rfl) ⟨_, rfl, RgA.nil _ _, Below.setCells (by omega) _ _ _ hl⟩
set_option maxHeartbeats 4000000 in
theorem inn_6 (x : PkT) (c : Int) (w : World)
    (hG : OrE w)
    (HC : Hid (∀ W, Calls Tryz.prog 32 #[.agg #[.int .i64 x.f, .int .i64 x.t, .int .i64 x.tl, .int .i64 x.pr, .int .i64 x.id, .int .i64 x.fg, .bool x.mo, .bool x.dn, .string x.op, .string x.da]] W fun e w' => e = .returned (.int .i64 0) ∧ Below W.heap.size W w'))
    (HW : Hid (∀ W, Calls Tryz.prog 34 #[.agg #[.int .i64 x.f, .int .i64 x.t, .int .i64 x.tl, .int .i64 x.pr, .int .i64 x.id, .int .i64 x.fg, .bool x.mo, .bool x.dn, .string x.op, .string x.da]] W fun e w' => e = .returned (.bool true) ∧ Below W.heap.size W w'))
    (e20 : IntKind.i64.wrap (20 + (x.op.size : Int)) = 20 + (x.op.size : Int)) (hop : x.op.size ≤ 140737488355328)
    (q1 : (x.pr == 1) = false) (q6 : (x.pr == 6) = true)
    (HS : Hid (∀ W, OrE W → Calls Tryz.prog 68 #[.int .i64 x.f, .int .i64 x.t, .string x.da] W fun e w' => e = .returned (.tuple #[.agg #[.int .i64 0, .int .i64 0, .int .i64 0, .int .i64 0, .int .i64 0, .int .i64 0, .int .i64 0, .int .i64 0, .int .i64 0, .int .i64 0, .int .i64 0, .bool false, .bool false, .bool false, .slice none 0 0, .string ⟨#[]⟩], .int .i64 c]) ∧ Below W.heap.size W w'))
    (hc : (c != 0) = true) :
    Calls Tryz.prog 51 #[.agg #[.int .i64 x.f, .int .i64 x.t, .int .i64 x.tl, .int .i64 x.pr, .int .i64 x.id, .int .i64 x.fg, .bool x.mo, .bool x.dn, .string x.op, .string x.da]] w fun e w' => ∃ p, e = .returned (.tuple #[.agg PZ, .iface 103 (.pointer (some ⟨p, 0, none⟩))]) ∧ w.heap.size ≤ p ∧ At w' p (FailV ⟨#[116, 99, 112]⟩ (20 + (x.op.size : Int)) (c)) ∧ Below w.heap.size w w' := by
  have hb1 := bel1 w (.cells #[.int .i64 x.f, .int .i64 x.t, .int .i64 x.tl, .int .i64 x.pr, .int .i64 x.id, .int .i64 x.fg, .bool x.mo, .bool x.dn, .string x.op, .string x.da] 23)
  have hb2 := bel1 (w.alloc (.cells #[.int .i64 x.f, .int .i64 x.t, .int .i64 x.tl, .int .i64 x.pr, .int .i64 x.id, .int .i64 x.fg, .bool x.mo, .bool x.dn, .string x.op, .string x.da] 23)) (.cells #[.int .i64 0, .int .i64 0, .int .i64 0, .int .i64 0, .string ⟨#[]⟩, .int .i64 0, .int .i64 0, .int .i64 0, .int .i64 0, .int .i64 0, .int .i64 0, .int .i64 0, .int .i64 0, .int .i64 0, .int .i64 0, .int .i64 0, .bool false, .bool false, .string ⟨#[]⟩, .string ⟨#[]⟩, .int .i64 0, .int .i64 0, .int .i64 0, .int .i64 0, .string ⟨#[]⟩, .int .i64 0, .int .i64 0, .int .i64 0, .int .i64 0, .int .i64 0, .int .i64 0, .int .i64 0, .int .i64 0, .int .i64 0, .int .i64 0, .int .i64 0, .bool false, .bool false, .bool false, .slice none 0 0, .string ⟨#[]⟩] 56)
  have hA := (At.box w #[.int .i64 x.f, .int .i64 x.t, .int .i64 x.tl, .int .i64 x.pr, .int .i64 x.id, .int .i64 x.fg, .bool x.mo, .bool x.dn, .string x.op, .string x.da] 23).later hb2
  have hR : At ((w.alloc (.cells #[.int .i64 x.f, .int .i64 x.t, .int .i64 x.tl, .int .i64 x.pr, .int .i64 x.id, .int .i64 x.fg, .bool x.mo, .bool x.dn, .string x.op, .string x.da] 23)).alloc (.cells #[.int .i64 0, .int .i64 0, .int .i64 0, .int .i64 0, .string ⟨#[]⟩, .int .i64 0, .int .i64 0, .int .i64 0, .int .i64 0, .int .i64 0, .int .i64 0, .int .i64 0, .int .i64 0, .int .i64 0, .int .i64 0, .int .i64 0, .bool false, .bool false, .string ⟨#[]⟩, .string ⟨#[]⟩, .int .i64 0, .int .i64 0, .int .i64 0, .int .i64 0, .string ⟨#[]⟩, .int .i64 0, .int .i64 0, .int .i64 0, .int .i64 0, .int .i64 0, .int .i64 0, .int .i64 0, .int .i64 0, .int .i64 0, .int .i64 0, .int .i64 0, .bool false, .bool false, .bool false, .slice none 0 0, .string ⟨#[]⟩] 56)) (w.heap.size + 1) PZ := At.box2 w (.cells #[.int .i64 x.f, .int .i64 x.t, .int .i64 x.tl, .int .i64 x.pr, .int .i64 x.id, .int .i64 x.fg, .bool x.mo, .bool x.dn, .string x.op, .string x.da] 23) #[.int .i64 0, .int .i64 0, .int .i64 0, .int .i64 0, .string ⟨#[]⟩, .int .i64 0, .int .i64 0, .int .i64 0, .int .i64 0, .int .i64 0, .int .i64 0, .int .i64 0, .int .i64 0, .int .i64 0, .int .i64 0, .int .i64 0, .bool false, .bool false, .string ⟨#[]⟩, .string ⟨#[]⟩, .int .i64 0, .int .i64 0, .int .i64 0, .int .i64 0, .string ⟨#[]⟩, .int .i64 0, .int .i64 0, .int .i64 0, .int .i64 0, .int .i64 0, .int .i64 0, .int .i64 0, .int .i64 0, .int .i64 0, .int .i64 0, .int .i64 0, .bool false, .bool false, .bool false, .slice none 0 0, .string ⟨#[]⟩] 56
  have hl := bt hb1 hb2
  have hz := buildZ
  clear hb1 hb2
  go_enter Tryz.func51, Tryz.ntmps51
  go_upto_region 1 with fail
  generalize hw0 : (w.alloc (.cells #[.int .i64 x.f, .int .i64 x.t, .int .i64 x.tl, .int .i64 x.pr, .int .i64 x.id, .int .i64 x.fg, .bool x.mo, .bool x.dn, .string x.op, .string x.da] 23)).alloc (.cells #[.int .i64 0, .int .i64 0, .int .i64 0, .int .i64 0, .string ⟨#[]⟩, .int .i64 0, .int .i64 0, .int .i64 0, .int .i64 0, .int .i64 0, .int .i64 0, .int .i64 0, .int .i64 0, .int .i64 0, .int .i64 0, .int .i64 0, .bool false, .bool false, .string ⟨#[]⟩, .string ⟨#[]⟩, .int .i64 0, .int .i64 0, .int .i64 0, .int .i64 0, .string ⟨#[]⟩, .int .i64 0, .int .i64 0, .int .i64 0, .int .i64 0, .int .i64 0, .int .i64 0, .int .i64 0, .int .i64 0, .int .i64 0, .int .i64 0, .int .i64 0, .bool false, .bool false, .bool false, .slice none 0 0, .string ⟨#[]⟩] 56) = w0 at *
  clear hw0
  go_wp2_with (refine wpList_loadG 23 _ (by rfl) (by rfl) (w.heap.size) 0 (by rfl) _ _ hA.range Tryz.underlying23 rfl size27 ?_)
  refine (HC.out _).mono ?_
  rintro e w1 ⟨rfl, hb⟩
  replace hl := bt hl hb
  replace hA := hA.later hb
  replace hR := hR.later hb
  clear hb
  clear HC
  go_wp2_with (refine wpList_loadG 23 _ (by rfl) (by rfl) (w.heap.size) 0 (by rfl) _ _ hA.range Tryz.underlying23 rfl size27 ?_)
  refine (HW.out _).mono ?_
  rintro e w2 ⟨rfl, hb⟩
  replace hl := bt hl hb
  replace hA := hA.later hb
  replace hR := hR.later hb
  clear hb
  clear HW
  have c8 := (hA.2 8 _ rfl).1
  have c3 := (hA.2 3 _ rfl).1
  have c9 := (hA.2 9 _ rfl).1
  have c0 := (hA.2 0 _ rfl).1
  have c1 := (hA.2 1 _ rfl).1
  go_wp2_with fail
  refine (HS.out _ (hG.later hl)).mono ?_
  rintro e w3 ⟨rfl, hb⟩
  have hbx := bel1 w3 (.cells #[.int .i64 0, .int .i64 0, .int .i64 0, .int .i64 0, .int .i64 0, .int .i64 0, .int .i64 0, .int .i64 0, .int .i64 0, .int .i64 0, .int .i64 0, .bool false, .bool false, .bool false, .slice none 0 0, .string ⟨#[]⟩] 54)
  have hI := At.box w3 #[.int .i64 0, .int .i64 0, .int .i64 0, .int .i64 0, .int .i64 0, .int .i64 0, .int .i64 0, .int .i64 0, .int .i64 0, .int .i64 0, .int .i64 0, .bool false, .bool false, .bool false, .slice none 0 0, .string ⟨#[]⟩] 54
  replace hb := bt hb hbx
  replace hl := bt hl hb
  replace hA := hA.later hb
  replace hR := hR.later hb
  clear hb HS c8 c3 c9 c0 c1
  go_upto_region 15 with fail
  obtain ⟨B6, hB6⟩ : ∃ B, B = w3.heap.size := ⟨_, rfl⟩
  rw [← hB6] at hI ⊢
  generalize w3.alloc (.cells #[.int .i64 0, .int .i64 0, .int .i64 0, .int .i64 0, .int .i64 0, .int .i64 0, .int .i64 0, .int .i64 0, .int .i64 0, .int .i64 0, .int .i64 0, .bool false, .bool false, .bool false, .slice none 0 0, .string ⟨#[]⟩] 54) = w4 at *
  clear hbx hB6
  go_wp2_with fail
  refine (refuse_s _ _ _ _).mono ?_
  rintro e wr ⟨p, rfl, hp, hP, hb⟩
  have hlt := Nat.lt_of_lt_of_le hR.1 hp
  have hwp := Nat.le_trans hl.size hp
  replace hl := bt hl hb
  replace hR := hR.later hb
  clear hb
  go_wp2_with (refine wpList_store_mid (by rfl) 56 _ _ (by rfl) (w.heap.size + 1) 0 (PZ) (by rfl) (by rfl) hR.there size36 PZ_one ?_)
  go_wp2
  exact bodyPost_ret (v := .tuple #[.agg PZ, .iface 103 (.pointer (some ⟨p, 0, none⟩))]) (ret_cell41 (by rfl) (At.whole (vs := PZ) hR rfl) rfl (by rfl) (by rfl)) (by rfl) ⟨p, rfl, hwp, At.apart hP (Nat.ne_of_lt hlt) _ _, Below.setCells (by omega) _ _ _ hl⟩
set_option maxHeartbeats 4000000 in
theorem inn_7 (x : PkT) (s : Sg) (w : World)
    (hG : OrE w)
    (HC : Hid (∀ W, Calls Tryz.prog 32 #[.agg #[.int .i64 x.f, .int .i64 x.t, .int .i64 x.tl, .int .i64 x.pr, .int .i64 x.id, .int .i64 x.fg, .bool x.mo, .bool x.dn, .string x.op, .string x.da]] W fun e w' => e = .returned (.int .i64 0) ∧ Below W.heap.size W w'))
    (HW : Hid (∀ W, Calls Tryz.prog 34 #[.agg #[.int .i64 x.f, .int .i64 x.t, .int .i64 x.tl, .int .i64 x.pr, .int .i64 x.id, .int .i64 x.fg, .bool x.mo, .bool x.dn, .string x.op, .string x.da]] W fun e w' => e = .returned (.bool true) ∧ Below W.heap.size W w'))
    (e20 : IntKind.i64.wrap (20 + (x.op.size : Int)) = 20 + (x.op.size : Int)) (hop : x.op.size ≤ 140737488355328)
    (q1 : (x.pr == 1) = false) (q6 : (x.pr == 6) = true)
    (HS : Hid (∀ W, OrE W → Calls Tryz.prog 68 #[.int .i64 x.f, .int .i64 x.t, .string x.da] W fun e w' => ∃ v, e = .returned (.tuple #[.agg #[.int .i64 s.fr, .int .i64 s.dt, .int .i64 s.sq, .int .i64 s.ak, .int .i64 s.fl, .int .i64 s.wi, .int .i64 s.ur, .int .i64 s.o.m, .int .i64 s.o.c, .int .i64 s.o.t, .int .i64 s.o.ec, .bool s.o.sd, .bool s.o.ok, .bool s.o.sp, v, .string s.da], .int .i64 0]) ∧ RgA W.heap.size w' v s.o.rs ∧ Below W.heap.size W w')) :
    Calls Tryz.prog 51 #[.agg #[.int .i64 x.f, .int .i64 x.t, .int .i64 x.tl, .int .i64 x.pr, .int .i64 x.id, .int .i64 x.fg, .bool x.mo, .bool x.dn, .string x.op, .string x.da]] w fun e w' => ∃ v, e = .returned (.tuple #[.agg (Pd.v ((⟨4, FrT.zero, ArT.zero, x, IcT.zero, s⟩ : Pd)) v), .nilIface]) ∧ RgA w.heap.size w' v ((⟨4, FrT.zero, ArT.zero, x, IcT.zero, s⟩ : Pd)).sg.o.rs ∧ Below w.heap.size w w' := by
  have hb1 := bel1 w (.cells #[.int .i64 x.f, .int .i64 x.t, .int .i64 x.tl, .int .i64 x.pr, .int .i64 x.id, .int .i64 x.fg, .bool x.mo, .bool x.dn, .string x.op, .string x.da] 23)
  have hb2 := bel1 (w.alloc (.cells #[.int .i64 x.f, .int .i64 x.t, .int .i64 x.tl, .int .i64 x.pr, .int .i64 x.id, .int .i64 x.fg, .bool x.mo, .bool x.dn, .string x.op, .string x.da] 23)) (.cells #[.int .i64 0, .int .i64 0, .int .i64 0, .int .i64 0, .string ⟨#[]⟩, .int .i64 0, .int .i64 0, .int .i64 0, .int .i64 0, .int .i64 0, .int .i64 0, .int .i64 0, .int .i64 0, .int .i64 0, .int .i64 0, .int .i64 0, .bool false, .bool false, .string ⟨#[]⟩, .string ⟨#[]⟩, .int .i64 0, .int .i64 0, .int .i64 0, .int .i64 0, .string ⟨#[]⟩, .int .i64 0, .int .i64 0, .int .i64 0, .int .i64 0, .int .i64 0, .int .i64 0, .int .i64 0, .int .i64 0, .int .i64 0, .int .i64 0, .int .i64 0, .bool false, .bool false, .bool false, .slice none 0 0, .string ⟨#[]⟩] 56)
  have hA := (At.box w #[.int .i64 x.f, .int .i64 x.t, .int .i64 x.tl, .int .i64 x.pr, .int .i64 x.id, .int .i64 x.fg, .bool x.mo, .bool x.dn, .string x.op, .string x.da] 23).later hb2
  have hR : At ((w.alloc (.cells #[.int .i64 x.f, .int .i64 x.t, .int .i64 x.tl, .int .i64 x.pr, .int .i64 x.id, .int .i64 x.fg, .bool x.mo, .bool x.dn, .string x.op, .string x.da] 23)).alloc (.cells #[.int .i64 0, .int .i64 0, .int .i64 0, .int .i64 0, .string ⟨#[]⟩, .int .i64 0, .int .i64 0, .int .i64 0, .int .i64 0, .int .i64 0, .int .i64 0, .int .i64 0, .int .i64 0, .int .i64 0, .int .i64 0, .int .i64 0, .bool false, .bool false, .string ⟨#[]⟩, .string ⟨#[]⟩, .int .i64 0, .int .i64 0, .int .i64 0, .int .i64 0, .string ⟨#[]⟩, .int .i64 0, .int .i64 0, .int .i64 0, .int .i64 0, .int .i64 0, .int .i64 0, .int .i64 0, .int .i64 0, .int .i64 0, .int .i64 0, .int .i64 0, .bool false, .bool false, .bool false, .slice none 0 0, .string ⟨#[]⟩] 56)) (w.heap.size + 1) PZ := At.box2 w (.cells #[.int .i64 x.f, .int .i64 x.t, .int .i64 x.tl, .int .i64 x.pr, .int .i64 x.id, .int .i64 x.fg, .bool x.mo, .bool x.dn, .string x.op, .string x.da] 23) #[.int .i64 0, .int .i64 0, .int .i64 0, .int .i64 0, .string ⟨#[]⟩, .int .i64 0, .int .i64 0, .int .i64 0, .int .i64 0, .int .i64 0, .int .i64 0, .int .i64 0, .int .i64 0, .int .i64 0, .int .i64 0, .int .i64 0, .bool false, .bool false, .string ⟨#[]⟩, .string ⟨#[]⟩, .int .i64 0, .int .i64 0, .int .i64 0, .int .i64 0, .string ⟨#[]⟩, .int .i64 0, .int .i64 0, .int .i64 0, .int .i64 0, .int .i64 0, .int .i64 0, .int .i64 0, .int .i64 0, .int .i64 0, .int .i64 0, .int .i64 0, .bool false, .bool false, .bool false, .slice none 0 0, .string ⟨#[]⟩] 56
  have hl := bt hb1 hb2
  have hz := buildZ
  clear hb1 hb2
  go_enter Tryz.func51, Tryz.ntmps51
  go_upto_region 1 with fail
  generalize hw0 : (w.alloc (.cells #[.int .i64 x.f, .int .i64 x.t, .int .i64 x.tl, .int .i64 x.pr, .int .i64 x.id, .int .i64 x.fg, .bool x.mo, .bool x.dn, .string x.op, .string x.da] 23)).alloc (.cells #[.int .i64 0, .int .i64 0, .int .i64 0, .int .i64 0, .string ⟨#[]⟩, .int .i64 0, .int .i64 0, .int .i64 0, .int .i64 0, .int .i64 0, .int .i64 0, .int .i64 0, .int .i64 0, .int .i64 0, .int .i64 0, .int .i64 0, .bool false, .bool false, .string ⟨#[]⟩, .string ⟨#[]⟩, .int .i64 0, .int .i64 0, .int .i64 0, .int .i64 0, .string ⟨#[]⟩, .int .i64 0, .int .i64 0, .int .i64 0, .int .i64 0, .int .i64 0, .int .i64 0, .int .i64 0, .int .i64 0, .int .i64 0, .int .i64 0, .int .i64 0, .bool false, .bool false, .bool false, .slice none 0 0, .string ⟨#[]⟩] 56) = w0 at *
  clear hw0
  go_wp2_with (refine wpList_loadG 23 _ (by rfl) (by rfl) (w.heap.size) 0 (by rfl) _ _ hA.range Tryz.underlying23 rfl size27 ?_)
  refine (HC.out _).mono ?_
  rintro e w1 ⟨rfl, hb⟩
  replace hl := bt hl hb
  replace hA := hA.later hb
  replace hR := hR.later hb
  clear hb
  clear HC
  go_wp2_with (refine wpList_loadG 23 _ (by rfl) (by rfl) (w.heap.size) 0 (by rfl) _ _ hA.range Tryz.underlying23 rfl size27 ?_)
  refine (HW.out _).mono ?_
  rintro e w2 ⟨rfl, hb⟩
  replace hl := bt hl hb
  replace hA := hA.later hb
  replace hR := hR.later hb
  clear hb
  clear HW
  have c8 := (hA.2 8 _ rfl).1
  have c3 := (hA.2 3 _ rfl).1
  have hlt : w.heap.size + 1 < w2.heap.size := hR.1
  have c9 := (hA.2 9 _ rfl).1
  have c0 := (hA.2 0 _ rfl).1
  have c1 := (hA.2 1 _ rfl).1
  go_wp2_with fail
  refine (HS.out _ (hG.later hl)).mono ?_
  rintro e w3 ⟨v, rfl, hvr, hb⟩
  obtain ⟨a0, cap0, hve, -⟩ := id hvr
  subst hve
  have hbx := bel1 w3 (.cells #[.int .i64 s.fr, .int .i64 s.dt, .int .i64 s.sq, .int .i64 s.ak, .int .i64 s.fl, .int .i64 s.wi, .int .i64 s.ur, .int .i64 s.o.m, .int .i64 s.o.c, .int .i64 s.o.t, .int .i64 s.o.ec, .bool s.o.sd, .bool s.o.ok, .bool s.o.sp, (.slice a0 s.o.rs.length cap0), .string s.da] 54)
  have hI := At.box w3 #[.int .i64 s.fr, .int .i64 s.dt, .int .i64 s.sq, .int .i64 s.ak, .int .i64 s.fl, .int .i64 s.wi, .int .i64 s.ur, .int .i64 s.o.m, .int .i64 s.o.c, .int .i64 s.o.t, .int .i64 s.o.ec, .bool s.o.sd, .bool s.o.ok, .bool s.o.sp, (.slice a0 s.o.rs.length cap0), .string s.da] 54
  replace hb := bt hb hbx
  replace hvr := hvr.later hbx
  replace hl := bt hl hb
  replace hA := hA.later hb
  replace hR := hR.later hb
  clear hb HS c8 c3 c9 c0 c1
  go_upto_region 15 with fail
  obtain ⟨B6, hB6⟩ : ∃ B, B = w3.heap.size := ⟨_, rfl⟩
  rw [← hB6] at hI ⊢
  generalize w3.alloc (.cells #[.int .i64 s.fr, .int .i64 s.dt, .int .i64 s.sq, .int .i64 s.ak, .int .i64 s.fl, .int .i64 s.wi, .int .i64 s.ur, .int .i64 s.o.m, .int .i64 s.o.c, .int .i64 s.o.t, .int .i64 s.o.ec, .bool s.o.sd, .bool s.o.ok, .bool s.o.sp, (.slice a0 s.o.rs.length cap0), .string s.da] 54) = w4 at *
  clear hbx hB6
  have hb5 : ∀ W, (Instr.build 56 #[(0, .int .i64 4), (3, .agg #[.int .i64 x.f, .int .i64 x.t, .int .i64 x.tl, .int .i64 x.pr, .int .i64 x.id, .int .i64 x.fg, .bool x.mo, .bool x.dn, .string x.op, .string x.da]), (5, .agg #[.int .i64 s.fr, .int .i64 s.dt, .int .i64 s.sq, .int .i64 s.ak, .int .i64 s.fl, .int .i64 s.wi, .int .i64 s.ur, .int .i64 s.o.m, .int .i64 s.o.c, .int .i64 s.o.t, .int .i64 s.o.ec, .bool s.o.sd, .bool s.o.ok, .bool s.o.sp, (.slice a0 s.o.rs.length cap0), .string s.da])]).run Tryz.prog W = .ok (.agg ((⟨4, FrT.zero, ArT.zero, x, IcT.zero, s⟩ : Pd).v (.slice a0 s.o.rs.length cap0))) W := fun W => run_build W 56 _ _ (by kernel_rfl)
  go_wp2_with (first | (refine wpList_loadG 23 _ (by rfl) (by rfl) (w.heap.size) 0 (by rfl) _ _ hA.range Tryz.underlying23 rfl size27 ?_) | (refine wpList_loadG 54 _ (by rfl) (by rfl) B6 0 (by rfl) _ _ hI.range Tryz.underlying54 rfl size54 ?_) | (refine wpList_store_mid (by rfl) 56 _ _ (by rfl) (w.heap.size + 1) 0 ((⟨4, FrT.zero, ArT.zero, x, IcT.zero, s⟩ : Pd).v (.slice a0 s.o.rs.length cap0)) (by rfl) (by rfl) hR.there size36 (Pd.one _ rfl) ?_))
  go_wp2
  exact bodyPost_ret (v := .tuple #[.agg ((⟨4, FrT.zero, ArT.zero, x, IcT.zero, s⟩ : Pd).v (.slice a0 s.o.rs.length cap0)), .nilIface]) (ret_cell41 (by rfl) (At.whole (vs := (⟨4, FrT.zero, ArT.zero, x, IcT.zero, s⟩ : Pd).v (.slice a0 s.o.rs.length cap0)) hR rfl) rfl (by rfl) (by rfl)) (by rfl) ⟨_, rfl, (hvr.setCells _ _ _ hlt).mono (by omega), Below.setCells (by omega) _ _ _ hl⟩
end Go.Proofs.YthjbmloemmggaaaGreatDoor
