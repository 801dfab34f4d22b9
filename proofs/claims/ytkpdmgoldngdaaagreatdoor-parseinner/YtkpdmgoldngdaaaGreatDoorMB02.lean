/- the texts Vb, in part, merged by program -/
import Derived.Test.YtkpdmgoldngdaaaGreatDoorProg
import Derived.Test.YtkpdmgoldngdaaaGreatDoorRows
import Derived.Deep.MidRow
import Derived.Deep.Cut
import Derived.WalkKit
import Derived.WalkSpells
import Derived.RegionTactic
import Derived.Below
import Derived.Laws.Tables
import Derived.Great.BuildSlice
import Derived.Laws.OwnMore
import Derived.Laws.AppendOwn
import Derived.Laws.AppendOwnNone
import Derived.Deep.LoopGhost
import Derived.Deep.RegionHeld3
import Derived.Deep.QuietTactic
import Derived.BigQuiet
import Derived.WalkSmall
import Derived.Laws.StructEq
import Derived.BigRegion
import Derived.Deep.Light
import Derived.Shelf.Strings.Repeat
import Derived.Deep.RegionWith
import Derived.LoopN
import Derived.Test.YtkpdmgoldngdaaaGreatDoorMA01
import Derived.Test.YtkpdmgoldngdaaaGreatDoorMA04
import Derived.Test.YtkpdmgoldngdaaaGreatDoorMA05
import Derived.Test.YtkpdmgoldngdaaaGreatDoorMA06
import Derived.Test.YtkpdmgoldngdaaaGreatDoorMA07
namespace Go.Proofs.YtkpdmgoldngdaaaGreatDoor
open Go.RowKit
set_option maxRecDepth 100000
set_option linter.unusedVariables false
theorem size29 : (Tryz.prog.info? 29).map (·.size) = some 5 := by kernel_rfl
theorem RgA.nil (base : Nat) (W : World) : RgA base W (.slice none 0 0) [] := ⟨none, 0, rfl, ⟨Nat.le_refl _, fun _ => rfl⟩, .inl rfl⟩
set_option maxHeartbeats 4000000 in
theorem inn_4 (x : PkT) (m : IcT) (w : World)
    (HC : Hid (∀ W, Calls Tryz.prog 34 #[.agg #[.int .i64 x.f, .int .i64 x.t, .int .i64 x.tl, .int .i64 x.pr, .int .i64 x.id, .int .i64 x.fg, .bool x.mo, .bool x.dn, .string x.op, .string x.da]] W fun e w' => e = .returned (.int .i64 0) ∧ Below W.heap.size W w'))
    (HW : Hid (∀ W, Calls Tryz.prog 35 #[.agg #[.int .i64 x.f, .int .i64 x.t, .int .i64 x.tl, .int .i64 x.pr, .int .i64 x.id, .int .i64 x.fg, .bool x.mo, .bool x.dn, .string x.op, .string x.da]] W fun e w' => e = .returned (.bool true) ∧ Below W.heap.size W w'))
    (e20 : IntKind.i64.wrap (20 + (x.op.size : Int)) = 20 + (x.op.size : Int)) (hop : x.op.size ≤ 140737488355328)
    (q1 : (x.pr == 1) = true)
    (HI : Hid (∀ W, Calls Tryz.prog 36 #[.string x.da] W fun e w' => e = .returned (.tuple #[.agg #[.int .i64 m.ty, .int .i64 m.co, .int .i64 m.x, .int .i64 m.y, .string m.da], .int .i64 0]) ∧ Below W.heap.size W w')) :
    Calls Tryz.prog 14 #[.agg #[.int .i64 x.f, .int .i64 x.t, .int .i64 x.tl, .int .i64 x.pr, .int .i64 x.id, .int .i64 x.fg, .bool x.mo, .bool x.dn, .string x.op, .string x.da]] w fun e w' => ∃ v, e = .returned (.tuple #[.agg (Pd.v ((⟨3, FrT.zero, ArT.zero, x, m, Sg.zero⟩ : Pd)) v), .nilIface]) ∧ RgA w.heap.size w' v ((⟨3, FrT.zero, ArT.zero, x, m, Sg.zero⟩ : Pd)).sg.o.rs ∧ Below w.heap.size w w' := by
  have hb1 := bel1 w (.cells #[.int .i64 x.f, .int .i64 x.t, .int .i64 x.tl, .int .i64 x.pr, .int .i64 x.id, .int .i64 x.fg, .bool x.mo, .bool x.dn, .string x.op, .string x.da] 27)
  have hb2 := bel1 (w.alloc (.cells #[.int .i64 x.f, .int .i64 x.t, .int .i64 x.tl, .int .i64 x.pr, .int .i64 x.id, .int .i64 x.fg, .bool x.mo, .bool x.dn, .string x.op, .string x.da] 27)) (.cells #[.int .i64 0, .int .i64 0, .int .i64 0, .int .i64 0, .string ⟨#[]⟩, .int .i64 0, .int .i64 0, .int .i64 0, .int .i64 0, .int .i64 0, .int .i64 0, .int .i64 0, .int .i64 0, .int .i64 0, .int .i64 0, .int .i64 0, .bool false, .bool false, .string ⟨#[]⟩, .string ⟨#[]⟩, .int .i64 0, .int .i64 0, .int .i64 0, .int .i64 0, .string ⟨#[]⟩, .int .i64 0, .int .i64 0, .int .i64 0, .int .i64 0, .int .i64 0, .int .i64 0, .int .i64 0, .int .i64 0, .int .i64 0, .int .i64 0, .int .i64 0, .bool false, .bool false, .bool false, .slice none 0 0, .string ⟨#[]⟩] 36)
  have hA := (At.box w #[.int .i64 x.f, .int .i64 x.t, .int .i64 x.tl, .int .i64 x.pr, .int .i64 x.id, .int .i64 x.fg, .bool x.mo, .bool x.dn, .string x.op, .string x.da] 27).later hb2
  have hR : At ((w.alloc (.cells #[.int .i64 x.f, .int .i64 x.t, .int .i64 x.tl, .int .i64 x.pr, .int .i64 x.id, .int .i64 x.fg, .bool x.mo, .bool x.dn, .string x.op, .string x.da] 27)).alloc (.cells #[.int .i64 0, .int .i64 0, .int .i64 0, .int .i64 0, .string ⟨#[]⟩, .int .i64 0, .int .i64 0, .int .i64 0, .int .i64 0, .int .i64 0, .int .i64 0, .int .i64 0, .int .i64 0, .int .i64 0, .int .i64 0, .int .i64 0, .bool false, .bool false, .string ⟨#[]⟩, .string ⟨#[]⟩, .int .i64 0, .int .i64 0, .int .i64 0, .int .i64 0, .string ⟨#[]⟩, .int .i64 0, .int .i64 0, .int .i64 0, .int .i64 0, .int .i64 0, .int .i64 0, .int .i64 0, .int .i64 0, .int .i64 0, .int .i64 0, .int .i64 0, .bool false, .bool false, .bool false, .slice none 0 0, .string ⟨#[]⟩] 36)) (w.heap.size + 1) PZ := At.box2 w (.cells #[.int .i64 x.f, .int .i64 x.t, .int .i64 x.tl, .int .i64 x.pr, .int .i64 x.id, .int .i64 x.fg, .bool x.mo, .bool x.dn, .string x.op, .string x.da] 27) #[.int .i64 0, .int .i64 0, .int .i64 0, .int .i64 0, .string ⟨#[]⟩, .int .i64 0, .int .i64 0, .int .i64 0, .int .i64 0, .int .i64 0, .int .i64 0, .int .i64 0, .int .i64 0, .int .i64 0, .int .i64 0, .int .i64 0, .bool false, .bool false, .string ⟨#[]⟩, .string ⟨#[]⟩, .int .i64 0, .int .i64 0, .int .i64 0, .int .i64 0, .string ⟨#[]⟩, .int .i64 0, .int .i64 0, .int .i64 0, .int .i64 0, .int .i64 0, .int .i64 0, .int .i64 0, .int .i64 0, .int .i64 0, .int .i64 0, .int .i64 0, .bool false, .bool false, .bool false, .slice none 0 0, .string ⟨#[]⟩] 36
  have hl := bt hb1 hb2
  have hz := buildZ
  clear hb1 hb2
  go_enter Tryz.func14, Tryz.ntmps14
  go_upto_region 1 with fail
  generalize hw0 : (w.alloc (.cells #[.int .i64 x.f, .int .i64 x.t, .int .i64 x.tl, .int .i64 x.pr, .int .i64 x.id, .int .i64 x.fg, .bool x.mo, .bool x.dn, .string x.op, .string x.da] 27)).alloc (.cells #[.int .i64 0, .int .i64 0, .int .i64 0, .int .i64 0, .string ⟨#[]⟩, .int .i64 0, .int .i64 0, .int .i64 0, .int .i64 0, .int .i64 0, .int .i64 0, .int .i64 0, .int .i64 0, .int .i64 0, .int .i64 0, .int .i64 0, .bool false, .bool false, .string ⟨#[]⟩, .string ⟨#[]⟩, .int .i64 0, .int .i64 0, .int .i64 0, .int .i64 0, .string ⟨#[]⟩, .int .i64 0, .int .i64 0, .int .i64 0, .int .i64 0, .int .i64 0, .int .i64 0, .int .i64 0, .int .i64 0, .int .i64 0, .int .i64 0, .int .i64 0, .bool false, .bool false, .bool false, .slice none 0 0, .string ⟨#[]⟩] 36) = w0 at *
  clear hw0
  go_wp2_with (refine wpList_loadG 27 _ (by rfl) (by rfl) (w.heap.size) 0 (by rfl) _ _ hA.range Tryz.underlying27 rfl size27 ?_)
  refine (HC.out _).mono ?_
  rintro e w1 ⟨rfl, hb⟩
  replace hl := bt hl hb
  replace hA := hA.later hb
  replace hR := hR.later hb
  clear hb
  clear HC
  go_wp2_with (refine wpList_loadG 27 _ (by rfl) (by rfl) (w.heap.size) 0 (by rfl) _ _ hA.range Tryz.underlying27 rfl size27 ?_)
  refine (HW.out _).mono ?_
  rintro e w2 ⟨rfl, hb⟩
  replace hl := bt hl hb
  replace hA := hA.later hb
  replace hR := hR.later hb
  clear hb
  clear HW
  have c8 := (hA.2 8 _ rfl).1
  have c3 := (hA.2 3 _ rfl).1
  have c9 := (hA.2 9 _ rfl).1
  go_wp2_with fail
  refine (HI.out _).mono ?_
  rintro e w3 ⟨rfl, hb⟩
  have hbx := bel1 w3 (.cells #[.int .i64 m.ty, .int .i64 m.co, .int .i64 m.x, .int .i64 m.y, .string m.da] 29)
  have hI := At.box w3 #[.int .i64 m.ty, .int .i64 m.co, .int .i64 m.x, .int .i64 m.y, .string m.da] 29
  replace hb := bt hb hbx
  replace hl := bt hl hb
  replace hA := hA.later hb
  replace hR := hR.later hb
  clear hb HI c8 c3 c9
  go_upto_region 10 with fail
  obtain ⟨B6, hB6⟩ : ∃ B, B = w3.heap.size := ⟨_, rfl⟩
  rw [← hB6] at hI ⊢
  generalize w3.alloc (.cells #[.int .i64 m.ty, .int .i64 m.co, .int .i64 m.x, .int .i64 m.y, .string m.da] 29) = w4 at *
  clear hbx hB6
  have hb5 : ∀ W, (Instr.build 36 #[(0, .int .i64 3), (3, .agg #[.int .i64 x.f, .int .i64 x.t, .int .i64 x.tl, .int .i64 x.pr, .int .i64 x.id, .int .i64 x.fg, .bool x.mo, .bool x.dn, .string x.op, .string x.da]), (4, .agg #[.int .i64 m.ty, .int .i64 m.co, .int .i64 m.x, .int .i64 m.y, .string m.da])]).run Tryz.prog W = .ok (.agg ((⟨3, FrT.zero, ArT.zero, x, m, Sg.zero⟩ : Pd).v (.slice none 0 0))) W := fun W => run_build W 36 _ _ (by kernel_rfl)
  go_wp2_with (first | (refine wpList_loadG 27 _ (by rfl) (by rfl) (w.heap.size) 0 (by rfl) _ _ hA.range Tryz.underlying27 rfl size27 ?_) | (refine wpList_loadG 29 _ (by rfl) (by rfl) B6 0 (by rfl) _ _ hI.range Tryz.underlying29 rfl size29 ?_) | (refine wpList_store_mid (by rfl) 36 _ _ (by rfl) (w.heap.size + 1) 0 ((⟨3, FrT.zero, ArT.zero, x, m, Sg.zero⟩ : Pd).v (.slice none 0 0)) (by rfl) (by rfl) hR.there size36 (Pd.one _ rfl) ?_))
  go_wp2
  exact bodyPost_ret (v := .tuple #[.agg ((⟨3, FrT.zero, ArT.zero, x, m, Sg.zero⟩ : Pd).v (.slice none 0 0)), .nilIface]) (ret_cell41 (by rfl) (At.whole (vs := (⟨3, FrT.zero, ArT.zero, x, m, Sg.zero⟩ : Pd).v (.slice none 0 0)) hR rfl) rfl (by rfl) (by rfl)) (by rfl) ⟨_, rfl, RgA.nil _ _, Below.setCells (by omega) _ _ _ hl⟩
end Go.Proofs.YtkpdmgoldngdaaaGreatDoor
