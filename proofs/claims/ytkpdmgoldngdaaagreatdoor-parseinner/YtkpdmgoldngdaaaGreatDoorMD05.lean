/- the texts Vb, in part, merged by program -/
import Derived.Test.YtkpdmgoldngdaaaGreatDoorProg
import Derived.Test.YtkpdmgoldngdaaaGreatDoorRows
import Derived.Deep.MidRow
import Derived.Deep.Cut
import Derived.WalkKit
import Derived.WalkSpells
import Derived.RegionTactic
import Derived.Below
import Derived.Laws.Tables
import Derived.Great.BuildSlice
import Derived.Laws.OwnMore
import Derived.Laws.AppendOwn
import Derived.Laws.AppendOwnNone
import Derived.Deep.LoopGhost
import Derived.Deep.RegionHeld3
import Derived.Deep.QuietTactic
import Derived.BigQuiet
import Derived.WalkSmall
import Derived.Laws.StructEq
import Derived.BigRegion
import Derived.Deep.Light
import Derived.Shelf.Strings.Repeat
import Derived.Deep.RegionWith
import Derived.LoopN
import Derived.Test.YtkpdmgoldngdaaaGreatDoorMA01
import Derived.Test.YtkpdmgoldngdaaaGreatDoorMA04
import Derived.Test.YtkpdmgoldngdaaaGreatDoorMA05
import Derived.Test.YtkpdmgoldngdaaaGreatDoorMA06
import Derived.Test.YtkpdmgoldngdaaaGreatDoorMA07
import Derived.Test.YtkpdmgoldngdaaaGreatDoorMB02
import Derived.Test.YtkpdmgoldngdaaaGreatDoorMD01
import Derived.Test.YtkpdmgoldngdaaaGreatDoorMD02
import Derived.Test.YtkpdmgoldngdaaaGreatDoorMD03
import Derived.Test.YtkpdmgoldngdaaaGreatDoorMD04
namespace Go.Proofs.YtkpdmgoldngdaaaGreatDoor
open Go.RowKit
set_option maxRecDepth 100000
set_option linter.unusedVariables false
set_option maxHeartbeats 4000000 in
theorem inn_7 (x : PkT) (s : Sg) (w : World)
    (hG : OrE w)
    (HC : Hid (∀ W, Calls Tryz.prog 34 #[.agg #[.int .i64 x.f, .int .i64 x.t, .int .i64 x.tl, .int .i64 x.pr, .int .i64 x.id, .int .i64 x.fg, .bool x.mo, .bool x.dn, .string x.op, .string x.da]] W fun e w' => e = .returned (.int .i64 0) ∧ Below W.heap.size W w'))
    (HW : Hid (∀ W, Calls Tryz.prog 35 #[.agg #[.int .i64 x.f, .int .i64 x.t, .int .i64 x.tl, .int .i64 x.pr, .int .i64 x.id, .int .i64 x.fg, .bool x.mo, .bool x.dn, .string x.op, .string x.da]] W fun e w' => e = .returned (.bool true) ∧ Below W.heap.size W w'))
    (e20 : IntKind.i64.wrap (20 + (x.op.size : Int)) = 20 + (x.op.size : Int)) (hop : x.op.size ≤ 140737488355328)
    (q1 : (x.pr == 1) = false) (q6 : (x.pr == 6) = true)
    (HS : Hid (∀ W, OrE W → Calls Tryz.prog 37 #[.int .i64 x.f, .int .i64 x.t, .string x.da] W fun e w' => ∃ v, e = .returned (.tuple #[.agg #[.int .i64 s.fr, .int .i64 s.dt, .int .i64 s.sq, .int .i64 s.ak, .int .i64 s.fl, .int .i64 s.wi, .int .i64 s.ur, .int .i64 s.o.m, .int .i64 s.o.c, .int .i64 s.o.t, .int .i64 s.o.ec, .bool s.o.sd, .bool s.o.ok, .bool s.o.sp, v, .string s.da], .int .i64 0]) ∧ RgA W.heap.size w' v s.o.rs ∧ Below W.heap.size W w')) :
    Calls Tryz.prog 14 #[.agg #[.int .i64 x.f, .int .i64 x.t, .int .i64 x.tl, .int .i64 x.pr, .int .i64 x.id, .int .i64 x.fg, .bool x.mo, .bool x.dn, .string x.op, .string x.da]] w fun e w' => ∃ v, e = .returned (.tuple #[.agg (Pd.v ((⟨4, FrT.zero, ArT.zero, x, IcT.zero, s⟩ : Pd)) v), .nilIface]) ∧ RgA w.heap.size w' v ((⟨4, FrT.zero, ArT.zero, x, IcT.zero, s⟩ : Pd)).sg.o.rs ∧ Below w.heap.size w w' := by
  have hb1 := bel1 w (.cells #[.int .i64 x.f, .int .i64 x.t, .int .i64 x.tl, .int .i64 x.pr, .int .i64 x.id, .int .i64 x.fg, .bool x.mo, .bool x.dn, .string x.op, .string x.da] 27)
  have hb2 := bel1 (w.alloc (.cells #[.int .i64 x.f, .int .i64 x.t, .int .i64 x.tl, .int .i64 x.pr, .int .i64 x.id, .int .i64 x.fg, .bool x.mo, .bool x.dn, .string x.op, .string x.da] 27)) (.cells #[.int .i64 0, .int .i64 0, .int .i64 0, .int .i64 0, .string ⟨#[]⟩, .int .i64 0, .int .i64 0, .int .i64 0, .int .i64 0, .int .i64 0, .int .i64 0, .int .i64 0, .int .i64 0, .int .i64 0, .int .i64 0, .int .i64 0, .bool false, .bool false, .string ⟨#[]⟩, .string ⟨#[]⟩, .int .i64 0, .int .i64 0, .int .i64 0, .int .i64 0, .string ⟨#[]⟩, .int .i64 0, .int .i64 0, .int .i64 0, .int .i64 0, .int .i64 0, .int .i64 0, .int .i64 0, .int .i64 0, .int .i64 0, .int .i64 0, .int .i64 0, .bool false, .bool false, .bool false, .slice none 0 0, .string ⟨#[]⟩] 36)
  have hA := (At.box w #[.int .i64 x.f, .int .i64 x.t, .int .i64 x.tl, .int .i64 x.pr, .int .i64 x.id, .int .i64 x.fg, .bool x.mo, .bool x.dn, .string x.op, .string x.da] 27).later hb2
  have hR : At ((w.alloc (.cells #[.int .i64 x.f, .int .i64 x.t, .int .i64 x.tl, .int .i64 x.pr, .int .i64 x.id, .int .i64 x.fg, .bool x.mo, .bool x.dn, .string x.op, .string x.da] 27)).alloc (.cells #[.int .i64 0, .int .i64 0, .int .i64 0, .int .i64 0, .string ⟨#[]⟩, .int .i64 0, .int .i64 0, .int .i64 0, .int .i64 0, .int .i64 0, .int .i64 0, .int .i64 0, .int .i64 0, .int .i64 0, .int .i64 0, .int .i64 0, .bool false, .bool false, .string ⟨#[]⟩, .string ⟨#[]⟩, .int .i64 0, .int .i64 0, .int .i64 0, .int .i64 0, .string ⟨#[]⟩, .int .i64 0, .int .i64 0, .int .i64 0, .int .i64 0, .int .i64 0, .int .i64 0, .int .i64 0, .int .i64 0, .int .i64 0, .int .i64 0, .int .i64 0, .bool false, .bool false, .bool false, .slice none 0 0, .string ⟨#[]⟩] 36)) (w.heap.size + 1) PZ := At.box2 w (.cells #[.int .i64 x.f, .int .i64 x.t, .int .i64 x.tl, .int .i64 x.pr, .int .i64 x.id, .int .i64 x.fg, .bool x.mo, .bool x.dn, .string x.op, .string x.da] 27) #[.int .i64 0, .int .i64 0, .int .i64 0, .int .i64 0, .string ⟨#[]⟩, .int .i64 0, .int .i64 0, .int .i64 0, .int .i64 0, .int .i64 0, .int .i64 0, .int .i64 0, .int .i64 0, .int .i64 0, .int .i64 0, .int .i64 0, .bool false, .bool false, .string ⟨#[]⟩, .string ⟨#[]⟩, .int .i64 0, .int .i64 0, .int .i64 0, .int .i64 0, .string ⟨#[]⟩, .int .i64 0, .int .i64 0, .int .i64 0, .int .i64 0, .int .i64 0, .int .i64 0, .int .i64 0, .int .i64 0, .int .i64 0, .int .i64 0, .int .i64 0, .bool false, .bool false, .bool false, .slice none 0 0, .string ⟨#[]⟩] 36
  have hl := bt hb1 hb2
  have hz := buildZ
  clear hb1 hb2
  go_enter Tryz.func14, Tryz.ntmps14
  go_upto_region 1 with fail
  generalize hw0 : (w.alloc (.cells #[.int .i64 x.f, .int .i64 x.t, .int .i64 x.tl, .int .i64 x.pr, .int .i64 x.id, .int .i64 x.fg, .bool x.mo, .bool x.dn, .string x.op, .string x.da] 27)).alloc (.cells #[.int .i64 0, .int .i64 0, .int .i64 0, .int .i64 0, .string ⟨#[]⟩, .int .i64 0, .int .i64 0, .int .i64 0, .int .i64 0, .int .i64 0, .int .i64 0, .int .i64 0, .int .i64 0, .int .i64 0, .int .i64 0, .int .i64 0, .bool false, .bool false, .string ⟨#[]⟩, .string ⟨#[]⟩, .int .i64 0, .int .i64 0, .int .i64 0, .int .i64 0, .string ⟨#[]⟩, .int .i64 0, .int .i64 0, .int .i64 0, .int .i64 0, .int .i64 0, .int .i64 0, .int .i64 0, .int .i64 0, .int .i64 0, .int .i64 0, .int .i64 0, .bool false, .bool false, .bool false, .slice none 0 0, .string ⟨#[]⟩] 36) = w0 at *
  clear hw0
  go_wp2_with (refine wpList_loadG 27 _ (by rfl) (by rfl) (w.heap.size) 0 (by rfl) _ _ hA.range Tryz.underlying27 rfl size27 ?_)
  refine (HC.out _).mono ?_
  rintro e w1 ⟨rfl, hb⟩
  replace hl := bt hl hb
  replace hA := hA.later hb
  replace hR := hR.later hb
  clear hb
  clear HC
  go_wp2_with (refine wpList_loadG 27 _ (by rfl) (by rfl) (w.heap.size) 0 (by rfl) _ _ hA.range Tryz.underlying27 rfl size27 ?_)
  refine (HW.out _).mono ?_
  rintro e w2 ⟨rfl, hb⟩
  replace hl := bt hl hb
  replace hA := hA.later hb
  replace hR := hR.later hb
  clear hb
  clear HW
  have c8 := (hA.2 8 _ rfl).1
  have c3 := (hA.2 3 _ rfl).1
  have hlt : w.heap.size + 1 < w2.heap.size := hR.1
  have c9 := (hA.2 9 _ rfl).1
  have c0 := (hA.2 0 _ rfl).1
  have c1 := (hA.2 1 _ rfl).1
  go_wp2_with fail
  refine (HS.out _ (hG.later hl)).mono ?_
  rintro e w3 ⟨v, rfl, hvr, hb⟩
  obtain ⟨a0, cap0, hve, -⟩ := id hvr
  subst hve
  have hbx := bel1 w3 (.cells #[.int .i64 s.fr, .int .i64 s.dt, .int .i64 s.sq, .int .i64 s.ak, .int .i64 s.fl, .int .i64 s.wi, .int .i64 s.ur, .int .i64 s.o.m, .int .i64 s.o.c, .int .i64 s.o.t, .int .i64 s.o.ec, .bool s.o.sd, .bool s.o.ok, .bool s.o.sp, (.slice a0 s.o.rs.length cap0), .string s.da] 34)
  have hI := At.box w3 #[.int .i64 s.fr, .int .i64 s.dt, .int .i64 s.sq, .int .i64 s.ak, .int .i64 s.fl, .int .i64 s.wi, .int .i64 s.ur, .int .i64 s.o.m, .int .i64 s.o.c, .int .i64 s.o.t, .int .i64 s.o.ec, .bool s.o.sd, .bool s.o.ok, .bool s.o.sp, (.slice a0 s.o.rs.length cap0), .string s.da] 34
  replace hb := bt hb hbx
  replace hvr := hvr.later hbx
  replace hl := bt hl hb
  replace hA := hA.later hb
  replace hR := hR.later hb
  clear hb HS c8 c3 c9 c0 c1
  go_upto_region 15 with fail
  obtain ⟨B6, hB6⟩ : ∃ B, B = w3.heap.size := ⟨_, rfl⟩
  rw [← hB6] at hI ⊢
  generalize w3.alloc (.cells #[.int .i64 s.fr, .int .i64 s.dt, .int .i64 s.sq, .int .i64 s.ak, .int .i64 s.fl, .int .i64 s.wi, .int .i64 s.ur, .int .i64 s.o.m, .int .i64 s.o.c, .int .i64 s.o.t, .int .i64 s.o.ec, .bool s.o.sd, .bool s.o.ok, .bool s.o.sp, (.slice a0 s.o.rs.length cap0), .string s.da] 34) = w4 at *
  clear hbx hB6
  have hb5 : ∀ W, (Instr.build 36 #[(0, .int .i64 4), (3, .agg #[.int .i64 x.f, .int .i64 x.t, .int .i64 x.tl, .int .i64 x.pr, .int .i64 x.id, .int .i64 x.fg, .bool x.mo, .bool x.dn, .string x.op, .string x.da]), (5, .agg #[.int .i64 s.fr, .int .i64 s.dt, .int .i64 s.sq, .int .i64 s.ak, .int .i64 s.fl, .int .i64 s.wi, .int .i64 s.ur, .int .i64 s.o.m, .int .i64 s.o.c, .int .i64 s.o.t, .int .i64 s.o.ec, .bool s.o.sd, .bool s.o.ok, .bool s.o.sp, (.slice a0 s.o.rs.length cap0), .string s.da])]).run Tryz.prog W = .ok (.agg ((⟨4, FrT.zero, ArT.zero, x, IcT.zero, s⟩ : Pd).v (.slice a0 s.o.rs.length cap0))) W := fun W => run_build W 36 _ _ (by kernel_rfl)
  go_wp2_with (first | (refine wpList_loadG 27 _ (by rfl) (by rfl) (w.heap.size) 0 (by rfl) _ _ hA.range Tryz.underlying27 rfl size27 ?_) | (refine wpList_loadG 34 _ (by rfl) (by rfl) B6 0 (by rfl) _ _ hI.range Tryz.underlying34 rfl size34 ?_) | (refine wpList_store_mid (by rfl) 36 _ _ (by rfl) (w.heap.size + 1) 0 ((⟨4, FrT.zero, ArT.zero, x, IcT.zero, s⟩ : Pd).v (.slice a0 s.o.rs.length cap0)) (by rfl) (by rfl) hR.there size36 (Pd.one _ rfl) ?_))
  go_wp2
  exact bodyPost_ret (v := .tuple #[.agg ((⟨4, FrT.zero, ArT.zero, x, IcT.zero, s⟩ : Pd).v (.slice a0 s.o.rs.length cap0)), .nilIface]) (ret_cell41 (by rfl) (At.whole (vs := (⟨4, FrT.zero, ArT.zero, x, IcT.zero, s⟩ : Pd).v (.slice a0 s.o.rs.length cap0)) hR rfl) rfl (by rfl) (by rfl)) (by rfl) ⟨_, rfl, (hvr.setCells _ _ _ hlt).mono (by omega), Below.setCells (by omega) _ _ _ hl⟩
end Go.Proofs.YtkpdmgoldngdaaaGreatDoor
