/- the texts Vh, Vi, in part, merged by program -/
import Derived.Test.YtkpdmgoldngdaaaGreatDoorProg
import Derived.Test.YtkpdmgoldngdaaaGreatDoorRows
import Derived.Deep.RegionHeld3
import Derived.Deep.QuietTactic
import Derived.BigQuiet
import Derived.WalkSmall
import Derived.WalkKit
import Derived.WalkSpells
import Derived.RegionTactic
import Derived.Below
import Derived.Laws.Tables
import Derived.Great.BuildSlice
import Derived.Deep.RegionWith
import Derived.Laws.OwnMore
import Derived.Laws.AppendOwn
import Derived.Laws.AppendOwnNone
import Derived.Deep.LoopGhost
import Derived.Laws.StructEq
import Derived.BigRegion
import Derived.Deep.Light
import Derived.Deep.Cut
import Derived.Deep.CutRange
import Derived.Shelf.Strings.Repeat
import Derived.Deep.MidRow
import Derived.LoopN
import Derived.Test.YtkpdmgoldngdaaaGreatDoorMA01
import Derived.Test.YtkpdmgoldngdaaaGreatDoorMA02
import Derived.Test.YtkpdmgoldngdaaaGreatDoorMA03
import Derived.Test.YtkpdmgoldngdaaaGreatDoorMA04
import Derived.Test.YtkpdmgoldngdaaaGreatDoorMA05
import Derived.Test.YtkpdmgoldngdaaaGreatDoorMA06
import Derived.Test.YtkpdmgoldngdaaaGreatDoorMA07
import Derived.Test.YtkpdmgoldngdaaaGreatDoorMB01
import Derived.Test.YtkpdmgoldngdaaaGreatDoorMB02
import Derived.Test.YtkpdmgoldngdaaaGreatDoorMC01
import Derived.Test.YtkpdmgoldngdaaaGreatDoorMD01
import Derived.Test.YtkpdmgoldngdaaaGreatDoorMD02
import Derived.Test.YtkpdmgoldngdaaaGreatDoorMD03
import Derived.Test.YtkpdmgoldngdaaaGreatDoorMD04
import Derived.Test.YtkpdmgoldngdaaaGreatDoorMD05
import Derived.Test.YtkpdmgoldngdaaaGreatDoorME01
import Derived.Test.YtkpdmgoldngdaaaGreatDoorME02
import Derived.Test.YtkpdmgoldngdaaaGreatDoorMF01
import Derived.Test.YtkpdmgoldngdaaaGreatDoorMG01
import Derived.Test.YtkpdmgoldngdaaaGreatDoorMG02
import Derived.Test.YtkpdmgoldngdaaaGreatDoorMG03
import Derived.Test.YtkpdmgoldngdaaaGreatDoorMG04
import Derived.Test.YtkpdmgoldngdaaaGreatDoorMG05
import Derived.Test.YtkpdmgoldngdaaaGreatDoorMG06
import Derived.Test.YtkpdmgoldngdaaaGreatDoorMH01
import Derived.Test.YtkpdmgoldngdaaaGreatDoorMH02
import Derived.Test.YtkpdmgoldngdaaaGreatDoorMH03
import Derived.Test.YtkpdmgoldngdaaaGreatDoorMH04
import Derived.Test.YtkpdmgoldngdaaaGreatDoorMI01
import Derived.Test.YtkpdmgoldngdaaaGreatDoorMK01
import Derived.Test.YtkpdmgoldngdaaaGreatDoorML01
import Derived.Test.YtkpdmgoldngdaaaGreatDoorMM01
import Derived.Test.YtkpdmgoldngdaaaGreatDoorMN01
import Derived.Test.YtkpdmgoldngdaaaGreatDoorMN02
import Derived.Test.YtkpdmgoldngdaaaGreatDoorMO01
import Derived.Test.YtkpdmgoldngdaaaGreatDoorMO02
import Derived.Test.YtkpdmgoldngdaaaGreatDoorMO03
import Derived.Test.YtkpdmgoldngdaaaGreatDoorMP01
import Derived.Test.YtkpdmgoldngdaaaGreatDoorMP02
namespace Go.Proofs.YtkpdmgoldngdaaaGreatDoor
open Go.RowKit
set_option maxRecDepth 100000
set_option linter.unusedVariables false
set_option maxHeartbeats 4000000 in
theorem psame_s (z : Pd) (va vb : Value) (w : World) (hv : Rgs w va z.sg.o.rs) (hv' : Rgs w vb z.sg.o.rs) (hn : z.sg.o.rs.length ≤ 17592186044416) :
    Calls Tryz.prog 11 #[.agg (z.v va), .agg (z.v vb)] w fun e w' => e = .returned (.bool true) ∧ Below w.heap.size w w' := by
  have hb1 := bel1 w (.cells (z.v va) 36)
  have hb2 := bel1 (w.alloc (.cells (z.v va) 36)) (.cells (z.v vb) 36)
  have hA := (At.box w (z.v va) 36).later hb2
  have hB := At.box2 w (.cells (z.v va) 36) (z.v vb) 36
  have hl := bt hb1 hb2
  have hra := (hv.later hb1).later hb2
  have hrb := (hv'.later hb1).later hb2
  clear hv hv' hb1 hb2
  go_enter Tryz.func11, Tryz.ntmps11
  go_upto_region 1 with fail
  generalize hw0 : (w.alloc (.cells (z.v va) 36)).alloc (.cells (z.v vb) 36) = w0 at *
  clear hw0
  have q1 := eqs23 z
  have q2 := eqs25 z
  have q3 := eqs27 z
  have q4 := eqs29 z
  have ca := (hA.2 0 (.int .i64 z.k) rfl).1
  have cb := (hB.2 0 (.int .i64 z.k) rfl).1
  go_wp2_with (first
    | (refine wpList_loadG 23 _ (by rfl) (by rfl) (w.heap.size) 1 (by rfl) _ _ hA.p1 Tryz.underlying23 rfl size23 ?_)
    | (refine wpList_loadG 23 _ (by rfl) (by rfl) (w.heap.size + 1) 1 (by rfl) _ _ hB.p1 Tryz.underlying23 rfl size23 ?_)
    | (refine wpList_loadG 25 _ (by rfl) (by rfl) (w.heap.size) 5 (by rfl) _ _ hA.p5 Tryz.underlying25 rfl size25 ?_)
    | (refine wpList_loadG 25 _ (by rfl) (by rfl) (w.heap.size + 1) 5 (by rfl) _ _ hB.p5 Tryz.underlying25 rfl size25 ?_)
    | (refine wpList_loadG 27 _ (by rfl) (by rfl) (w.heap.size) 10 (by rfl) _ _ hA.p10 Tryz.underlying27 rfl size27 ?_)
    | (refine wpList_loadG 27 _ (by rfl) (by rfl) (w.heap.size + 1) 10 (by rfl) _ _ hB.p10 Tryz.underlying27 rfl size27 ?_)
    | (refine wpList_loadG 29 _ (by rfl) (by rfl) (w.heap.size) 20 (by rfl) _ _ hA.p20 Tryz.underlying29 rfl size29 ?_)
    | (refine wpList_loadG 29 _ (by rfl) (by rfl) (w.heap.size + 1) 20 (by rfl) _ _ hB.p20 Tryz.underlying29 rfl size29 ?_)
    | (refine wpList_loadG 34 _ (by rfl) (by rfl) (w.heap.size) 25 (by rfl) _ _ hA.p25 Tryz.underlying34 rfl size34 ?_)
    | (refine wpList_loadG 34 _ (by rfl) (by rfl) (w.heap.size + 1) 25 (by rfl) _ _ hB.p25 Tryz.underlying34 rfl size34 ?_))
  refine (rsame_s z.sg z.sg va vb w0 hra hrb hn hn).mono ?_
  rintro e w3 ⟨rfl, l3⟩
  go_wp2
  go_ret
  exact ⟨by rw [sameG_refl]; rfl, bt hl l3⟩
end Go.Proofs.YtkpdmgoldngdaaaGreatDoor

namespace Go.Proofs.YtkpdmgoldngdaaaGreatDoor
open Go.RowKit
set_option maxRecDepth 100000
set_option linter.unusedVariables false

def TN : Prop := (∀ W, Calls Tryz.prog 17 #[.nilIface] W fun e w' => e = .returned (.tuple #[.string ⟨#[]⟩, .int .i64 0, .bool false]) ∧ Below W.heap.size W w') ∧ (∀ W, Calls Tryz.prog 18 #[.nilIface] W fun e w' => e = .returned (.int .i64 0) ∧ Below W.heap.size W w') ∧ ∀ (d : Int) W, Calls Tryz.prog 33 #[.nilIface, .int .i64 d] W fun e w' => e = .returned (.bool false) ∧ Below W.heap.size W w'
set_option maxHeartbeats 4000000 in
theorem told_n (w : World) (HN : Hid TN) : Calls Tryz.prog 12 #[.nilIface, .agg #[.int .i64 0, .string ⟨#[]⟩, .int .i64 0]] w fun e w' => e = .returned (.bool true) ∧ Below w.heap.size w w' := by
  have hl := bel1 w (.cells #[.int .i64 0, .string ⟨#[]⟩, .int .i64 0] 43)
  have hA := At.box w #[.int .i64 0, .string ⟨#[]⟩, .int .i64 0] 43
  go_enter Tryz.func12, Tryz.ntmps12
  go_upto_region 1 with fail
  generalize hw0 : w.alloc (.cells #[.int .i64 0, .string ⟨#[]⟩, .int .i64 0] 43) = w0 at *
  clear hw0
  go_wp2_with fail
  refine (HN.out.1 _).mono ?_
  rintro e w1 ⟨rfl, hb⟩
  replace hl := bt hl hb
  replace hA := hA.later hb
  clear hb
  have c0 := (hA.2 0 _ rfl).1
  have c1 := (hA.2 1 _ rfl).1
  have c2 := (hA.2 2 _ rfl).1
  go_wp2_with fail
  refine (HN.out.2.1 _).mono ?_
  rintro e w2 ⟨rfl, hb⟩
  replace hl := bt hl hb
  clear hb c0 c1 c2 hA
  go_wp2_with fail
  refine (HN.out.2.2 _ _).mono ?_
  rintro e w3 ⟨rfl, hb⟩
  go_wp2
  go_ret
  exact ⟨rfl, bt hl hb⟩
end Go.Proofs.YtkpdmgoldngdaaaGreatDoor
