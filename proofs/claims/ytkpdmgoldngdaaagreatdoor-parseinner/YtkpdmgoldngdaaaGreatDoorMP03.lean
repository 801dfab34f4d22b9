/- the texts Xi, in part, merged by program -/
import Derived.Test.YtkpdmgoldngdaaaGreatDoorProg
import Derived.Test.YtkpdmgoldngdaaaGreatDoorRows
import Derived.Deep.QuietTactic
import Derived.WalkKit
import Derived.WalkSpells
import Derived.RegionTactic
import Derived.Below
import Derived.Laws.Tables
import Derived.Great.BuildSlice
import Derived.Laws.OwnMore
import Derived.Laws.AppendOwn
import Derived.Laws.AppendOwnNone
import Derived.Deep.LoopGhost
import Derived.Deep.RegionHeld3
import Derived.BigQuiet
import Derived.WalkSmall
import Derived.Laws.StructEq
import Derived.Shelf.Strings.Repeat
import Derived.LaidEql
import Derived.Stop.Asserts
import Derived.RowKitTokens
import Derived.Recover
import Derived.RangeFuncBox
import Derived.OwnWalkIn
import Derived.TacticsInMore
import Derived.LoopNIn
import Derived.LoopIn
import Derived.Maps.AppendAt
import Derived.Shelf.RegionOpen
import Derived.Deep.Light
import Derived.OrdersIn
import Derived.RangeFuncCalls
import Derived.RangeFuncNested
import Derived.RangeFuncLeaves
import Derived.Shelf.Abstract
import Derived.Test.YtkpdmgoldngdaaaGreatDoorMA01
import Derived.Test.YtkpdmgoldngdaaaGreatDoorMA04
import Derived.Test.YtkpdmgoldngdaaaGreatDoorMA06
import Derived.Test.YtkpdmgoldngdaaaGreatDoorMD01
import Derived.Test.YtkpdmgoldngdaaaGreatDoorMD02
import Derived.Test.YtkpdmgoldngdaaaGreatDoorMG01
import Derived.Test.YtkpdmgoldngdaaaGreatDoorMG03
import Derived.Test.YtkpdmgoldngdaaaGreatDoorMH01
import Derived.Test.YtkpdmgoldngdaaaGreatDoorMH02
import Derived.Test.YtkpdmgoldngdaaaGreatDoorMO01
import Derived.Test.YtkpdmgoldngdaaaGreatDoorMP01
namespace Go.Proofs.YtkpdmgoldngdaaaGreatDoor
open Go.RowKit
set_option maxRecDepth 100000
set_option linter.unusedVariables false
set_option linter.unusedSimpArgs false
set_option maxHeartbeats 1000000 in
theorem code_nil (w : World)  : Calls Tryz.prog 18 #[.nilIface] w fun e w' => e = .returned (.int .i64 0) ∧ Below w.heap.size w w' := by
  go_enter Tryz.func18, Tryz.ntmps18
  go_wp2
  go_ret
  exact ⟨rfl, Below.refl _ _⟩
set_option maxHeartbeats 1000000 in
theorem is_nil (d : Int) (w : World)  : Calls Tryz.prog 33 #[.nilIface, .int .i64 d] w fun e w' => e = .returned (.bool false) ∧ Below w.heap.size w w' := by
  go_enter Tryz.func33, Tryz.ntmps33
  go_wp2
  go_ret
  exact ⟨rfl, Below.refl _ _⟩
set_option maxHeartbeats 2000000 in
theorem where_nil (w : World)  : Calls Tryz.prog 17 #[.nilIface] w fun e w' => e = .returned (.tuple #[.string ⟨#[]⟩, .int .i64 0, .bool false]) ∧ Below w.heap.size w w' := by
  go_enter Tryz.func17, Tryz.ntmps17
  go_wp2_with fail
  refine (out_nil w).mono ?_
  rintro e w1 ⟨rfl, hb⟩
  go_wp2
  go_ret3
  exact ⟨rfl, hb⟩
end Go.Proofs.YtkpdmgoldngdaaaGreatDoor
