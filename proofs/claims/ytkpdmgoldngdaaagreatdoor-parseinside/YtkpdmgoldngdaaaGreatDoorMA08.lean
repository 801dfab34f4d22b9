/- the texts Xk, in part, merged by program -/
import Derived.Test.YtkpdmgoldngdaaaGreatDoorProg
import Derived.Test.YtkpdmgoldngdaaaGreatDoorRows
import Derived.Deep.RegionHeld3
import Derived.Deep.QuietTactic
import Derived.BigQuiet
import Derived.WalkSmall
import Derived.WalkKit
import Derived.WalkSpells
import Derived.RegionTactic
import Derived.Below
import Derived.Laws.Tables
import Derived.Great.BuildSlice
import Derived.Deep.RegionWith
import Derived.Laws.OwnMore
import Derived.Laws.AppendOwn
import Derived.Laws.AppendOwnNone
import Derived.Deep.LoopGhost
import Derived.Laws.StructEq
import Derived.BigRegion
import Derived.Deep.Light
import Derived.Deep.Cut
import Derived.Deep.CutRange
import Derived.Shelf.Strings.Repeat
import Derived.Deep.MidRow
import Derived.LoopN
import Derived.LaidEql
import Derived.Stop.Asserts
import Derived.RowKitTokens
import Derived.Recover
import Derived.RangeFuncBox
import Derived.OwnWalkIn
import Derived.TacticsInMore
import Derived.LoopNIn
import Derived.LoopIn
import Derived.Maps.AppendAt
import Derived.Shelf.RegionOpen
import Derived.OrdersIn
import Derived.RangeFuncCalls
import Derived.RangeFuncNested
import Derived.RangeFuncLeaves
import Derived.Shelf.Abstract
import Derived.Test.YtkpdmgoldngdaaaGreatDoorMA01
import Derived.Test.YtkpdmgoldngdaaaGreatDoorMA02
import Derived.Test.YtkpdmgoldngdaaaGreatDoorMA03
import Derived.Test.YtkpdmgoldngdaaaGreatDoorMA04
import Derived.Test.YtkpdmgoldngdaaaGreatDoorMA05
import Derived.Test.YtkpdmgoldngdaaaGreatDoorMA06
import Derived.Test.YtkpdmgoldngdaaaGreatDoorMA07
namespace Go.Proofs.YtkpdmgoldngdaaaGreatDoor
open Go.RowKit
set_option linter.unusedVariables false
theorem shNil : ShNil := fun b W => shift_nil b W
theorem shFail (b : Int) (h0 : -1000 < b) (h1 : b < 1000) : ShFail b := fun W p l a c hG ha0 ha1 hA => shift_fail p l a c b W hG.2 hA ha0 ha1 h0 h1
theorem tA : TA := fun W p l a c hG hA W' hW => ⟨where_fail p l a c W' (hG.2.later hW) (hA.later hW), code_fail p l a c W' (hG.2.later hW) (hA.later hW), fun d => is_fail p l a c d W' (hG.2.later hW) (hA.later hW)⟩
end Go.Proofs.YtkpdmgoldngdaaaGreatDoor
