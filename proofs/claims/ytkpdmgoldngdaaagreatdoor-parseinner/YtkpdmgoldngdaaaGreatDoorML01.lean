/- the texts Vh, in part, merged by program -/
import Derived.Test.YtkpdmgoldngdaaaGreatDoorProg
import Derived.Test.YtkpdmgoldngdaaaGreatDoorRows
import Derived.Deep.RegionHeld3
import Derived.Deep.QuietTactic
import Derived.BigQuiet
import Derived.WalkSmall
import Derived.WalkKit
import Derived.WalkSpells
import Derived.RegionTactic
import Derived.Below
import Derived.Laws.Tables
import Derived.Great.BuildSlice
import Derived.Deep.RegionWith
import Derived.Laws.OwnMore
import Derived.Laws.AppendOwn
import Derived.Laws.AppendOwnNone
import Derived.Deep.LoopGhost
import Derived.Laws.StructEq
import Derived.BigRegion
import Derived.Deep.Light
import Derived.Deep.Cut
import Derived.Deep.CutRange
import Derived.Shelf.Strings.Repeat
import Derived.Deep.MidRow
import Derived.LoopN
import Derived.Test.YtkpdmgoldngdaaaGreatDoorMA01
import Derived.Test.YtkpdmgoldngdaaaGreatDoorMA02
import Derived.Test.YtkpdmgoldngdaaaGreatDoorMA03
import Derived.Test.YtkpdmgoldngdaaaGreatDoorMA04
import Derived.Test.YtkpdmgoldngdaaaGreatDoorMA05
import Derived.Test.YtkpdmgoldngdaaaGreatDoorMA06
import Derived.Test.YtkpdmgoldngdaaaGreatDoorMA07
import Derived.Test.YtkpdmgoldngdaaaGreatDoorMB01
import Derived.Test.YtkpdmgoldngdaaaGreatDoorMB02
import Derived.Test.YtkpdmgoldngdaaaGreatDoorMC01
import Derived.Test.YtkpdmgoldngdaaaGreatDoorMD01
import Derived.Test.YtkpdmgoldngdaaaGreatDoorMD02
import Derived.Test.YtkpdmgoldngdaaaGreatDoorMD03
import Derived.Test.YtkpdmgoldngdaaaGreatDoorMD04
import Derived.Test.YtkpdmgoldngdaaaGreatDoorMD05
import Derived.Test.YtkpdmgoldngdaaaGreatDoorME01
import Derived.Test.YtkpdmgoldngdaaaGreatDoorME02
import Derived.Test.YtkpdmgoldngdaaaGreatDoorMF01
import Derived.Test.YtkpdmgoldngdaaaGreatDoorMG01
import Derived.Test.YtkpdmgoldngdaaaGreatDoorMG02
import Derived.Test.YtkpdmgoldngdaaaGreatDoorMG03
import Derived.Test.YtkpdmgoldngdaaaGreatDoorMG04
import Derived.Test.YtkpdmgoldngdaaaGreatDoorMG05
import Derived.Test.YtkpdmgoldngdaaaGreatDoorMG06
import Derived.Test.YtkpdmgoldngdaaaGreatDoorMH01
import Derived.Test.YtkpdmgoldngdaaaGreatDoorMH02
import Derived.Test.YtkpdmgoldngdaaaGreatDoorMH03
import Derived.Test.YtkpdmgoldngdaaaGreatDoorMH04
import Derived.Test.YtkpdmgoldngdaaaGreatDoorMI01
import Derived.Test.YtkpdmgoldngdaaaGreatDoorMK01
namespace Go.Proofs.YtkpdmgoldngdaaaGreatDoor
open Go.RowKit
set_option maxRecDepth 100000
set_option linter.unusedVariables false
theorem At.p5 {W : World} {b : Nat} {z : Pd} {v : Value} (h : At W b (z.v v)) : W.rangeAt b 5 [.int .i64 z.ar.o, .int .i64 z.ar.fm, .int .i64 z.ar.fi, .int .i64 z.ar.tm, .int .i64 z.ar.ti] := h.sub 5 5
theorem eqs25 (z : Pd) (W : World) : (binOp .eql 25 (.agg #[.int .i64 z.ar.o, .int .i64 z.ar.fm, .int .i64 z.ar.fi, .int .i64 z.ar.tm, .int .i64 z.ar.ti]) (.agg #[.int .i64 z.ar.o, .int .i64 z.ar.fm, .int .i64 z.ar.fi, .int .i64 z.ar.tm, .int .i64 z.ar.ti])).run Tryz.prog W = .ok (.bool true) W := by
  simp [go_sem, Tryz.underlying25]
end Go.Proofs.YtkpdmgoldngdaaaGreatDoor
