/- the texts Vh, in part, merged by program -/
import Derived.Test.YtkpdmgoldngdaaaGreatDoorProg
import Derived.Test.YtkpdmgoldngdaaaGreatDoorRows
import Derived.Deep.RegionHeld3
import Derived.Deep.QuietTactic
import Derived.BigQuiet
import Derived.WalkSmall
import Derived.WalkKit
import Derived.WalkSpells
import Derived.RegionTactic
import Derived.Below
import Derived.Laws.Tables
import Derived.Great.BuildSlice
import Derived.Deep.RegionWith
import Derived.Laws.OwnMore
import Derived.Laws.AppendOwn
import Derived.Laws.AppendOwnNone
import Derived.Deep.LoopGhost
import Derived.Laws.StructEq
import Derived.BigRegion
import Derived.Deep.Light
import Derived.Deep.Cut
import Derived.Deep.CutRange
import Derived.Shelf.Strings.Repeat
import Derived.Deep.MidRow
import Derived.LoopN
import Derived.Test.YtkpdmgoldngdaaaGreatDoorMA01
import Derived.Test.YtkpdmgoldngdaaaGreatDoorMA02
import Derived.Test.YtkpdmgoldngdaaaGreatDoorMA03
import Derived.Test.YtkpdmgoldngdaaaGreatDoorMA04
import Derived.Test.YtkpdmgoldngdaaaGreatDoorMA05
import Derived.Test.YtkpdmgoldngdaaaGreatDoorMA06
import Derived.Test.YtkpdmgoldngdaaaGreatDoorMA07
import Derived.Test.YtkpdmgoldngdaaaGreatDoorMB01
import Derived.Test.YtkpdmgoldngdaaaGreatDoorMB02
namespace Go.Proofs.YtkpdmgoldngdaaaGreatDoor
open Go.RowKit
set_option maxRecDepth 100000
set_option linter.unusedVariables false

theorem At.sub {W : World} {b : Nat} {vs : Array Value} (h : At W b vs) (o n : Nat) : W.rangeAt b o ((vs.toList.drop o).take n) := fun i u hi => by
  rw [List.getElem?_take] at hi
  split at hi
  · rw [List.getElem?_drop] at hi
    exact (h.2 (o + i) u (by simpa using hi)).1
  · cases hi
theorem At.p1 {W : World} {b : Nat} {z : Pd} {v : Value} (h : At W b (z.v v)) : W.rangeAt b 1 [.int .i64 z.fr.a, .int .i64 z.fr.b, .int .i64 z.fr.k, .string z.fr.d] := h.sub 1 4
theorem At.p10 {W : World} {b : Nat} {z : Pd} {v : Value} (h : At W b (z.v v)) : W.rangeAt b 10 [.int .i64 z.pk.f, .int .i64 z.pk.t, .int .i64 z.pk.tl, .int .i64 z.pk.pr, .int .i64 z.pk.id, .int .i64 z.pk.fg, .bool z.pk.mo, .bool z.pk.dn, .string z.pk.op, .string z.pk.da] := h.sub 10 10
theorem eqs23 (z : Pd) (W : World) : (binOp .eql 23 (.agg #[.int .i64 z.fr.a, .int .i64 z.fr.b, .int .i64 z.fr.k, .string z.fr.d]) (.agg #[.int .i64 z.fr.a, .int .i64 z.fr.b, .int .i64 z.fr.k, .string z.fr.d])).run Tryz.prog W = .ok (.bool true) W := by
  simp [go_sem, Tryz.underlying23]
end Go.Proofs.YtkpdmgoldngdaaaGreatDoor
