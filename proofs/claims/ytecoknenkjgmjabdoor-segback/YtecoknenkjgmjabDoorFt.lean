/- How two addresses that came in are opened. Conditions: none of our own. -/
import Derived.Test.YtecoknenkjgmjabDoorFs
namespace Go.Proofs.YtecoknenkjgmjabDoor
open Go.ChangeShapes Go.WideShapes Go.ChangeAt Go.RowKit
set_option maxRecDepth 100000
set_option linter.unusedVariables false

theorem cells23 : Tryd.prog.cellsOf 23 = 2 := by kernel_rfl
theorem open23 {H : Type} {enc : TypeId × Value → H} {w : World} {base : Nat} {spare : Nat → Bool} {held : Bool} {r : Reach} {b0 : Nat} {v : Value} {d : DataW H} {p : List MemPlace} (hv : Value.okWide Tryd.prog w r b0 23 v) (h : DataW.Trod enc Tryd.prog w base spare held 23 v d p) :
    ∃ (f0 f1 : Int), v = .agg #[.int .i64 f0, .int .i64 f1] ∧ (Lit.int .i64 f0).wf = true ∧ (Lit.int .i64 f1).wf = true := by
  obtain ⟨⟨l⟩, rfl, hsz⟩ := okWide_struct Tryd.underlying23 hv
  obtain ⟨fuel, hf⟩ := h
  obtain ⟨xs, n, _, hx, hl, hlen, hfs⟩ := DataW.trod_struct Tryd.underlying23 hf
  have hz' : l.length = 2 := by rw [cells23] at hsz; simpa using hsz
  have hlen' : xs.length = 2 := hlen
  match l, hz' with
  | [c0, c1], _ =>
    have t0 : DataW.trod enc Tryd.prog w base spare held n 3 ((([c0, c1] : List Value).drop 0).take (Tryd.prog.cellsOf 3)) = xs[0]? := hfs 0 _ rfl
    rw [cells3, List.getElem?_eq_getElem (by omega)] at t0
    have t0' : DataW.trod enc Tryd.prog w base spare held n 3 [c0] = some xs[0] := t0
    obtain ⟨f0, q0, -, g0⟩ := DataW.trod_int Tryd.underlying3 t0'
    have e0 : c0 = .int .i64 f0 := by simpa using q0
    subst e0
    have t1 : DataW.trod enc Tryd.prog w base spare held n 3 ((([.int .i64 f0, c1] : List Value).drop 1).take (Tryd.prog.cellsOf 3)) = xs[1]? := hfs 1 _ rfl
    rw [cells3, List.getElem?_eq_getElem (by omega)] at t1
    have t1' : DataW.trod enc Tryd.prog w base spare held n 3 [c1] = some xs[1] := t1
    obtain ⟨f1, q1, -, g1⟩ := DataW.trod_int Tryd.underlying3 t1'
    have e1 : c1 = .int .i64 f1 := by simpa using q1
    subst e1
    exact ⟨f0, f1, rfl, g0, g1⟩
end Go.Proofs.YtecoknenkjgmjabDoor
