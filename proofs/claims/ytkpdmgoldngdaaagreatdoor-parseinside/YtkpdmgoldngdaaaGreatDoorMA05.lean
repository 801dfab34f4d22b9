/- the texts Sa, Sc, Tg, in part, merged by program -/
import Derived.Test.YtkpdmgoldngdaaaGreatDoorProg
import Derived.Test.YtkpdmgoldngdaaaGreatDoorRows
import Derived.Deep.MidRow
import Derived.WalkKit
import Derived.WalkSpells
import Derived.RegionTactic
import Derived.Below
import Derived.Laws.OwnMore
import Derived.Laws.AppendOwn
import Derived.Laws.AppendOwnNone
import Derived.Deep.LoopGhost
import Derived.Deep.RegionHeld3
import Derived.Deep.QuietTactic
import Derived.BigQuiet
import Derived.WalkSmall
import Derived.Laws.StructEq
import Derived.Shelf.Strings.Repeat
import Derived.Deep.RegionWith
import Derived.LoopN
import Derived.Deep.Cut
import Derived.Laws.Tables
import Derived.Great.BuildSlice
import Derived.BigRegion
import Derived.Deep.Light
import Derived.Test.YtkpdmgoldngdaaaGreatDoorMA01
import Derived.Test.YtkpdmgoldngdaaaGreatDoorMA04
namespace Go.Proofs.YtkpdmgoldngdaaaGreatDoor
open Go.RowKit
set_option maxRecDepth 100000
set_option linter.unusedVariables false

structure Sg where
  fr : Int
  dt : Int
  sq : Int
  ak : Int
  fl : Int
  wi : Int
  ur : Int
  o : Op
  da : ByteArray
theorem At.range {W : World} {b : Nat} {vs : Array Value} (h : At W b vs) : W.rangeAt b 0 vs.toList := fun j v hv => by rw [Nat.zero_add]; exact (h.2 j v (by simpa using hv)).1
theorem wpList_loadG {P : Program} {ops : Array Oper} {rest : List Oper} {op : Oper} {a : Act} {w : World} {Q : Exit → Act → World → Prop} (ty : TypeId) (x : Operand) (ho : op.op = .load ty x) (hw : Region.wanted op (yielded ops a.tmps) = true)
    (b o : Nat) (hx : a.eval x = .pointer (some ⟨b, o, none⟩)) (cs : List Value) (d : TypeDesc) (hc : w.rangeAt b o cs)
    (hu : P.underlying ty = some d) (hd : d.isRow = true) (hi : (P.info? ty).map (·.size) = some cs.length)
    (h : wpList P ops Q rest (a.put op.dst (.agg cs.toArray)) w) : wpList P ops Q (op :: rest) a w :=
  wpList_step fun K hK => by rw [if_pos hw]; exact wp_load_mid ty x ho b o hx cs d hc hu hd hi (hK _ _ h)
end Go.Proofs.YtkpdmgoldngdaaaGreatDoor

namespace Go.Proofs.YtkpdmgoldngdaaaGreatDoor
open Go.RowKit
set_option maxRecDepth 100000
set_option linter.unusedVariables false

theorem Below.setCells {B : Nat} {w0 : World} {b : Nat} (hb : B ≤ b) : ∀ (vs : List Value) (o : Nat) (w : World), Below B w0 w → Below B w0 (w.setCells b o vs)
  | [], _, _, h => h
  | v :: vs, o, w, h => by
    rw [World.setCells]
    exact Below.setCells hb vs (o + 1) _ (h.setCell (p := ⟨b, o, none⟩) hb v)
theorem size_setCells (b : Nat) : ∀ (vs : List Value) (o : Nat) (w : World), (w.setCells b o vs).heap.size = w.heap.size
  | [], _, _ => rfl
  | v :: vs, o, w => by rw [World.setCells, size_setCells b vs (o + 1) _, World.size_setCell]
theorem At.there {W : World} {b : Nat} {vs : Array Value} (h : At W b vs) : W.there b 0 vs.size := fun j hj => by
  obtain ⟨c, f⟩ := h.2 j vs[j] (Array.getElem?_eq_getElem hj)
  rw [Nat.zero_add]
  exact ⟨by rw [c]; rfl, f⟩
theorem At.whole {W : World} {b : Nat} {old vs : Array Value} (h : At W b old) (hs : old.size = vs.size) : At (W.setCells b 0 vs.toList) b vs := by
  refine ⟨by rw [size_setCells]; exact h.1, fun i v hi => ⟨?_, ?_⟩⟩
  · have hr := World.rangeAt_setCells_same W b 0 vs.toList (by rw [show vs.toList.length = old.size by rw [hs]; simp]; exact h.there)
    have := hr i v (by simpa using hi)
    rwa [Nat.zero_add] at this
  · rw [World.frozen?_setCells]
    have hlt : i < old.size := by rw [hs]; exact (Array.getElem?_eq_some_iff.1 hi).1
    exact (h.2 i old[i] (Array.getElem?_eq_getElem hlt)).2
theorem At.apart {W : World} {b c : Nat} {vs : Array Value} (h : At W c vs) (hne : b ≠ c) (o : Nat) (us : List Value) : At (W.setCells b o us) c vs := by
  refine ⟨by rw [size_setCells]; exact h.1, fun i v hi => ⟨?_, ?_⟩⟩
  · rw [World.cell?_setCells_out b us o W ⟨c, i, none⟩ (fun e _ => absurd e.symm hne)]
    exact (h.2 i v hi).1
  · rw [World.frozen?_setCells]; exact (h.2 i v hi).2
end Go.Proofs.YtkpdmgoldngdaaaGreatDoor

namespace Go.Proofs.YtkpdmgoldngdaaaGreatDoor
open Go.RowKit
set_option maxRecDepth 100000
set_option linter.unusedVariables false
def RgA (base : Nat) (W : World) (v : Value) (rs : List (Int × Int)) : Prop :=
  ∃ (a : Option Addr) (cap : Nat), v = .slice a rs.length cap ∧ (rs.length ≤ cap ∧ (a = none → cap = 0)) ∧ (rs = [] ∨ ∃ b off, base ≤ b ∧ a = some ⟨b, off, none⟩ ∧ ∀ j r, rs[j]? = some r → W.cell? ⟨b, off + j * 2, none⟩ = some (.int .i64 r.1) ∧ W.cell? ⟨b, off + j * 2 + 1, none⟩ = some (.int .i64 r.2))
theorem RgA.later {base : Nat} {w x : World} {v : Value} {rs : List (Int × Int)} (h : RgA base w v rs) (hb : Below w.heap.size w x) : RgA base x v rs := by
  obtain ⟨a, cap, hv, hc, h⟩ := h
  refine ⟨a, cap, hv, hc, ?_⟩
  rcases h with h | ⟨b, off, hbb, ha, hx⟩
  · exact .inl h
  · exact .inr ⟨b, off, hbb, ha, fun j r hr => ⟨YtkpdmgoldngdaaaGreatDoor.later hb (hx j r hr).1, YtkpdmgoldngdaaaGreatDoor.later hb (hx j r hr).2⟩⟩
theorem RgA.setCells {base : Nat} {w : World} {v : Value} {rs : List (Int × Int)} (h : RgA base w v rs) (c i : Nat) (us : List Value) (hc : c < base) : RgA base (w.setCells c i us) v rs := by
  obtain ⟨a, cap, hv, hcc, h⟩ := h
  refine ⟨a, cap, hv, hcc, ?_⟩
  rcases h with h | ⟨b, off, hbb, ha, hx⟩
  · exact .inl h
  · exact .inr ⟨b, off, hbb, ha, fun j r hr => ⟨(World.cell?_setCells_out c us i w ⟨b, off + j * 2, none⟩ (fun e _ => absurd e (by show ¬ b = c; omega))).trans (hx j r hr).1, (World.cell?_setCells_out c us i w ⟨b, off + j * 2 + 1, none⟩ (fun e _ => absurd e (by show ¬ b = c; omega))).trans (hx j r hr).2⟩⟩
theorem RgA.mono {base base' : Nat} {w : World} {v : Value} {rs : List (Int × Int)} (h : RgA base w v rs) (hb : base' ≤ base) : RgA base' w v rs := by
  obtain ⟨a, cap, hv, hcc, h⟩ := h
  refine ⟨a, cap, hv, hcc, ?_⟩
  rcases h with h | ⟨b, off, hbb, ha, hx⟩
  · exact .inl h
  · exact .inr ⟨b, off, by omega, ha, hx⟩
end Go.Proofs.YtkpdmgoldngdaaaGreatDoor
