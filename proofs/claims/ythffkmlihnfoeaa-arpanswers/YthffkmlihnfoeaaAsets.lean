/- Small laws: a boxed struct whose cells are stored anew, and another one meanwhile. -/
import Derived.Test.YthffkmlihnfoeaaAcalls
namespace Go.Proofs.Ythffkmlihnfoeaa
open Go.RowKit

theorem At.set {W : World} {b : Nat} {vs : Array Value} (h : At W b vs) (i : Nat) (u : Value) : At (W.setCell ⟨b, i, none⟩ u) b (vs.setIfInBounds i u) := by
  refine ⟨by rw [World.size_setCell]; exact h.1, fun j v hj => ?_⟩
  rw [World.frozen?_setCell]
  rw [Array.getElem?_setIfInBounds] at hj
  by_cases e : i = j
  · subst e
    rw [if_pos rfl] at hj
    by_cases l : i < vs.size
    · rw [if_pos l] at hj
      cases hj
      obtain ⟨c, f⟩ := h.2 i vs[i] (Array.getElem?_eq_getElem l)
      exact ⟨World.cell?_setCell_same _ _ _ c, f⟩
    · rw [if_neg l] at hj
      cases hj
  · rw [if_neg e] at hj
    obtain ⟨c, f⟩ := h.2 j v hj
    exact ⟨(World.cell?_setCell_other _ _ _ _ (by intro q; cases q; exact e rfl)).trans c, f⟩
theorem At.keep {W : World} {b c : Nat} {vs : Array Value} (h : At W c vs) (hne : b ≠ c) (i : Nat) (u : Value) : At (W.setCell ⟨b, i, none⟩ u) c vs := by
  refine ⟨by rw [World.size_setCell]; exact h.1, fun j v hj => ?_⟩
  rw [World.frozen?_setCell]
  obtain ⟨k, f⟩ := h.2 j v hj
  exact ⟨(World.cell?_setCell_other _ _ _ _ (by intro q; cases q; exact hne rfl)).trans k, f⟩
theorem At.set5 {W : World} {b : Nat} {v0 v1 v2 v3 v4 : Value} (h : At W b #[v0, v1, v2, v3, v4]) (u0 u1 u2 u3 u4 : Value) : At (((((W.setCell ⟨b, 0, none⟩ u0).setCell ⟨b, 1, none⟩ u1).setCell ⟨b, 2, none⟩ u2).setCell ⟨b, 3, none⟩ u3).setCell ⟨b, 4, none⟩ u4) b #[u0, u1, u2, u3, u4] :=
  ((((h.set 0 u0).set 1 u1).set 2 u2).set 3 u3).set 4 u4
theorem At.keep5 {W : World} {b c : Nat} {vs : Array Value} (h : At W c vs) (hne : b ≠ c) (u0 u1 u2 u3 u4 : Value) : At (((((W.setCell ⟨b, 0, none⟩ u0).setCell ⟨b, 1, none⟩ u1).setCell ⟨b, 2, none⟩ u2).setCell ⟨b, 3, none⟩ u3).setCell ⟨b, 4, none⟩ u4) c vs :=
  ((((h.keep hne 0 u0).keep hne 1 u1).keep hne 2 u2).keep hne 3 u3).keep hne 4 u4
theorem btS {w W X : World} (h : Below w.heap.size w W) (hb : Below W.heap.size W X) : Below w.heap.size w X := bt h hb
end Go.Proofs.Ythffkmlihnfoeaa
