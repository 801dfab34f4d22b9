/- The contracts of Seal, of package sum and of the document: each returns just the values named here; nothing that was there turns. -/
import Derived.Test.YtcjhniehbafhpaaTurns
import Derived.Deep.QuietTactic
import Derived.BigQuiet
import Derived.Deep.RegionWith
namespace Go.Proofs.Ytcjhniehbafhpaa
open Go.RowKit
set_option maxRecDepth 100000

theorem below_drewN' {B : Nat} {a w : World} (h : Below B a w) (n : Nat) : Below B a (w.drewN n) := h.trans ⟨rfl, rfl, rfl, Nat.le_refl _, fun _ _ => rfl⟩

theorem cells_two (W : World) (A B : ByteArray) : ∀ j, j < [A, B].length → (W.alloc (.cells #[.string A, .string B] 9)).cell? ⟨W.heap.size, 0 + j, none⟩ = some (.string ([A, B].getD j ByteArray.empty)) := by
  intro j hj
  simp at hj
  obtain rfl | rfl : j = 0 ∨ j = 1 := by omega
  · simp
  · simp

/-! ### The wrong places, and too many bytes -/
theorem place_t {z : Nat} {o : Int} (h : 0 ≤ o ∧ o % 2 = 0 ∧ o ≤ (z : Int) - 2) : placeB z o = true := decide_eq_true h
theorem place_f {z : Nat} {o : Int} (h : ¬ (0 ≤ o ∧ o % 2 = 0 ∧ o ≤ (z : Int) - 2)) : placeB z o = false := decide_eq_false h

end Go.Proofs.Ytcjhniehbafhpaa
