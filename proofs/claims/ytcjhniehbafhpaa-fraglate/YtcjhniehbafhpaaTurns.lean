/- The contracts of Turn and Pseudo, of package sum and of the document: each returns just the values named here; nothing that was there turns. -/
import Derived.Test.YtcjhniehbafhpaaSums
namespace Go.Proofs.Ytcjhniehbafhpaa
open Go.RowKit
set_option maxRecDepth 100000

theorem out_cases (n a b : Int) : (outB n a b = true ∧ (n < a ∨ b < n)) ∨ (outB n a b = false ∧ a ≤ n ∧ n ≤ b) := by
  unfold outB
  by_cases h : n < a ∨ b < n
  · left; exact ⟨decide_eq_true h, h⟩
  · right; exact ⟨decide_eq_false h, by omega⟩

end Go.Proofs.Ytcjhniehbafhpaa
