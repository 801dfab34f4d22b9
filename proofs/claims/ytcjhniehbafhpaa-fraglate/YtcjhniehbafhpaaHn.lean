/- slices.SortFunc over no parts. -/
import Derived.Shelf.SlSortCmp.NoneTotal
import Derived.Test.YtcjhniehbafhpaaHa
namespace Go.Proofs.Ytcjhniehbafhpaa
open Go.Shelf Go.RowKit Go.Lib Go.Sort
set_option maxRecDepth 100000

theorem sort_none (p : Option Addr) (cap : Nat) (w : World) : Calls Try.prog 33 #[.slice p 0 cap, .func (.func 34) #[] #[]] w fun e w' => e = .returned (.tuple #[]) ∧ w' = w := by
  have hcon := AnyF.slices_SortFunc_none (P := Try.prog) (ρ := sortRen) sortLay p cap (.func (.func 34) #[] #[]) w
  change Calls Try.prog 33 _ _ _ at hcon
  exact hcon
end Go.Proofs.Ytcjhniehbafhpaa
