/- A list of acts that came in. -/
import Derived.Test.YtlbdecjppgjdiaaFlat
import Derived.Test.YtlbdecjppgjdiaaFlatx
import Derived.Test.YtlbdecjppgjdiaaDTk
namespace Go.Proofs.Ytlbdecjppgjdiaa
open Go.RowKit Go.Maps Go.Lib
set_option maxRecDepth 100000
set_option linter.unusedVariables false
set_option linter.unusedSimpArgs false


open Go.ChangeShapes Go.WideShapes Go.ChangeAt
/-- A list of ranges that came in. -/
def RI (w : World) (v : Value) : Prop := ∃ a n c, v = .slice a n c ∧ Flat.Rows w a n 2 [.i, .i] ∧ n * 16 ≤ 140737488351232 ∧ (a = none → c = 0)
def XR (w : World) (t : TypeId) (v : Value) : Prop := t = 31 → RI w v
theorem kindsR : Flat.kindsOf Try.prog 3 60 = some [.i, .i] := by kernel_rfl
theorem kindsA : Flatx.kindsOf Try.prog 3 33 = some [.i, .i, .i, .s, .x 31, .b] := by kernel_rfl
theorem cellsR : Try.prog.cellsOf 60 = 2 := by kernel_rfl
theorem bytesR : Try.prog.bytesOf 60 = 16 := by kernel_rfl
theorem cellsA : Try.prog.cellsOf 33 = 6 := by kernel_rfl
section
variable {H : Type} {enc : TypeId × Value → H} {w : World} {base : Nat} {spare : Nat → Bool} {held : Bool}
theorem xr_open (fuel : Nat) (t e : TypeId) (v : Value) (x : DataW H × List MemPlace) (ht : Try.prog.underlying t = some (.slice e)) (h : DataW.trod enc Try.prog w base spare held fuel t [v] = some x) (hw : (x.1.weights Try.prog t).all (· ≤ reachBytes) = true) : XR w t v := by
  intro e0
  subst e0
  have hee : e = 60 := by
    rw [Try.underlying31] at ht
    cases ht
    rfl
  subst hee
  obtain ⟨a, n, c, rfl, hn⟩ : ∃ a n c, v = .slice a n c ∧ (a = none → c = 0) := by
    rcases Go.Deep.open_slice ht h with ⟨hcs, hx⟩ | ⟨y, l, c, m, f, D, Pl, hcs, -⟩
    · simp at hcs
      exact ⟨_, _, _, hcs, fun _ => rfl⟩
    · simp at hcs
      exact ⟨_, _, _, hcs, fun e => by cases e⟩
  obtain ⟨h1, h2⟩ := Flat.rows_open (P := Try.prog) (n := 3) (ks := [.i, .i]) rfl ht kindsR (by simp) cellsR h hw
  rw [bytesR] at h2
  exact ⟨a, n, c, rfl, h1, h2, hn⟩
end
end Go.Proofs.Ytlbdecjppgjdiaa
