/- the texts Of, in part, merged by program -/
import Derived.Test.YtkpdmgoldngdaaaGreatDoorProg
import Derived.Test.YtkpdmgoldngdaaaGreatDoorRows
import Derived.Deep.QuietTactic
import Derived.BigQuiet
import Derived.WalkSmall
import Derived.Laws.StructEq
import Derived.WalkKit
import Derived.WalkSpells
import Derived.RegionTactic
import Derived.Below
import Derived.Laws.OwnMore
import Derived.Laws.AppendOwn
import Derived.Laws.AppendOwnNone
import Derived.Deep.LoopGhost
import Derived.Deep.RegionHeld3
import Derived.Shelf.Strings.Repeat
import Derived.Test.YtkpdmgoldngdaaaGreatDoorMA01
import Derived.Test.YtkpdmgoldngdaaaGreatDoorMA04
import Derived.Test.YtkpdmgoldngdaaaGreatDoorMD01
import Derived.Test.YtkpdmgoldngdaaaGreatDoorMD02
import Derived.Test.YtkpdmgoldngdaaaGreatDoorMG01
import Derived.Test.YtkpdmgoldngdaaaGreatDoorMG03
import Derived.Test.YtkpdmgoldngdaaaGreatDoorMH01
namespace Go.Proofs.YtkpdmgoldngdaaaGreatDoor
open Go.RowKit
set_option maxRecDepth 100000
def sameN (m c t ec m' c' t' ec' : Int) : Bool := decide (m = m' ∧ c = c' ∧ t = t' ∧ ec = ec')
def sameM (sd ok sp sd' ok' sp' : Bool) : Bool := decide (sd = sd' ∧ ok = ok' ∧ sp = sp')
def sameO (m c t ec : Int) (sd ok sp : Bool) (rs : List (Int × Int)) (m' c' t' ec' : Int) (sd' ok' sp' : Bool) (rs' : List (Int × Int)) : Bool := sameN m c t ec m' c' t' ec' && sameM sd ok sp sd' ok' sp' && decide (rs = rs')
theorem sameO_self (m c t ec : Int) (sd ok sp : Bool) (rs : List (Int × Int)) : sameO m c t ec sd ok sp rs m c t ec sd ok sp rs = true := by simp [sameO, sameN, sameM]
theorem take_same (rs rs' : List (Int × Int)) (k : Nat) (r : Int × Int) (h : rs[k]? = some r) (h' : rs'[k]? = some r) (ht : rs.take k = rs'.take k) : rs.take (k + 1) = rs'.take (k + 1) := by
  obtain ⟨hk, e⟩ := List.getElem?_eq_some_iff.1 h
  obtain ⟨hk', e'⟩ := List.getElem?_eq_some_iff.1 h'
  rw [List.take_succ_eq_append_getElem hk, List.take_succ_eq_append_getElem hk', ht, e, e']
theorem take_other (rs rs' : List (Int × Int)) (k : Nat) (r r' : Int × Int) (h : rs[k]? = some r) (h' : rs'[k]? = some r') (hne : r ≠ r') : decide (rs = rs') = false := by
  apply decide_eq_false
  intro e
  subst e
  exact hne (Option.some.inj (h.symm.trans h'))
end Go.Proofs.YtkpdmgoldngdaaaGreatDoor
