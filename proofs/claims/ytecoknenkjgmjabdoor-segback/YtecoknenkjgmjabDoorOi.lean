/- The contract of Fit of package opts: of options that may be, as many of the first ranges as there is room for, in a row of their own; of others none at all; nothing that was there turns. -/
import Derived.Test.YtecoknenkjgmjabDoorOh
import Derived.Deep.LoopGhost
namespace Go.Proofs.YtecoknenkjgmjabDoor
open Go.RowKit
set_option maxRecDepth 100000

/-- How many ranges fit. -/
def fitN (m : Int) (sd ok sp : Bool) (most : Int) : Nat → Nat
  | 0 => 0
  | n + 1 => if (longN m sd ok sp (n + 1) : Int) ≤ most then n + 1 else fitN m sd ok sp most n
theorem fitN_le (m : Int) (sd ok sp : Bool) (most : Int) : ∀ n, fitN m sd ok sp most n ≤ n
  | 0 => Nat.le_refl _
  | n + 1 => by
    unfold fitN
    split
    · exact Nat.le_refl _
    · exact Nat.le_succ_of_le (fitN_le m sd ok sp most n)
theorem fitN_stop (m : Int) (sd ok sp : Bool) (most : Int) (k : Nat) (h : k = 0 ∨ (longN m sd ok sp k : Int) ≤ most) : fitN m sd ok sp most k = k := by
  cases k with
  | zero => rfl
  | succ k =>
    unfold fitN
    rcases h with h | h
    · cases h
    · rw [if_pos h]
theorem fitN_on (m : Int) (sd ok sp : Bool) (most : Int) (k : Nat) (h : ¬ (longN m sd ok sp (k + 1) : Int) ≤ most) : fitN m sd ok sp most (k + 1) = fitN m sd ok sp most k := by
  conv => lhs; unfold fitN
  rw [if_neg h]
theorem Below.growN {B : Nat} {W x : World} (hg : W.grownBy x none) (hB : B ≤ W.heap.size) : Below B W x := (Below.refl _ _).grown hg hB (fun k e => by cases e)
end Go.Proofs.YtecoknenkjgmjabDoor
