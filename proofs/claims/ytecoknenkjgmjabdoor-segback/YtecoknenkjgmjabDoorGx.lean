/- Facts of a drawn region of which some say that there is a value: as GV, the facts by name. Nothing of the program is named here. -/
import Derived.Test.YtecoknenkjgmjabDoorFacts
namespace Go.Proofs.YtecoknenkjgmjabDoor
open Go.RowKit
set_option maxRecDepth 100000
def GE (vals : Nat → Value) (ex : Nat → Option (Value → World → Prop)) (i : Nat) (v : Value) (w : World) : Prop := match ex i with
  | none => v = vals i
  | some F => F v w
theorem GE_later (vals : Nat → Value) (ex : Nat → Option (Value → World → Prop)) (hex : ∀ i F, ex i = some F → ∀ v w w', F v w → Below w.heap.size w w' → F v w') (i : Nat) (v : Value) (w w' : World) (h : GE vals ex i v w) (hb : Below w.heap.size w w') : GE vals ex i v w' := by
  unfold GE at *
  cases he : ex i with
  | none => rw [he] at h; exact h
  | some F => rw [he] at h; exact hex i F he v w w' h hb
end Go.Proofs.YtecoknenkjgmjabDoor
