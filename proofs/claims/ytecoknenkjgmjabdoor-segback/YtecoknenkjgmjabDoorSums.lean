/- The contracts of Of, Whole and Turn, of package sum and of the document, and of the law's example: each returns just the values named here; nothing that was there turns. -/
import Derived.Test.YtecoknenkjgmjabDoorMore
import Derived.LoopN
namespace Go.Proofs.YtecoknenkjgmjabDoor
open Go.RowKit
set_option maxRecDepth 100000

theorem total_list (b off cap : Nat) (ss : List ByteArray) (w : World) (hbig : ss.length ≤ 9223372036854775807)
    (hc : ∀ j, j < ss.length → w.cell? ⟨b, off + j, none⟩ = some (.string (ss.getD j ByteArray.empty)))
    (hs : (catS ss).length ≤ 140737488355328) :
    Calls Tryd.prog 50 #[.slice (some ⟨b, off, none⟩) ss.length cap] w fun e w' => e = .returned (.int .i64 (totS ss)) ∧ w' = w := by
  have h := total_any b off ss.length cap ss w (Nat.le_refl _) hbig hc (by rw [List.take_length]; exact hs)
  rw [List.take_length] at h
  exact h

theorem whole_any (s : ByteArray) (w : World) (hs : s.size ≤ 140737488355328) :
    Calls Tryd.prog 26 #[.string s] w fun e w' => e = .returned (.bool (sumS s == 0)) ∧ Below w.heap.size w w' := by
  have hb := totS_bd [s] (by rw [catS_one]; exact hs)
  have h1 := totS_one s
  go_enter Tryd.func26, Tryd.ntmps26
  go_wp2_with (first | (go_at_call 50; refine (total_list w.heap.size 0 _ [s] _ (by simp) ?_ (by rw [catS_one]; exact hs)).mono ?_) | (go_at_call 49; refine (missing_any _ _ hb.1 hb.2).mono ?_; rintro e w' ⟨rfl, rfl⟩))
  · intro j hj
    have : j = 0 := by simp at hj; omega
    subst this
    simp
  · rintro e w' ⟨rfl, rfl⟩
    go_wp2_with (first | (go_at_call 49; refine (missing_any _ _ hb.1 hb.2).mono ?_; rintro e w' ⟨rfl, rfl⟩))
    go_ret
    exact ⟨rfl, (Below.refl _ _).alloc (Nat.le_refl _) _⟩

theorem rwhole_any (s : ByteArray) (w : World) (hs : s.size ≤ maxLen) :
    Calls Tryd.prog 39 #[.string s] w fun e w' => e = .returned (.bool (sumS s == 0)) ∧ w' = w := by
  go_enter Tryd.func39, Tryd.ntmps39
  go_wp2_with (first | (go_at_call 59; refine (rsum_any _ _ hs).mono ?_; rintro e w' ⟨rfl, rfl⟩))
  go_ret
  exact ⟨rfl, rfl⟩
end Go.Proofs.YtecoknenkjgmjabDoor
