/- The contracts of Seal, of package sum and of the document: each returns just the values named here; nothing that was there turns. -/
import Derived.Test.YtecoknenkjgmjabDoorTurns
import Derived.Deep.QuietTactic
import Derived.BigQuiet
import Derived.Deep.RegionWith
namespace Go.Proofs.YtecoknenkjgmjabDoor
open Go.RowKit
set_option maxRecDepth 100000

theorem below_drewN' {B : Nat} {a w : World} (h : Below B a w) (n : Nat) : Below B a (w.drewN n) := h.trans ⟨rfl, rfl, rfl, Nat.le_refl _, fun _ _ => rfl⟩

theorem cells_two (W : World) (A B : ByteArray) : ∀ j, j < [A, B].length → (W.alloc (.cells #[.string A, .string B] 9)).cell? ⟨W.heap.size, 0 + j, none⟩ = some (.string ([A, B].getD j ByteArray.empty)) := by
  intro j hj
  simp at hj
  obtain rfl | rfl : j = 0 ∨ j = 1 := by omega
  · simp
  · simp

theorem seal_ok (s : ByteArray) (off : Int) (w : World) (hs : s.size ≤ 65536) (h0 : 0 ≤ off) (h1 : off ≤ (s.size : Int) - 2) (h2 : off % 2 = 0) :
    Calls Tryd.prog 31 #[.string s, .int .i64 off] w fun e w' => e = .returned (.tuple #[.string (sealS s off), .int .i64 0]) ∧ Below w.heap.size w w' := by
  have hl : liesB s.size off 2 = true := decide_eq_true ⟨h0, h1⟩
  have hm : (off % 2 != 0) = false := by simp [h2]
  have hz1 := headS_size s off h0 h1
  have hz2 := tailS_size s off h0 h1
  unfold sealS
  go_enter Tryd.func31, Tryd.ntmps31
  go_wp2_with (first | (go_at_call 56; refine (lies_any _ _ _ _ (by unfold maxLen; omega) (by omega) (by omega)).mono ?_; rintro e w' ⟨rfl, rfl⟩))
  go_quiet (fail)
  go_wp2_with fail
  have eA : s.extract 0 off.toNat = headS s off := rfl
  have eB : s.extract (off + 2).toNat s.size = tailS s off := rfl
  rw [eA, eB]
  clear eA eB
  have hA : (headS s off).size ≤ 65536 := by omega
  have hB : (tailS s off).size ≤ 65536 := by omega
  clear hz1 hz2
  generalize eA : headS s off = A at *
  generalize eB : tailS s off = B at *
  have HA : Hid (headS s off = A) := eA
  have HB : Hid (tailS s off = B) := eB
  clear eA eB
  have hcat : (catS [A, B]).length ≤ 140737488355328 := by rw [catS_two]; omega
  have hb := totS_bd [A, B] hcat
  have hz := txt_size (missV (totS [A, B])) 2
  refine (total_list w'.heap.size 0 2 [A, B] _ (by simp) (cells_two (w'.drewN nq) A B) hcat).mono ?_
  rintro e W1 ⟨rfl, rfl⟩
  go_wp2_with fail
  refine (missing_any _ _ hb.1 hb.2).mono ?_
  rintro e W1 ⟨rfl, rfl⟩
  go_wp2_with fail
  refine (put_any _ 2 _ (by decide) (by decide)).mono ?_
  rintro e W1 ⟨rfl, b1⟩
  go_wp2
  go_ret2
  exact ⟨by rw [HA.out, HB.out]; rfl, bt ((below_drewN' (Below.refl _ _) _).alloc (Nat.le_refl _) _) b1⟩

/-! ### The wrong places, and too many bytes -/
theorem place_t {z : Nat} {o : Int} (h : 0 ≤ o ∧ o % 2 = 0 ∧ o ≤ (z : Int) - 2) : placeB z o = true := decide_eq_true h
theorem place_f {z : Nat} {o : Int} (h : ¬ (0 ≤ o ∧ o % 2 = 0 ∧ o ≤ (z : Int) - 2)) : placeB z o = false := decide_eq_false h

theorem seal_any (s : ByteArray) (off : Int) (w : World) (hs : s.size ≤ maxLen) :
    Calls Tryd.prog 31 #[.string s, .int .i64 off] w fun e w' => e = .returned (.tuple #[.string (sealV s off), .int .i64 (sealC s off)]) ∧ Below w.heap.size w w' := by
  have hsm := hs
  unfold maxLen at hs
  unfold sealV sealC
  by_cases h0 : 0 ≤ off
  · by_cases h2 : off % 2 = 0
    · by_cases h1 : off ≤ (s.size : Int) - 2
      · rw [place_t ⟨h0, h2, h1⟩, if_pos rfl, if_pos rfl]
        by_cases hz : s.size ≤ 65536
        · rw [if_pos hz, if_pos hz]
          exact seal_ok s off w hz h0 h1 h2
        · rw [if_neg hz, if_neg hz]
          have hl : liesB s.size off 2 = true := decide_eq_true ⟨h0, h1⟩
          have hm : (off % 2 != 0) = false := by simp [h2]
          go_enter Tryd.func31, Tryd.ntmps31
          go_wp2_with (first | (go_at_call 56; refine (lies_any _ _ _ _ hsm (by omega) (by omega)).mono ?_; rintro e w' ⟨rfl, rfl⟩))
          go_ret2
          exact ⟨rfl, Below.refl _ _⟩
      · rw [place_f (by omega), if_neg (by simp), if_neg (by simp)]
        have hl : liesB s.size off 2 = false := decide_eq_false (by omega)
        have hm : (off % 2 != 0) = false := by simp [h2]
        go_enter Tryd.func31, Tryd.ntmps31
        go_wp2_with (first | (go_at_call 56; refine (lies_any _ _ _ _ hsm (by omega) (by omega)).mono ?_; rintro e w' ⟨rfl, rfl⟩))
        go_ret2
        exact ⟨rfl, Below.refl _ _⟩
    · rw [place_f (by omega), if_neg (by simp), if_neg (by simp)]
      have hm : (off % 2 != 0) = true := by simp; omega
      go_enter Tryd.func31, Tryd.ntmps31
      go_wp2_with (first | (go_at_call 56; refine (lies_any _ _ _ _ hsm (by omega) (by omega)).mono ?_; rintro e w' ⟨rfl, rfl⟩))
      go_ret2
      exact ⟨rfl, Below.refl _ _⟩
  · rw [place_f (by omega), if_neg (by simp), if_neg (by simp)]
    have hl : liesB s.size off 2 = false := decide_eq_false (by omega)
    cases hm : (off.tmod 2 != 0)
    all_goals
      go_enter Tryd.func31, Tryd.ntmps31
      go_wp2_with (first | (go_at_call 56; refine (lies_any _ _ _ _ hsm (by omega) (by omega)).mono ?_; rintro e w' ⟨rfl, rfl⟩))
      go_ret2
      exact ⟨rfl, Below.refl _ _⟩

end Go.Proofs.YtecoknenkjgmjabDoor
