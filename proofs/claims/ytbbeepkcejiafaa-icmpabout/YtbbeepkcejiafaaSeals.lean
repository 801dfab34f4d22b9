/- The contracts of Seal, of package sum and of the document: each returns just the values named here; nothing that was there turns. -/
import Derived.Test.YtbbeepkcejiafaaTurns
import Derived.Deep.QuietTactic
import Derived.BigQuiet
import Derived.Deep.RegionWith
namespace Go.Proofs.Ytbbeepkcejiafaa
open Go.RowKit

theorem below_drewN' {B : Nat} {a w : World} (h : Below B a w) (n : Nat) : Below B a (w.drewN n) := h.trans ⟨rfl, rfl, rfl, Nat.le_refl _, fun _ _ => rfl⟩

theorem cells_two (W : World) (A B : ByteArray) : ∀ j, j < [A, B].length → (W.alloc (.cells #[.string A, .string B] 9)).cell? ⟨W.heap.size, 0 + j, none⟩ = some (.string ([A, B].getD j ByteArray.empty)) := by
  intro j hj
  simp at hj
  obtain rfl | rfl : j = 0 ∨ j = 1 := by omega
  · simp
  · simp

theorem seal_ok (s : ByteArray) (off : Int) (w : World) (hs : s.size ≤ 65536) (h0 : 0 ≤ off) (h1 : off ≤ (s.size : Int) - 2) (h2 : off % 2 = 0) :
    Calls Try.prog 26 #[.string s, .int .i64 off] w fun e w' => e = .returned (.tuple #[.string (sealS s off), .int .i64 0]) ∧ Below w.heap.size w w' := by
  have hl : liesB s.size off 2 = true := decide_eq_true ⟨h0, h1⟩
  have hm : (off % 2 != 0) = false := by simp [h2]
  have hz1 := headS_size s off h0 h1
  have hz2 := tailS_size s off h0 h1
  unfold sealS
  go_enter Try.func26, Try.ntmps26
  go_wp2_with (first | (go_at_call 40; refine (lies_any _ _ _ _ (by unfold maxLen; omega) (by omega) (by omega)).mono ?_; rintro e w' ⟨rfl, rfl⟩))
  go_quiet (fail)
  go_wp2_with fail
  have eA : s.extract 0 off.toNat = headS s off := rfl
  have eB : s.extract (off + 2).toNat s.size = tailS s off := rfl
  rw [eA, eB]
  clear eA eB
  have hA : (headS s off).size ≤ 65536 := by omega
  have hB : (tailS s off).size ≤ 65536 := by omega
  clear hz1 hz2
  generalize eA : headS s off = A at *
  generalize eB : tailS s off = B at *
  have HA : Hid (headS s off = A) := eA
  have HB : Hid (tailS s off = B) := eB
  clear eA eB
  have hcat : (catS [A, B]).length ≤ 140737488355328 := by rw [catS_two]; omega
  have hb := totS_bd [A, B] hcat
  have hz := txt_size (missV (totS [A, B])) 2
  refine (total_list w'.heap.size 0 2 [A, B] _ (by simp) (cells_two (w'.drewN nq) A B) hcat).mono ?_
  rintro e W1 ⟨rfl, rfl⟩
  go_wp2_with fail
  refine (missing_any _ _ hb.1 hb.2).mono ?_
  rintro e W1 ⟨rfl, rfl⟩
  go_wp2_with fail
  refine (put_any _ 2 _ (by decide) (by decide)).mono ?_
  rintro e W1 ⟨rfl, b1⟩
  go_wp2
  go_ret2
  exact ⟨by rw [HA.out, HB.out]; rfl, bt ((below_drewN' (Below.refl _ _) _).alloc (Nat.le_refl _) _) b1⟩

set_option maxHeartbeats 1000000 in
theorem sealed_ok (s : ByteArray) (off : Int) (w : World) (hs : s.size ≤ 65536) (h0 : 0 ≤ off) (h1 : off ≤ (s.size : Int) - 2) (h2 : off % 2 = 0) :
    Calls Try.prog 44 #[.string s, .int .i64 off] w fun e w' => e = .returned (.string (sealS s off)) ∧ Below w.heap.size w w' := by
  have hz1 := headS_size s off h0 h1
  have hz2 := tailS_size s off h0 h1
  unfold sealS
  go_enter Try.func44, Try.ntmps44
  go_wp2_with fail
  go_quiet (fail)
  go_wp2_with fail
  have eA : s.extract 0 off.toNat = headS s off := rfl
  have eB : s.extract (off + 2).toNat s.size = tailS s off := rfl
  rw [eA, eB]
  clear eA eB
  generalize eA : headS s off = A at *
  generalize eB : tailS s off = B at *
  have HA : Hid (headS s off = A) := eA
  have HB : Hid (tailS s off = B) := eB
  clear eA eB
  have e1 : (A ++ ⟨#[0, 0]⟩ ++ B).extract 0 off.toNat = A := by rw [← hz1]; exact mid_head A _ B
  have e2 : (A ++ ⟨#[0, 0]⟩ ++ B).extract (off + 2).toNat (A ++ ⟨#[0, 0]⟩ ++ B).size = B := mid_tail A _ B _ (by rw [hz1]; show _ = _ + 2; omega)
  have e3 := sum_mid A B (by rw [hz1]; omega)
  have hZs : (A ++ ⟨#[0, 0]⟩ ++ B).size = s.size := by rw [ByteArray.size_append, ByteArray.size_append, hz1, hz2]; show _ + 2 + _ = _; omega
  have hA : A.size ≤ 65536 := by omega
  have hB : B.size ≤ 65536 := by omega
  generalize (A ++ ⟨#[0, 0]⟩ ++ B) = Z at *
  have hZ1 : Z.size ≤ 65536 := by omega
  have hZ2 : off ≤ (Z.size : Int) := by omega
  have hZ3 : off + 2 ≤ (Z.size : Int) := by omega
  have hZ4 : 0 ≤ off + 2 := by omega
  clear hz1 hz2 hZs
  have hz := txt_size (sumS Z) 2
  have hw : IntKind.i64.wrap (off + 2) = off + 2 := by rw [IntKind.wrap_i64]; omega
  have r1 : ∀ W, (Instr.slice 9 (.string Z) none (some (.int .i64 off)) none).run Try.prog W = .ok (.string A) W := fun W => by
    rw [run_slice_string_to_if W 9 Z .i64 off Try.underlying9, if_pos ⟨h0, hZ2⟩, e1]
  have r2 : ∀ W, (Instr.slice 9 (.string Z) (some (.int .i64 (off + 2))) none none).run Try.prog W = .ok (.string B) W := fun W => by
    rw [run_slice_string_from_if W 9 Z .i64 (off + 2) Try.underlying9, if_pos ⟨hZ4, hZ3⟩, e2]
  have E3 : Hid (sumS Z = missV (totS [A, B])) := e3
  clear e1 e2 e3
  have hs1 := fun W => rsum_any Z W (by unfold maxLen; omega)
  have ht1 := fun W => rtext_any (sumS Z) 2 W (by decide) (by decide)
  have HS1 : Hid (∀ W, Calls Try.prog 47 #[.string Z] W fun e w' => e = .returned (.int .i64 (sumS Z)) ∧ w' = W) := hs1
  have HT1 : Hid (∀ W, Calls Try.prog 45 #[.int .i64 (sumS Z), .int .i64 2] W fun e w' => e = .returned (.string (txt (sumS Z) 2)) ∧ Below W.heap.size W w') := ht1
  clear hs1 ht1
  go_region_with (first | (go_at_call 47; refine (HS1.out _).mono ?_; rintro e w' ⟨rfl, rfl⟩) | (go_at_call 45; refine (HT1.out _).mono ?_; rintro e w' ⟨rfl, b1⟩))
  go_wp2
  go_ret
  refine ⟨by rw [HA.out, HB.out, ← E3.out]; rfl, ?_⟩
  first
    | exact bt (below_drewN' (Below.refl _ _) _) b1
    | exact bt (below_drewN' (Below.refl _ _) _).drew b1

/-! ### The wrong places, and too many bytes -/
theorem place_t {z : Nat} {o : Int} (h : 0 ≤ o ∧ o % 2 = 0 ∧ o ≤ (z : Int) - 2) : placeB z o = true := decide_eq_true h
theorem place_f {z : Nat} {o : Int} (h : ¬ (0 ≤ o ∧ o % 2 = 0 ∧ o ≤ (z : Int) - 2)) : placeB z o = false := decide_eq_false h

theorem seal_any (s : ByteArray) (off : Int) (w : World) (hs : s.size ≤ maxLen) :
    Calls Try.prog 26 #[.string s, .int .i64 off] w fun e w' => e = .returned (.tuple #[.string (sealV s off), .int .i64 (sealC s off)]) ∧ Below w.heap.size w w' := by
  have hsm := hs
  unfold maxLen at hs
  unfold sealV sealC
  by_cases h0 : 0 ≤ off
  · by_cases h2 : off % 2 = 0
    · by_cases h1 : off ≤ (s.size : Int) - 2
      · rw [place_t ⟨h0, h2, h1⟩, if_pos rfl, if_pos rfl]
        by_cases hz : s.size ≤ 65536
        · rw [if_pos hz, if_pos hz]
          exact seal_ok s off w hz h0 h1 h2
        · rw [if_neg hz, if_neg hz]
          have hl : liesB s.size off 2 = true := decide_eq_true ⟨h0, h1⟩
          have hm : (off % 2 != 0) = false := by simp [h2]
          go_enter Try.func26, Try.ntmps26
          go_wp2_with (first | (go_at_call 40; refine (lies_any _ _ _ _ hsm (by omega) (by omega)).mono ?_; rintro e w' ⟨rfl, rfl⟩))
          go_ret2
          exact ⟨rfl, Below.refl _ _⟩
      · rw [place_f (by omega), if_neg (by simp), if_neg (by simp)]
        have hl : liesB s.size off 2 = false := decide_eq_false (by omega)
        have hm : (off % 2 != 0) = false := by simp [h2]
        go_enter Try.func26, Try.ntmps26
        go_wp2_with (first | (go_at_call 40; refine (lies_any _ _ _ _ hsm (by omega) (by omega)).mono ?_; rintro e w' ⟨rfl, rfl⟩))
        go_ret2
        exact ⟨rfl, Below.refl _ _⟩
    · rw [place_f (by omega), if_neg (by simp), if_neg (by simp)]
      have hm : (off % 2 != 0) = true := by simp; omega
      go_enter Try.func26, Try.ntmps26
      go_wp2_with (first | (go_at_call 40; refine (lies_any _ _ _ _ hsm (by omega) (by omega)).mono ?_; rintro e w' ⟨rfl, rfl⟩))
      go_ret2
      exact ⟨rfl, Below.refl _ _⟩
  · rw [place_f (by omega), if_neg (by simp), if_neg (by simp)]
    have hl : liesB s.size off 2 = false := decide_eq_false (by omega)
    cases hm : (off.tmod 2 != 0)
    all_goals
      go_enter Try.func26, Try.ntmps26
      go_wp2_with (first | (go_at_call 40; refine (lies_any _ _ _ _ hsm (by omega) (by omega)).mono ?_; rintro e w' ⟨rfl, rfl⟩))
      go_ret2
      exact ⟨rfl, Below.refl _ _⟩

end Go.Proofs.Ytbbeepkcejiafaa
