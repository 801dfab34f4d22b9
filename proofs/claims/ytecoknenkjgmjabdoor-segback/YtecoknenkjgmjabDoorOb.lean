/- The contracts of the small calls of package opts: fits, number, has, fixed, long, wrongRange: each returns just the value named here; nothing that was there turns. -/
import Derived.Test.YtecoknenkjgmjabDoorOa
import Derived.Deep.LoopGhost
namespace Go.Proofs.YtecoknenkjgmjabDoor
open Go.RowKit
set_option maxRecDepth 100000

theorem fits_any (n most : Int) (w : World) : Calls Tryd.prog 83 #[.int .i64 n, .int .i64 most] w fun e w' => e = .returned (.bool (fitsB n most)) ∧ w' = w := by
  unfold fitsB
  by_cases h0 : 0 ≤ n
  · by_cases h1 : n ≤ most
    · rw [decide_eq_true ⟨h0, h1⟩]
      go_enter Tryd.func83, Tryd.ntmps83
      go_wp2
      go_ret
      exact ⟨rfl, rfl⟩
    · rw [decide_eq_false (by omega)]
      go_enter Tryd.func83, Tryd.ntmps83
      go_wp2
      go_ret
      exact ⟨rfl, rfl⟩
  · rw [decide_eq_false (by omega)]
    go_enter Tryd.func83, Tryd.ntmps83
    go_wp2
    go_ret
    exact ⟨rfl, rfl⟩
theorem number_any (n : Int) (w : World) : Calls Tryd.prog 84 #[.int .i64 n] w fun e w' => e = .returned (.bool (numB n)) ∧ w' = w := by
  have c1 : codeOf true = 0 := rfl
  have c2 : codeOf false = 1 := rfl
  rcases Bool.eq_false_or_eq_true (numB n) with h | h
  all_goals
    go_enter Tryd.func84, Tryd.ntmps84
    go_wp2_with fail
    refine (check_any _ _).mono ?_
    rw [h]
    rintro e w' ⟨rfl, rfl⟩
    go_wp2
    go_ret
    exact ⟨by rw [h]; rfl, rfl⟩
theorem fixed_2 (w : World) : Calls Tryd.prog 81 #[.int .i64 2] w fun e w' => e = .returned (.int .i64 2) ∧ w' = w := by
  go_enter Tryd.func81, Tryd.ntmps81
  go_wp2
  go_ret
  exact ⟨rfl, rfl⟩
theorem fixed_3 (w : World) : Calls Tryd.prog 81 #[.int .i64 3] w fun e w' => e = .returned (.int .i64 1) ∧ w' = w := by
  go_enter Tryd.func81, Tryd.ntmps81
  go_wp2
  go_ret
  exact ⟨rfl, rfl⟩
theorem fixed_4 (w : World) : Calls Tryd.prog 81 #[.int .i64 4] w fun e w' => e = .returned (.int .i64 0) ∧ w' = w := by
  go_enter Tryd.func81, Tryd.ntmps81
  go_wp2
  go_ret
  exact ⟨rfl, rfl⟩
theorem fixed_8 (w : World) : Calls Tryd.prog 81 #[.int .i64 8] w fun e w' => e = .returned (.int .i64 8) ∧ w' = w := by
  go_enter Tryd.func81, Tryd.ntmps81
  go_wp2
  go_ret
  exact ⟨rfl, rfl⟩
theorem fixed_5 (w : World) : Calls Tryd.prog 81 #[.int .i64 5] w fun e w' => e = .returned (.int .i64 0) ∧ w' = w := by
  go_enter Tryd.func81, Tryd.ntmps81
  go_wp2
  go_ret
  exact ⟨rfl, rfl⟩
theorem has_2 (m c t ec : Int) (sd ok sp : Bool) (a : Option Addr) (n cap : Nat) (w : World) :
    Calls Tryd.prog 73 #[.agg #[.int .i64 m, .int .i64 c, .int .i64 t, .int .i64 ec, .bool sd, .bool ok, .bool sp, (.slice a n cap)], .int .i64 2] w fun e w' => e = .returned (.bool (m != 0)) ∧ Below w.heap.size w w' := by
  obtain ⟨⟨c0, c1, c2, c3, c4, c5, c6, c7⟩, -, -⟩ := (At.box w #[.int .i64 m, .int .i64 c, .int .i64 t, .int .i64 ec, .bool sd, .bool ok, .bool sp, (.slice a n cap)] 26).eight
  have hl := bel1 w (.cells #[.int .i64 m, .int .i64 c, .int .i64 t, .int .i64 ec, .bool sd, .bool ok, .bool sp, (.slice a n cap)] 26)
  go_enter Tryd.func73, Tryd.ntmps73
  go_wp2
  go_ret
  exact ⟨by simp, hl⟩
theorem has_3 (m c t ec : Int) (sd ok sp : Bool) (a : Option Addr) (n cap : Nat) (w : World) :
    Calls Tryd.prog 73 #[.agg #[.int .i64 m, .int .i64 c, .int .i64 t, .int .i64 ec, .bool sd, .bool ok, .bool sp, (.slice a n cap)], .int .i64 3] w fun e w' => e = .returned (.bool sd) ∧ Below w.heap.size w w' := by
  obtain ⟨⟨c0, c1, c2, c3, c4, c5, c6, c7⟩, -, -⟩ := (At.box w #[.int .i64 m, .int .i64 c, .int .i64 t, .int .i64 ec, .bool sd, .bool ok, .bool sp, (.slice a n cap)] 26).eight
  have hl := bel1 w (.cells #[.int .i64 m, .int .i64 c, .int .i64 t, .int .i64 ec, .bool sd, .bool ok, .bool sp, (.slice a n cap)] 26)
  go_enter Tryd.func73, Tryd.ntmps73
  go_wp2
  go_ret
  exact ⟨by simp, hl⟩
theorem has_4 (m c t ec : Int) (sd ok sp : Bool) (a : Option Addr) (n cap : Nat) (w : World) :
    Calls Tryd.prog 73 #[.agg #[.int .i64 m, .int .i64 c, .int .i64 t, .int .i64 ec, .bool sd, .bool ok, .bool sp, (.slice a n cap)], .int .i64 4] w fun e w' => e = .returned (.bool ok) ∧ Below w.heap.size w w' := by
  obtain ⟨⟨c0, c1, c2, c3, c4, c5, c6, c7⟩, -, -⟩ := (At.box w #[.int .i64 m, .int .i64 c, .int .i64 t, .int .i64 ec, .bool sd, .bool ok, .bool sp, (.slice a n cap)] 26).eight
  have hl := bel1 w (.cells #[.int .i64 m, .int .i64 c, .int .i64 t, .int .i64 ec, .bool sd, .bool ok, .bool sp, (.slice a n cap)] 26)
  go_enter Tryd.func73, Tryd.ntmps73
  go_wp2
  go_ret
  exact ⟨by simp, hl⟩
theorem has_8 (m c t ec : Int) (sd ok sp : Bool) (a : Option Addr) (n cap : Nat) (w : World) :
    Calls Tryd.prog 73 #[.agg #[.int .i64 m, .int .i64 c, .int .i64 t, .int .i64 ec, .bool sd, .bool ok, .bool sp, (.slice a n cap)], .int .i64 8] w fun e w' => e = .returned (.bool sp) ∧ Below w.heap.size w w' := by
  obtain ⟨⟨c0, c1, c2, c3, c4, c5, c6, c7⟩, -, -⟩ := (At.box w #[.int .i64 m, .int .i64 c, .int .i64 t, .int .i64 ec, .bool sd, .bool ok, .bool sp, (.slice a n cap)] 26).eight
  have hl := bel1 w (.cells #[.int .i64 m, .int .i64 c, .int .i64 t, .int .i64 ec, .bool sd, .bool ok, .bool sp, (.slice a n cap)] 26)
  go_enter Tryd.func73, Tryd.ntmps73
  go_wp2
  go_ret
  exact ⟨by simp, hl⟩
theorem has_5 (m c t ec : Int) (sd ok sp : Bool) (a : Option Addr) (n cap : Nat) (w : World) :
    Calls Tryd.prog 73 #[.agg #[.int .i64 m, .int .i64 c, .int .i64 t, .int .i64 ec, .bool sd, .bool ok, .bool sp, (.slice a n cap)], .int .i64 5] w fun e w' => e = .returned (.bool (decide (0 < n))) ∧ Below w.heap.size w w' := by
  obtain ⟨⟨c0, c1, c2, c3, c4, c5, c6, c7⟩, -, -⟩ := (At.box w #[.int .i64 m, .int .i64 c, .int .i64 t, .int .i64 ec, .bool sd, .bool ok, .bool sp, (.slice a n cap)] 26).eight
  have hl := bel1 w (.cells #[.int .i64 m, .int .i64 c, .int .i64 t, .int .i64 ec, .bool sd, .bool ok, .bool sp, (.slice a n cap)] 26)
  go_enter Tryd.func73, Tryd.ntmps73
  go_wp2
  go_ret
  exact ⟨by simp, hl⟩
theorem ix_0 (w : World) : (Instr.index 95 (.agg #[.int .i64 2, .int .i64 3, .int .i64 4, .int .i64 8, .int .i64 5]) (.int .i64 0)).run Tryd.prog w = .ok (.int .i64 2) w := by kernel_rfl
theorem ix_1 (w : World) : (Instr.index 95 (.agg #[.int .i64 2, .int .i64 3, .int .i64 4, .int .i64 8, .int .i64 5]) (.int .i64 1)).run Tryd.prog w = .ok (.int .i64 3) w := by kernel_rfl
theorem ix_2 (w : World) : (Instr.index 95 (.agg #[.int .i64 2, .int .i64 3, .int .i64 4, .int .i64 8, .int .i64 5]) (.int .i64 2)).run Tryd.prog w = .ok (.int .i64 4) w := by kernel_rfl
theorem ix_3 (w : World) : (Instr.index 95 (.agg #[.int .i64 2, .int .i64 3, .int .i64 4, .int .i64 8, .int .i64 5]) (.int .i64 3)).run Tryd.prog w = .ok (.int .i64 8) w := by kernel_rfl
theorem ix_4 (w : World) : (Instr.index 95 (.agg #[.int .i64 2, .int .i64 3, .int .i64 4, .int .i64 8, .int .i64 5]) (.int .i64 4)).run Tryd.prog w = .ok (.int .i64 5) w := by kernel_rfl
set_option maxRecDepth 100000 in
set_option maxHeartbeats 2000000 in
theorem long_any (m c t ec : Int) (sd ok sp : Bool) (x : Option Addr) (n cap : Nat) (w : World) (hn : n ≤ 17592186044416) (hG : Ord w) :
    Calls Tryd.prog 77 #[.agg #[.int .i64 m, .int .i64 c, .int .i64 t, .int .i64 ec, .bool sd, .bool ok, .bool sp, (.slice x n cap)]] w fun e w' => e = .returned (.int .i64 (longN m sd ok sp n)) ∧ Below w.heap.size w w' := by
  have hA := At.box w #[.int .i64 m, .int .i64 c, .int .i64 t, .int .i64 ec, .bool sd, .bool ok, .bool sp, (.slice x n cap)] 26
  have hl := bel1 w (.cells #[.int .i64 m, .int .i64 c, .int .i64 t, .int .i64 ec, .bool sd, .bool ok, .bool sp, (.slice x n cap)] 26)
  have hn' : (n : Int) ≤ 17592186044416 := by omega
  obtain ⟨g0, g1, g2, g3, g4⟩ := hG.later hl
  obtain ⟨⟨c0, c1, c2, c3, c4, c5, c6, c7⟩, -, -⟩ := hA.eight
  have HA : Hid (At (w.alloc (.cells #[.int .i64 m, .int .i64 c, .int .i64 t, .int .i64 ec, .bool sd, .bool ok, .bool sp, (.slice x n cap)] 26)) w.heap.size #[.int .i64 m, .int .i64 c, .int .i64 t, .int .i64 ec, .bool sd, .bool ok, .bool sp, (.slice x n cap)]) := hA
  have HL : Hid (Below w.heap.size w (w.alloc (.cells #[.int .i64 m, .int .i64 c, .int .i64 t, .int .i64 ec, .bool sd, .bool ok, .bool sp, (.slice x n cap)] 26))) := hl
  clear hA hl hG
  go_enter Tryd.func77, Tryd.ntmps77
  go_wp2
  clear g0 g1 g2 g3 g4 c0 c1 c2 c3 c4 c5 c6 c7
  go_loopw [3, 11] (fun s i W => ∃ k : Nat, k ≤ 5 ∧ i = .int .i64 k ∧ s = .int .i64 (lenK m sd ok sp n k) ∧ Below (w.alloc (.cells #[.int .i64 m, .int .i64 c, .int .i64 t, .int .i64 ec, .bool sd, .bool ok, .bool sp, (.slice x n cap)] 26)).heap.size (w.alloc (.cells #[.int .i64 m, .int .i64 c, .int .i64 t, .int .i64 ec, .bool sd, .bool ok, .bool sp, (.slice x n cap)] 26)) W) (fun _ i _ => 5 - (intOf i).toNat)
  case atStart => exact ⟨0, by omega, rfl, by simp [lenK], Below.refl _ _⟩
  case round =>
    obtain ⟨k, hk, rfl, rfl, hbl⟩ := hrel
    obtain ⟨⟨c0, c1, c2, c3, c4, c5, c6, c7⟩, -, -⟩ := (HA.out.later hbl).eight
    have hle := (lenK_le m sd ok sp n k).2
    have hle' : ((lenK m sd ok sp n k : Nat) : Int) ≤ 140737488355400 := by omega
    have hle0 : (0 : Int) ≤ ((lenK m sd ok sp n k : Nat) : Int) := by omega
    obtain rfl | rfl | rfl | rfl | rfl | rfl : k = 0 ∨ k = 1 ∨ k = 2 ∨ k = 3 ∨ k = 4 ∨ k = 5 := by omega
    · have HT : Hid (m ≠ 0 → lenK m sd ok sp n 1 = lenK m sd ok sp n 0 + 4) := fun h => by simp [lenK, h]
      have HF : Hid (¬ (m ≠ 0) → lenK m sd ok sp n 1 = lenK m sd ok sp n 0) := fun h => by simp [lenK, h]
      have hix := ix_0 wr
      rcases Bool.eq_false_or_eq_true (m != 0) with hh | hh
      · go_wp2_with fail
        refine (has_2 _ _ _ _ _ _ _ x n cap _).mono ?_
        rw [hh]
        rintro e wa ⟨rfl, hb⟩
        go_wp2_with fail
        refine (fixed_2 _).mono ?_
        rintro e wb ⟨rfl, rfl⟩
        go_wp2
        go_roundw
        case rel => exact ⟨1, by omega, by go_num, by rw [HT.out (by simpa using hh)]; go_num, bt hbl hb⟩
        case measure => simp [intOf]
      · go_wp2_with fail
        refine (has_2 _ _ _ _ _ _ _ x n cap _).mono ?_
        rw [hh]
        rintro e wa ⟨rfl, hb⟩
        go_wp2
        go_roundw
        case rel => exact ⟨1, by omega, by go_num, by rw [HF.out (by simpa using hh)], bt hbl hb⟩
        case measure => simp [intOf]
    · have HT : Hid (sd = true → lenK m sd ok sp n 2 = lenK m sd ok sp n 1 + 3) := fun h => by simp [lenK, h]
      have HF : Hid (¬ (sd = true) → lenK m sd ok sp n 2 = lenK m sd ok sp n 1) := fun h => by simp [lenK, h]
      have hix := ix_1 wr
      rcases Bool.eq_false_or_eq_true sd with rfl | rfl
      · go_wp2_with fail
        refine (has_3 _ _ _ _ _ _ _ x n cap _).mono ?_
        rintro e wa ⟨rfl, hb⟩
        go_wp2_with fail
        refine (fixed_3 _).mono ?_
        rintro e wb ⟨rfl, rfl⟩
        go_wp2
        go_roundw
        case rel => exact ⟨2, by omega, by go_num, by rw [HT.out (by simp)]; go_num, bt hbl hb⟩
        case measure => simp [intOf]
      · go_wp2_with fail
        refine (has_3 _ _ _ _ _ _ _ x n cap _).mono ?_
        rintro e wa ⟨rfl, hb⟩
        go_wp2
        go_roundw
        case rel => exact ⟨2, by omega, by go_num, by rw [HF.out (by simp)], bt hbl hb⟩
        case measure => simp [intOf]
    · have HT : Hid (ok = true → lenK m sd ok sp n 3 = lenK m sd ok sp n 2 + 2) := fun h => by simp [lenK, h]
      have HF : Hid (¬ (ok = true) → lenK m sd ok sp n 3 = lenK m sd ok sp n 2) := fun h => by simp [lenK, h]
      have hix := ix_2 wr
      rcases Bool.eq_false_or_eq_true ok with rfl | rfl
      · go_wp2_with fail
        refine (has_4 _ _ _ _ _ _ _ x n cap _).mono ?_
        rintro e wa ⟨rfl, hb⟩
        go_wp2_with fail
        refine (fixed_4 _).mono ?_
        rintro e wb ⟨rfl, rfl⟩
        go_wp2
        go_roundw
        case rel => exact ⟨3, by omega, by go_num, by rw [HT.out (by simp)]; go_num, bt hbl hb⟩
        case measure => simp [intOf]
      · go_wp2_with fail
        refine (has_4 _ _ _ _ _ _ _ x n cap _).mono ?_
        rintro e wa ⟨rfl, hb⟩
        go_wp2
        go_roundw
        case rel => exact ⟨3, by omega, by go_num, by rw [HF.out (by simp)], bt hbl hb⟩
        case measure => simp [intOf]
    · have HT : Hid (sp = true → lenK m sd ok sp n 4 = lenK m sd ok sp n 3 + 10) := fun h => by simp [lenK, h]
      have HF : Hid (¬ (sp = true) → lenK m sd ok sp n 4 = lenK m sd ok sp n 3) := fun h => by simp [lenK, h]
      have hix := ix_3 wr
      rcases Bool.eq_false_or_eq_true sp with rfl | rfl
      · go_wp2_with fail
        refine (has_8 _ _ _ _ _ _ _ x n cap _).mono ?_
        rintro e wa ⟨rfl, hb⟩
        go_wp2_with fail
        refine (fixed_8 _).mono ?_
        rintro e wb ⟨rfl, rfl⟩
        go_wp2
        go_roundw
        case rel => exact ⟨4, by omega, by go_num, by rw [HT.out (by simp)]; go_num, bt hbl hb⟩
        case measure => simp [intOf]
      · go_wp2_with fail
        refine (has_8 _ _ _ _ _ _ _ x n cap _).mono ?_
        rintro e wa ⟨rfl, hb⟩
        go_wp2
        go_roundw
        case rel => exact ⟨4, by omega, by go_num, by rw [HF.out (by simp)], bt hbl hb⟩
        case measure => simp [intOf]
    · have HT : Hid (0 < n → lenK m sd ok sp n 5 = lenK m sd ok sp n 4 + 2) := fun h => by simp [lenK, h]
      have HF : Hid (¬ (0 < n) → lenK m sd ok sp n 5 = lenK m sd ok sp n 4) := fun h => by simp [lenK, h]
      have hix := ix_4 wr
      rcases Bool.eq_false_or_eq_true (decide (0 < n)) with hh | hh
      · go_wp2_with fail
        refine (has_5 _ _ _ _ _ _ _ x n cap _).mono ?_
        rw [hh]
        rintro e wa ⟨rfl, hb⟩
        go_wp2_with fail
        refine (fixed_5 _).mono ?_
        rintro e wb ⟨rfl, rfl⟩
        go_wp2
        go_roundw
        case rel => exact ⟨5, by omega, by go_num, by rw [HT.out (by simpa using hh)]; go_num, bt hbl hb⟩
        case measure => simp [intOf]
      · go_wp2_with fail
        refine (has_5 _ _ _ _ _ _ _ x n cap _).mono ?_
        rw [hh]
        rintro e wa ⟨rfl, hb⟩
        go_wp2
        go_roundw
        case rel => exact ⟨5, by omega, by go_num, by rw [HF.out (by simpa using hh)], bt hbl hb⟩
        case measure => simp [intOf]
    · have HE : Hid (((longN m sd ok sp n : Nat) : Int) = ((lenK m sd ok sp n 5 : Nat) + 4 - 1) / 4 * 4) := by
        show _ = _
        unfold longN
        omega
      go_wp2
      go_ret
      exact ⟨by rw [HE.out]; rfl, bt HL.out hbl⟩
theorem wrong_any (r : Int × Int) (w : World) : Calls Tryd.prog 86 #[.agg #[.int .i64 r.1, .int .i64 r.2]] w fun e w' => e = .returned (.bool (!rgB r)) ∧ Below w.heap.size w w' := by
  obtain ⟨x, y⟩ := r
  have hl := bel1 w (.cells #[.int .i64 x, .int .i64 y] 77)
  unfold rgB
  show Calls Tryd.prog 86 #[.agg #[.int .i64 x, .int .i64 y]] w fun e w' => e = .returned (.bool (!(numB x && numB y && !decide (x = y)))) ∧ Below w.heap.size w w'
  rcases Bool.eq_false_or_eq_true (numB x) with h | h
  · rcases Bool.eq_false_or_eq_true (numB y) with h2 | h2
    · by_cases h3 : x = y
      · subst h3
        clear h2
        go_enter Tryd.func86, Tryd.ntmps86
        go_wp2_with fail
        refine (number_any _ _).mono ?_
        rw [h]
        rintro e w' ⟨rfl, rfl⟩
        go_wp2_with fail
        refine (number_any _ _).mono ?_
        rw [h]
        rintro e w' ⟨rfl, rfl⟩
        go_wp2
        go_ret
        exact ⟨by simp [h], hl⟩
      · go_enter Tryd.func86, Tryd.ntmps86
        go_wp2_with fail
        refine (number_any _ _).mono ?_
        rw [h]
        rintro e w' ⟨rfl, rfl⟩
        go_wp2_with fail
        refine (number_any _ _).mono ?_
        rw [h2]
        rintro e w' ⟨rfl, rfl⟩
        go_wp2
        go_ret
        exact ⟨by simp [h, h2, h3], hl⟩
    · go_enter Tryd.func86, Tryd.ntmps86
      go_wp2_with fail
      refine (number_any _ _).mono ?_
      rw [h]
      rintro e w' ⟨rfl, rfl⟩
      go_wp2_with fail
      refine (number_any _ _).mono ?_
      rw [h2]
      rintro e w' ⟨rfl, rfl⟩
      go_wp2
      go_ret
      exact ⟨by simp [h, h2], hl⟩
  · go_enter Tryd.func86, Tryd.ntmps86
    go_wp2_with fail
    refine (number_any _ _).mono ?_
    rw [h]
    rintro e w' ⟨rfl, rfl⟩
    go_wp2
    go_ret
    exact ⟨by simp [h], hl⟩
end Go.Proofs.YtecoknenkjgmjabDoor
