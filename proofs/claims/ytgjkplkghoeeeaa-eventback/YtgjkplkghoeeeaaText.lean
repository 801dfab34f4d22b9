/- The contracts of sum.put and of the document's Text: each returns the bytes of the number, the highest first; nothing that was there turns. -/
import Derived.Test.YtgjkplkghoeeeaaCalls
namespace Go.Proofs.Ytgjkplkghoeeeaa
open Go.RowKit

theorem Try.info5 : (Try.prog.info? 5).map (fun i => (i.zero, i.size, i.bytes)) = some (some (.int .u8 0), 1, 1) := by kernel_rfl

theorem put_any (n : Int) (k : Nat) (w : World) (k0 : 1 ≤ k) (k1 : k ≤ 6) :
    Calls Try.prog 41 #[.int .i64 n, .int .i64 k] w fun e w' => e = .returned (.string (txt n k)) ∧ Below w.heap.size w w' := by
  obtain ⟨i0, hi, hz0, hz1, hz2⟩ := info_parts Try.info5
  go_enter Try.func41, Try.ntmps41
  go_wp2_with (at_make; refine wpList_make_full _ rfl _ _ 59 rfl w.heap.size 5 i0 (.int .u8 0) 1 Try.underlying59 hi hz0 hz1 .i64 .i64 _ _ k rfl rfl rfl rfl (by rw [hz2]; omega) (by unfold maxLen; omega) (Nat.le_refl _) ?_)
  intro w1 hown hgrow
  have hb := (Below.refl w.heap.size w).grown hgrow (Nat.le_refl _) (fun k e => by cases e)
  clear hgrow hi hz0 hz1 hz2
  have hown2 : w1.ownsRow w.heap.size 5 1 (.slice (some ⟨w.heap.size, 0, none⟩) k k) k (cellsAt n k 0) := by
    rw [cellsAt_zero]
    have e := toList_madeCells_one (.int .u8 0) (k * 1)
    rw [Nat.mul_one] at e
    rw [← e]
    exact hown
  clear hown
  go_wp2
  go_loopw [11] (fun i wr => ∃ j : Nat, j ≤ k ∧ i = .int .i64 j ∧ wr.ownsRow w.heap.size 5 1 (.slice (some ⟨w.heap.size, 0, none⟩) k k) k (cellsAt n k j) ∧ Below w.heap.size w wr) (fun i _ => k - (intOf i).toNat)
  case atStart => exact ⟨0, Nat.zero_le _, rfl, hown2, hb⟩
  case round =>
    obtain ⟨j, hj, rfl, hown', hbel⟩ := hrel
    by_cases hlt : j < k
    · have hcell := hown'.cellAt j (by omega)
      have hfr := hown'.frozenAt j
      rw [cellsAt_at n k j hlt] at hcell
      have HO : Hid (wr.ownsRow w.heap.size 5 1 (.slice (some ⟨w.heap.size, 0, none⟩) k k) k (cellsAt n k j)) := hown'
      clear hown' hown2
      go_wp2
      go_roundw
      case rel =>
        have hs := HO.out.stored j (.int .u8 (n / 2 ^ (8 * (k - 1 - j)) % 256))
        rw [cellsAt_set n k j hlt] at hs
        exact ⟨j + 1, by omega, by go_num, hs.1, hbel.setCell (Nat.le_refl _) _⟩
      case measure => simp [intOf]; omega
    · have hj' : j = k := by omega
      subst hj'
      have hcv := run_convert_bytes_back (P := Try.prog) wr 59 9 5 ⟨w.heap.size, 0, none⟩ j (txtL n j) Try.underlying59 Try.underlying5 Try.underlying9 (by
        intro i hi
        have hil : i < j := by rw [txtL_len] at hi; exact hi
        rw [cellsAt_full] at hown'
        have := hown'.cellAt i (by omega)
        rw [map_cellB_at _ i hi] at this
        rw [Addr.add_lit, Nat.zero_add]
        exact this)
      rw [txtL_len] at hcv
      go_wp2
      go_ret
      exact ⟨rfl, hbel⟩

theorem rtext_any (n : Int) (k : Nat) (w : World) (k0 : 1 ≤ k) (k1 : k ≤ 6) :
    Calls Try.prog 36 #[.int .i64 n, .int .i64 k] w fun e w' => e = .returned (.string (txt n k)) ∧ Below w.heap.size w w' := by
  obtain ⟨i0, hi, hz0, hz1, hz2⟩ := info_parts Try.info5
  go_enter Try.func36, Try.ntmps36
  go_wp2
  go_loopw [5, 6] (fun v i wr => ∃ j : Nat, j ≤ k ∧ i = .int .i64 ((k : Int) - 1 - j) ∧ wr.ownsRow w.heap.size 5 1 v j (((txtL n k).take j).map cellB) ∧ Below w.heap.size w wr) (fun _ i _ => (intOf i + 1).toNat)
  case atStart => exact ⟨0, Nat.zero_le _, by go_num, World.ownsRow_nil _ _ _ _, Below.refl _ _⟩
  case round =>
    obtain ⟨j, hj, rfl, hown', hbel⟩ := hrel
    by_cases hlt : j < k
    · go_wp2_with (first | (at_builtin; refine wpList_append_own _ rfl _ _ 59 rfl w.heap.size 5 i0 (.int .u8 0) 1 1 Try.underlying59 hi hz0 hz1 hz2 rfl (by decide) _ _ _ rfl (hown'.alloc _) ⟨wr.heap.size, 0, none⟩ 1 1 [.int .u8 (n / 2 ^ (8 * (k - 1 - j)) % 256)] rfl rfl (cell_one_new _ _ _) ?c2 ?c3 ?c4 ?c5 ?_) | go_in)
      case c2 => intro u hu; simp at hu; subst hu; rfl
      case c3 => unfold maxLen; omega
      case c4 => omega
      case c5 => have := hbel.size; simp; omega
      intro v' w1 hown2 hgrow hn2
      have hb2 : Below w.heap.size w w1 := (hbel.alloc hbel.size _).grown hgrow (by have := hbel.size; simp; omega) (fun g hg => (hown'.lt g hg).1)
      have hown3 : w1.ownsRow w.heap.size 5 1 v' (j + 1) (((txtL n k).take (j + 1)).map cellB) := by
        rw [txtL_take_succ n k j hlt, List.map_append]
        have e : [byteAt n (k - 1 - j)].map cellB = [.int .u8 (n / 2 ^ (8 * (k - 1 - j)) % 256)] := by simp [cellB, byteAt_toNat]
        rw [e, List.map_take]
        exact hown2
      clear hown2 hgrow hn2 hown' hbel
      go_wp2
      go_roundw
      case rel => exact ⟨j + 1, by omega, by go_num, hown3, hb2⟩
      case measure => simp [intOf]; omega
    · have hj' : j = k := by omega
      subst hj'
      rw [List.take_of_length_le (by rw [txtL_len]; exact Nat.le_refl _)] at hown'
      have h2 := hown'.2
      rcases h2 with ⟨_, h⟩ | ⟨g, cap, cur, rfl, -⟩
      · omega
      have hcv := run_convert_bytes_back (P := Try.prog) wr 59 9 5 ⟨g, 0, none⟩ cap (txtL n j) Try.underlying59 Try.underlying5 Try.underlying9 (by
        intro i hi
        have hil : i < j := by rw [txtL_len] at hi; exact hi
        have := hown'.cellAt i (by omega)
        rw [map_cellB_at _ i hi] at this
        rw [Addr.add_lit, Nat.zero_add]
        exact this)
      rw [txtL_len] at hcv
      clear hown'
      go_wp2
      go_ret
      exact ⟨rfl, hbel⟩
end Go.Proofs.Ytgjkplkghoeeeaa
