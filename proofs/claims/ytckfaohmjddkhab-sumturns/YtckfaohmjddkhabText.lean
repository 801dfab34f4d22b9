/- The contracts of sum.put and of the document's Text: each returns the bytes of the number, the highest first; nothing that was there turns. -/
import Derived.Test.YtckfaohmjddkhabCalls
namespace Go.Proofs.Ytckfaohmjddkhab
open Go.RowKit

theorem Try.info5 : (Try.prog.info? 5).map (fun i => (i.zero, i.size, i.bytes)) = some (some (.int .u8 0), 1, 1) := by kernel_rfl

theorem put_any (n : Int) (k : Nat) (w : World) (k0 : 1 ≤ k) (k1 : k ≤ 6) :
    Calls Try.prog 12 #[.int .i64 n, .int .i64 k] w fun e w' => e = .returned (.string (txt n k)) ∧ Below w.heap.size w w' := by
  obtain ⟨i0, hi, hz0, hz1, hz2⟩ := info_parts Try.info5
  go_enter Try.func12, Try.ntmps12
  go_wp2_with (at_make; refine wpList_make_full _ rfl _ _ 33 rfl w.heap.size 5 i0 (.int .u8 0) 1 Try.underlying33 hi hz0 hz1 .i64 .i64 _ _ k rfl rfl rfl rfl (by rw [hz2]; omega) (by unfold maxLen; omega) (Nat.le_refl _) ?_)
  intro w1 hown hgrow
  have hb := (Below.refl w.heap.size w).grown hgrow (Nat.le_refl _) (fun k e => by cases e)
  clear hgrow hi hz0 hz1 hz2
  have hown2 : w1.ownsRow w.heap.size 5 1 (.slice (some ⟨w.heap.size, 0, none⟩) k k) k (cellsAt n k 0) := by
    rw [cellsAt_zero]
    have e := toList_madeCells_one (.int .u8 0) (k * 1)
    rw [Nat.mul_one] at e
    rw [← e]
    exact hown
  clear hown
  go_wp2
  go_loopw [11] (fun i wr => ∃ j : Nat, j ≤ k ∧ i = .int .i64 j ∧ wr.ownsRow w.heap.size 5 1 (.slice (some ⟨w.heap.size, 0, none⟩) k k) k (cellsAt n k j) ∧ Below w.heap.size w wr) (fun i _ => k - (intOf i).toNat)
  case atStart => exact ⟨0, Nat.zero_le _, rfl, hown2, hb⟩
  case round =>
    obtain ⟨j, hj, rfl, hown', hbel⟩ := hrel
    by_cases hlt : j < k
    · have hcell := hown'.cellAt j (by omega)
      have hfr := hown'.frozenAt j
      rw [cellsAt_at n k j hlt] at hcell
      have HO : Hid (wr.ownsRow w.heap.size 5 1 (.slice (some ⟨w.heap.size, 0, none⟩) k k) k (cellsAt n k j)) := hown'
      clear hown' hown2
      go_wp2
      go_roundw
      case rel =>
        have hs := HO.out.stored j (.int .u8 (n / 2 ^ (8 * (k - 1 - j)) % 256))
        rw [cellsAt_set n k j hlt] at hs
        exact ⟨j + 1, by omega, by go_num, hs.1, hbel.setCell (Nat.le_refl _) _⟩
      case measure => simp [intOf]; omega
    · have hj' : j = k := by omega
      subst hj'
      have hcv := run_convert_bytes_back (P := Try.prog) wr 33 9 5 ⟨w.heap.size, 0, none⟩ j (txtL n j) Try.underlying33 Try.underlying5 Try.underlying9 (by
        intro i hi
        have hil : i < j := by rw [txtL_len] at hi; exact hi
        rw [cellsAt_full] at hown'
        have := hown'.cellAt i (by omega)
        rw [map_cellB_at _ i hi] at this
        rw [Addr.add_lit, Nat.zero_add]
        exact this)
      rw [txtL_len] at hcv
      go_wp2
      go_ret
      exact ⟨rfl, hbel⟩

end Go.Proofs.Ytckfaohmjddkhab
