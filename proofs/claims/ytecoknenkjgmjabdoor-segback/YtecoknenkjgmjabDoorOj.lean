/- Plain facts of Fit, and its contract where options may not be: none at all; nothing that was there turns. -/
import Derived.Test.YtecoknenkjgmjabDoorOi
namespace Go.Proofs.YtecoknenkjgmjabDoor
open Go.RowKit
set_option maxRecDepth 100000

theorem lenK_mono (m : Int) (sd ok sp : Bool) {n n' : Nat} (h : n ≤ n') : lenK m sd ok sp n 5 ≤ lenK m sd ok sp n' 5 := by
  unfold lenK
  by_cases h1 : 0 < n
  · rw [if_pos (show 4 < 5 ∧ 0 < n from ⟨by omega, h1⟩), if_pos (show 4 < 5 ∧ 0 < n' from ⟨by omega, by omega⟩)]
    omega
  · rw [if_neg (show ¬ (4 < 5 ∧ 0 < n) by omega)]
    omega
theorem long_mono (m : Int) (sd ok sp : Bool) {n n' : Nat} (h : n ≤ n') : longN m sd ok sp n ≤ longN m sd ok sp n' := by
  have := lenK_mono m sd ok sp h
  unfold longN
  omega
theorem may_take {m c t ec : Int} {sd ok sp : Bool} {rs : List (Int × Int)} (h : mayO m c t ec sd ok sp rs = true) (k : Nat) : mayO m c t ec sd ok sp (rs.take k) = true := by
  unfold mayO at h ⊢
  simp only [Bool.and_eq_true, decide_eq_true_eq] at h ⊢
  obtain ⟨⟨h1, h2⟩, h3⟩ := h
  refine ⟨⟨h1, Nat.le_trans (long_mono m sd ok sp (by rw [List.length_take]; omega)) h2⟩, ?_⟩
  simp only [Bool.not_eq_true', List.any_eq_false] at h3 ⊢
  exact fun r hr => h3 r (List.mem_of_mem_take hr)
theorem fitN_room (m : Int) (sd ok sp : Bool) (most : Int) : ∀ n, fitN m sd ok sp most n = 0 ∨ (longN m sd ok sp (fitN m sd ok sp most n) : Int) ≤ most
  | 0 => .inl rfl
  | n + 1 => by
    unfold fitN
    split
    · rename_i h; exact .inr h
    · exact fitN_room m sd ok sp most n
theorem fitN_more (m : Int) (sd ok sp : Bool) (most : Int) : ∀ n, fitN m sd ok sp most n < n → most < (longN m sd ok sp (fitN m sd ok sp most n + 1) : Int)
  | 0, h => absurd h (Nat.not_lt_zero _)
  | n + 1, h => by
    unfold fitN at h ⊢
    split at h
    · omega
    · rename_i hn
      rw [if_neg hn]
      by_cases e : fitN m sd ok sp most n < n
      · exact fitN_more m sd ok sp most n e
      · have : fitN m sd ok sp most n = n := Nat.le_antisymm (fitN_le m sd ok sp most n) (by omega)
        rw [this]; omega
end Go.Proofs.YtecoknenkjgmjabDoor
