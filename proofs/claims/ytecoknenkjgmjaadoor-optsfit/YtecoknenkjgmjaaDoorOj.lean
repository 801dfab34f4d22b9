/- Plain facts of Fit, and its contract where options may not be: none at all; nothing that was there turns. -/
import Derived.Test.YtecoknenkjgmjaaDoorOi
namespace Go.Proofs.YtecoknenkjgmjaaDoor
open Go.RowKit

theorem lenK_mono (m : Int) (sd ok sp : Bool) {n n' : Nat} (h : n ≤ n') : lenK m sd ok sp n 5 ≤ lenK m sd ok sp n' 5 := by
  unfold lenK
  by_cases h1 : 0 < n
  · rw [if_pos (show 4 < 5 ∧ 0 < n from ⟨by omega, h1⟩), if_pos (show 4 < 5 ∧ 0 < n' from ⟨by omega, by omega⟩)]
    omega
  · rw [if_neg (show ¬ (4 < 5 ∧ 0 < n) by omega)]
    omega
theorem long_mono (m : Int) (sd ok sp : Bool) {n n' : Nat} (h : n ≤ n') : longN m sd ok sp n ≤ longN m sd ok sp n' := by
  have := lenK_mono m sd ok sp h
  unfold longN
  omega
theorem may_take {m c t ec : Int} {sd ok sp : Bool} {rs : List (Int × Int)} (h : mayO m c t ec sd ok sp rs = true) (k : Nat) : mayO m c t ec sd ok sp (rs.take k) = true := by
  unfold mayO at h ⊢
  simp only [Bool.and_eq_true, decide_eq_true_eq] at h ⊢
  obtain ⟨⟨h1, h2⟩, h3⟩ := h
  refine ⟨⟨h1, Nat.le_trans (long_mono m sd ok sp (by rw [List.length_take]; omega)) h2⟩, ?_⟩
  simp only [Bool.not_eq_true', List.any_eq_false] at h3 ⊢
  exact fun r hr => h3 r (List.mem_of_mem_take hr)
theorem fitN_room (m : Int) (sd ok sp : Bool) (most : Int) : ∀ n, fitN m sd ok sp most n = 0 ∨ (longN m sd ok sp (fitN m sd ok sp most n) : Int) ≤ most
  | 0 => .inl rfl
  | n + 1 => by
    unfold fitN
    split
    · rename_i h; exact .inr h
    · exact fitN_room m sd ok sp most n
theorem fitN_more (m : Int) (sd ok sp : Bool) (most : Int) : ∀ n, fitN m sd ok sp most n < n → most < (longN m sd ok sp (fitN m sd ok sp most n + 1) : Int)
  | 0, h => absurd h (Nat.not_lt_zero _)
  | n + 1, h => by
    unfold fitN at h ⊢
    split at h
    · omega
    · rename_i hn
      rw [if_neg hn]
      by_cases e : fitN m sd ok sp most n < n
      · exact fitN_more m sd ok sp most n e
      · have : fitN m sd ok sp most n = n := Nat.le_antisymm (fitN_le m sd ok sp most n) (by omega)
        rw [this]; omega
set_option maxRecDepth 100000 in
theorem fit_f (m c t ec : Int) (sd ok sp : Bool) (v : Value) (rs : List (Int × Int)) (most : Int) (w : World) (hv : Rgs w v rs) (hn : rs.length ≤ 17592186044416) (hm : mayO m c t ec sd ok sp rs = false) (hG : Ord w) :
    Calls Tryd.prog 17 #[.agg #[.int .i64 m, .int .i64 c, .int .i64 t, .int .i64 ec, .bool sd, .bool ok, .bool sp, v], .int .i64 most] w fun en w' => en = .returned (.agg #[.int .i64 0, .int .i64 0, .int .i64 0, .int .i64 0, .bool false, .bool false, .bool false, .slice none 0 0]) ∧ Below w.heap.size w w' := by
  have hb1 := bel1 w (.cells #[.int .i64 m, .int .i64 c, .int .i64 t, .int .i64 ec, .bool sd, .bool ok, .bool sp, v] 24)
  have hb2 := bel1 (w.alloc (.cells #[.int .i64 m, .int .i64 c, .int .i64 t, .int .i64 ec, .bool sd, .bool ok, .bool sp, v] 24)) (.cells #[.int .i64 0, .int .i64 0, .int .i64 0, .int .i64 0, .bool false, .bool false, .bool false, .slice none 0 0] 24)
  have hA := (At.box w #[.int .i64 m, .int .i64 c, .int .i64 t, .int .i64 ec, .bool sd, .bool ok, .bool sp, v] 24).later hb2
  have hR := At.box2 w (.cells #[.int .i64 m, .int .i64 c, .int .i64 t, .int .i64 ec, .bool sd, .bool ok, .bool sp, v] 24) #[.int .i64 0, .int .i64 0, .int .i64 0, .int .i64 0, .bool false, .bool false, .bool false, .slice none 0 0] 24
  have hl := bt hb1 hb2
  have hM := may_any m c t ec sd ok sp v rs _ (hv.later hl) hn (hG.later hl)
  rw [hm] at hM
  obtain ⟨⟨c0, c1, c2, c3, c4, c5, c6, c7⟩, -, -⟩ := hA.eight
  go_enter Tryd.func17, Tryd.ntmps17
  go_wp2_with fail
  refine hM.mono ?_
  rintro en w1 ⟨rfl, hb⟩
  replace hl := bt hl hb
  obtain ⟨⟨r0, r1, r2, r3, r4, r5, r6, r7⟩, ⟨g0, g1, g2, g3, g4, g5, g6, g7⟩, -⟩ := (hR.later hb).eight
  clear c0 c1 c2 c3 c4 c5 c6 c7 hA hR hb1 hb2
  go_wp2
  exact bodyPost_ret (v := .agg #[.int .i64 0, .int .i64 0, .int .i64 0, .int .i64 0, .bool false, .bool false, .bool false, .slice none 0 0]) (by simp [results, Tryd.results17, go_sem, r0, r1, r2, r3, r4, r5, r6, r7]) rfl ⟨rfl, below8 hl (Nat.le_succ _) _ _ _ _ _ _ _ _⟩
end Go.Proofs.YtecoknenkjgmjaaDoor
