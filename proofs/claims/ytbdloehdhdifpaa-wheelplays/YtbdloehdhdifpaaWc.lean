/- cmp.Compare, cmp.Or; the order of timers. -/
import Derived.Test.YtbdloehdhdifpaaWb
import Derived.Shelf.SlSortCmp.QuietGrown
namespace Go.Proofs.Ytbdloehdhdifpaa
open Go.RowKit Go.Maps Go.Lib Go.Sort
set_option maxRecDepth 100000
set_option linter.unusedVariables false
set_option linter.unusedSimpArgs false

def cmp3 (a b : Int) : Int := if a < b then -1 else if b < a then 1 else 0
theorem nan_any (a : Int) (w : World) : Calls Try.prog 43 #[.int .i64 a] w fun e w' => e = .returned (.bool false) ∧ w' = w := by
  go_enter Try.func43, Try.ntmps43
  go_wp2
  go_ret
  exact ⟨rfl, rfl⟩
theorem cmp_any (a b : Int) (w : World) : Calls Try.prog 32 #[.int .i64 a, .int .i64 b] w fun e w' => e = .returned (.int .i64 (cmp3 a b)) ∧ w' = w := by
  unfold cmp3
  by_cases h1 : a < b
  · rw [if_pos h1]
    go_enter Try.func32, Try.ntmps32
    go_wp2_with (go_at_call 43; refine (nan_any _ _).mono ?_; rintro e w1 ⟨rfl, rfl⟩)
    go_ret
    exact ⟨rfl, rfl⟩
  · rw [if_neg h1]
    by_cases h2 : b < a
    · rw [if_pos h2]
      go_enter Try.func32, Try.ntmps32
      go_wp2_with (go_at_call 43; refine (nan_any _ _).mono ?_; rintro e w1 ⟨rfl, rfl⟩)
      go_ret
      exact ⟨rfl, rfl⟩
    · rw [if_neg h2]
      go_enter Try.func32, Try.ntmps32
      go_wp2_with (go_at_call 43; refine (nan_any _ _).mono ?_; rintro e w1 ⟨rfl, rfl⟩)
      go_ret
      exact ⟨rfl, rfl⟩
def or3 (x y : Int) : Int := if x = 0 then y else x
set_option maxHeartbeats 1000000 in
theorem or_any (x y : Int) (g c : Nat) (w : World) (h0 : w.cell? ⟨g, 0, none⟩ = some (.int .i64 x)) (h1 : w.cell? ⟨g, 1, none⟩ = some (.int .i64 y)) : Calls Try.prog 31 #[.slice (some ⟨g, 0, none⟩) 2 c] w fun e w' => e = .returned (.int .i64 (or3 x y)) ∧ w' = w := by
  unfold or3
  by_cases hx : x = 0
  · subst hx
    rw [if_pos rfl]
    by_cases hy : y = 0
    · subst hy
      go_enter Try.func31, Try.ntmps31
      go_wp2
      refine wp_loop_rounds 3 ?_
      rw [rounds_succ]
      go_wp2
      rw [rounds_succ]
      go_wp2
      rw [rounds_succ]
      go_wp2
      go_ret
      exact ⟨rfl, rfl⟩
    · go_enter Try.func31, Try.ntmps31
      go_wp2
      refine wp_loop_rounds 2 ?_
      rw [rounds_succ]
      go_wp2
      rw [rounds_succ]
      go_wp2
      go_ret
      exact ⟨rfl, rfl⟩
  · rw [if_neg hx]
    go_enter Try.func31, Try.ntmps31
    go_wp2
    refine wp_loop_rounds 1 ?_
    rw [rounds_succ]
    go_wp2
    go_ret
    exact ⟨rfl, rfl⟩
def tkT (L : List Tm) (n : Int) : Int := (lkT L n).getD 0
def ordV (L : List Tm) (x y : Int) : Int := or3 (cmp3 (tkT L x) (tkT L y)) (cmp3 x y)
set_option maxHeartbeats 2000000 in
theorem order_any (B M : Nat) (now x y : Int) (L : List Tm) (w : World) (hW : WH w B M now L) (hL : WL L) (hx : (Lit.int .i64 x).wf = true) (hy : (Lit.int .i64 y).wf = true) :
    Calls Try.prog 28 #[.pointer (some ⟨B, 0, none⟩), .int .i64 x, .int .i64 y] w fun e w' => e = .returned (.int .i64 (ordV L x y)) ∧ ∃ q os', w' = grow (w.drewN q) os' := by
  obtain ⟨hB, l, hM, hp⟩ := hW
  have c1 : w.cell? ⟨B, 1, none⟩ = some (.map (some M)) := (hB.2 1 _ rfl).1
  have vx : (vlk l x).getD (.int .i64 0) = .int .i64 (tkT L x) := by rw [vlk_is hM.2 hp hL.nod x, tkT]; cases lkT L x <;> rfl
  have vy : (vlk l y).getD (.int .i64 0) = .int .i64 (tkT L y) := by rw [vlk_is hM.2 hp hL.nod y, tkT]; cases lkT L y <;> rfl
  have lx : (Instr.lookup 49 (.map (some M)) (.int .i64 x) false).run Try.prog w.drew = .ok (.int .i64 (tkT L x)) w.drew := by
    have := (hM.later (w' := w.drew) (below_drewN (Below.refl _ _) 1)).look (k := x) Try.underlying49 zeroI hx
    rwa [vx] at this
  have ly : (Instr.lookup 49 (.map (some M)) (.int .i64 y) false).run Try.prog w.drew = .ok (.int .i64 (tkT L y)) w.drew := by
    have := (hM.later (w' := w.drew) (below_drewN (Below.refl _ _) 1)).look (k := y) Try.underlying49 zeroI hy
    rwa [vy] at this
  clear vx vy
  unfold ordV
  generalize tkT L x = tx at *
  generalize tkT L y = ty at *
  go_enter Try.func28, Try.ntmps28
  go_upto_region 1 with fail
  go_region_with (first
    | (go_at_call 32; refine (cmp_any _ _ _).mono ?_; rintro e w1 ⟨rfl, rfl⟩)
    | (go_at_call 31; refine (or_any (cmp3 tx ty) (cmp3 x y) w.heap.size 2 _ (by exact ((At.box w #[.int .i64 (cmp3 tx ty), .int .i64 (cmp3 x y)] 3).2 0 _ rfl).1) (by exact ((At.box w #[.int .i64 (cmp3 tx ty), .int .i64 (cmp3 x y)] 3).2 1 _ rfl).1)).mono ?_; rintro e w1 ⟨rfl, rfl⟩))
  all_goals
    go_wp2
    go_ret
    exact ⟨rfl, 1, #[.cells #[.int .i64 (cmp3 tx ty), .int .i64 (cmp3 x y)] 3], by first | rfl | (rw [alloc_eq_grow]; rfl)⟩
end Go.Proofs.Ytbdloehdhdifpaa
