/- works. -/
import Derived.Test.YthbpapgfjmpgaaaGreatKk
namespace Go.Proofs.YthbpapgfjmpgaaaGreat
open Go.RowKit Go.Maps
set_option maxRecDepth 100000
set_option linter.unusedVariables false
set_option linter.unusedSimpArgs false


theorem upS_same (s : Nat → Int) (i : Nat) (p : Int) : upS s i p i = p := if_pos rfl
theorem upS_other {s : Nat → Int} {i j : Nat} {p : Int} (h : j ≠ i) : upS s i p j = s j := if_neg h
theorem AS_ge {B T L n k : Nat} {v : Value} (hB : n ≤ B) (hT : n ≤ T) (hL : n ≤ L) (hv : ∀ k, v.ownBlock = some k → n ≤ k) (h : AS B T L v k) : n ≤ k := by
  rcases h with e | e | e | e
  · omega
  · omega
  · omega
  · exact hv k e
theorem one_at : ∀ i, i < 1 → upS (fun _ => 0) 0 80 i ≠ 0 := by
  intro i hi
  obtain rfl : i = 0 := by omega
  rw [upS_same]
  decide
set_option maxHeartbeats 2000000 in
theorem works_any (w : World) : Calls Tryz.prog 6 #[] w fun e w' => e = .returned (.bool true) ∧ Below w.heap.size w w' := by
  have HT1 : Hid (TurnC 1 0 80 (fun _ => 0) [] 0 ((0 : Nat) : Int) true (upS (fun _ => 0) 0 80) (vput [] (80, EV))) := turn_listen (m := 0) (by decide) rfl (fun i hi => by omega) (by decide) (by decide) rfl (by decide)
  have HT2 : Hid (TurnC 2 ((0 : Nat) : Int) 0 (upS (fun _ => 0) 0 80) (vput [] (80, EV)) 0 0 false (upS (fun _ => 0) 0 80) (vput [] (80, EV))) := turn_accept (m := 1) (by decide) (by rw [upS_same]; decide) (by decide) rfl one_at
  go_enter Tryz.func6, Tryz.ntmps6
  go_wp2_with fail
  refine (setup_any w).mono ?_
  rintro e x1 ⟨rfl, hb1⟩
  go_wp2_with fail
  refine (new_t x1).mono ?_
  rintro e x2 ⟨B, T, L, M, rfl, h2, hB, hT, hL, hM, hb2⟩
  go_wp2_with fail
  refine (ask_done (tag := 5) (now := 0) HT1.out (by decide) (by decide) h2).mono ?_
  rintro e x3 ⟨D, cp, v3, rfl, hD1, hD2, hD, h3, hv3, ht3⟩
  have b2 := bt hb1 hb2
  have hw1 := hb1.size
  have b3 : Below w.heap.size w x3 := b2.trans (ht3.below b2.size (fun k hk e => by have := AS_ge (n := w.heap.size) (by omega) (by omega) (by omega) (fun k hk => by cases hk) e; omega))
  have hv3' : ∀ k, v3.ownBlock = some k → w.heap.size ≤ k := fun k hk => by
    rcases hv3 with e | e
    · rw [e] at hk; cases hk
    · have := e k hk; have := b2.size; omega
  have hlt2 := h2.sk.lt
  clear h2 ht3 hb1 hb2
  go_wp2_with fail
  refine (ask_wait (tag := 6) (now := 0) HT2.out (by decide) (by decide) h3).mono ?_
  rintro e x4 ⟨g, cap, W, rfl, hr4, hW4, h4, ht4⟩
  have b4 : Below w.heap.size w x4 := b3.trans (ht4.below b3.size (fun k hk e => by have := AS_ge (n := w.heap.size) (by omega) (by omega) (by omega) hv3' e; omega))
  have hD4 := hD.turn ht4 (fun e => by
    rcases e with e | e | e | e
    · omega
    · omega
    · omega
    · exact hD2 _ e rfl)
  obtain ⟨r0, r1, r2, r3, r4, -⟩ := hD4.five
  have hwt := waiting_one h4 hr4 hW4
  clear HT1 HT2 hD4 hD h3 hv3 hv3' ht4 b3 b2 hlt2 hr4 hW4 h4 hw1
  go_wp2_with fail
  refine hwt.mono ?_
  rintro e x5 ⟨u, rfl, hI, hb5⟩
  obtain ⟨ua, uc, rfl, hrow⟩ := hI.row
  have q6 := bel1 x5 (.cells #[.int .i64 6] 3)
  have hr2 := row_of (ints_one x5 6)
  have hsm := same_any ua uc (some ⟨x5.heap.size, 0, none⟩) 1 [6] (x5.alloc (.cells #[.int .i64 6] 3)) (by decide) (hrow.later q6) hr2
  clear hI hrow hr2 hwt r0 r1 r2 r3 r4
  go_wp2_with fail
  refine hsm.mono ?_
  rintro e x6 ⟨rfl, hb6⟩
  have b6 := bt b4 (bt hb5 (bt q6 hb6))
  go_wp2
  go_ret
  exact ⟨rfl, b6⟩
end Go.Proofs.YthbpapgfjmpgaaaGreat
