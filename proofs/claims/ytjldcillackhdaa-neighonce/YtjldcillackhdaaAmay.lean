/- The contract of mayBe of package arp: whether a packet may be; nothing that was there turns. -/
import Derived.Test.YtjldcillackhdaaArps
import Derived.Deep.RegionHeld3
import Derived.Deep.QuietTactic
import Derived.BigQuiet
import Derived.WalkSmall
namespace Go.Proofs.Ytjldcillackhdaa.Eth.Arp
open Go.RowKit
set_option maxRecDepth 100000

theorem neb {a b : Int} (h : ¬ a = b) : (a != b) = true := by simpa using h
theorem op_ways {o : Int} (h : o = 1 ∨ o = 2) : (o != 1) = false ∨ (o != 1) = true ∧ (o != 2) = false := by rcases h with rfl | rfl <;> simp
theorem amay_op (o fm fi tm ti : Int) (w : World) (h1 : ¬ o = 1) (h2 : ¬ o = 2) :
    Calls Try.prog 41 #[.agg #[.int .i64 o, .int .i64 fm, .int .i64 fi, .int .i64 tm, .int .i64 ti]] w fun e w' => e = .returned (.bool false) ∧ Below w.heap.size w w' := by
  have b1 := neb h1
  have b2 := neb h2
  go_enter Try.func41, Try.ntmps41
  go_wp2
  go_ret
  exact ⟨rfl, bel1 _ _⟩

theorem pg_1 {n : Int} (h : macB n = false) (w : World) : Calls Try.prog 51 #[.int .i64 n] w fun e w' => e = .returned (.tuple #[.bool false, .int .i64 1]) ∧ w' = w := by
  have := pgroup_any n w; rw [h] at this; exact this
theorem pg_2 {n : Int} (h : macB n = true) (g : grpB n = true) (w : World) : Calls Try.prog 51 #[.int .i64 n] w fun e w' => e = .returned (.tuple #[.bool true, .int .i64 0]) ∧ w' = w := by
  have := pgroup_any n w; rw [h, g] at this; exact this
theorem pg_3 {n : Int} (h : macB n = true) (g : grpB n = false) (w : World) : Calls Try.prog 51 #[.int .i64 n] w fun e w' => e = .returned (.tuple #[.bool false, .int .i64 0]) ∧ w' = w := by
  have := pgroup_any n w; rw [h, g] at this; exact this
theorem amay_mac (o fm fi tm ti : Int) (w : World) (ho : o = 1 ∨ o = 2) (h : macB fm = false ∨ macB fm = true ∧ grpB fm = true) :
    Calls Try.prog 41 #[.agg #[.int .i64 o, .int .i64 fm, .int .i64 fi, .int .i64 tm, .int .i64 ti]] w fun e w' => e = .returned (.bool false) ∧ Below w.heap.size w w' := by
  have hx := box5 w (.int .i64 o) (.int .i64 fm) (.int .i64 fi) (.int .i64 tm) (.int .i64 ti) 31
  have hbel := bel1 w
  rcases op_ways ho with ho | ⟨ho, ho2⟩
  all_goals
    rcases h with h | ⟨h, g⟩
    all_goals
      go_enter Try.func41, Try.ntmps41
      go_wp2_with fail
      first | refine (pg_2 h g _).mono ?_ | refine (pg_1 h _).mono ?_
      rintro e w1 ⟨rfl, rfl⟩
      go_wp2
      go_quiet (fail)
      go_wp2
      go_ret
      exact ⟨rfl, below_drewN (hbel _) _⟩

set_option maxHeartbeats 2000000 in
theorem amay_rest (o fm fi tm ti : Int) (b : Bool) (w : World) (ho : o = 1 ∨ o = 2) (h : macB fm = true) (g : grpB fm = false)
    (hb : b = true ∧ fi = fi % 4294967296 ∧ tm = tm % 281474976710656 ∧ ti = ti % 4294967296 ∨ b = false ∧ ¬ fi = fi % 4294967296 ∨ b = false ∧ fi = fi % 4294967296 ∧ ¬ tm = tm % 281474976710656 ∨ b = false ∧ fi = fi % 4294967296 ∧ tm = tm % 281474976710656 ∧ ¬ ti = ti % 4294967296) :
    Calls Try.prog 41 #[.agg #[.int .i64 o, .int .i64 fm, .int .i64 fi, .int .i64 tm, .int .i64 ti]] w fun e w' => e = .returned (.bool b) ∧ Below w.heap.size w w' := by
  have hx := box5 w (.int .i64 o) (.int .i64 fm) (.int .i64 fi) (.int .i64 tm) (.int .i64 ti) 31
  have hbel := bel1 w
  have hn := fun W => narrow_any o fm fi tm ti W
  generalize fi % 4294967296 = fi' at *
  generalize tm % 281474976710656 = tm' at *
  generalize ti % 4294967296 = ti' at *
  rcases op_ways ho with ho | ⟨ho, ho2⟩
  all_goals
    rcases hb with ⟨rfl, rfl, rfl, rfl⟩ | ⟨rfl, q⟩ | ⟨rfl, rfl, q⟩ | ⟨rfl, rfl, rfl, q⟩
    all_goals
      go_enter Try.func41, Try.ntmps41
      go_wp2_with fail
      refine (pg_3 h g _).mono ?_
      rintro e w1 ⟨rfl, rfl⟩
      go_wp2
      have hx5 := And.intro (hbel (.cells #[.int .i64 o, .int .i64 fm, .int .i64 fi, .int .i64 tm, .int .i64 ti] 31)) hx
      clear hx hbel
      generalize w.alloc (.cells #[.int .i64 o, .int .i64 fm, .int .i64 fi, .int .i64 tm, .int .i64 ti] 31) = W0 at hx5 ⊢
      go_region_held3 (fun W => Below w.heap.size w W ∧ W.cell? ⟨w.heap.size, 0, none⟩ = some (.int .i64 o) ∧ W.cell? ⟨w.heap.size, 1, none⟩ = some (.int .i64 fm) ∧ W.cell? ⟨w.heap.size, 2, none⟩ = some (.int .i64 fi) ∧ W.cell? ⟨w.heap.size, 3, none⟩ = some (.int .i64 tm) ∧ W.cell? ⟨w.heap.size, 4, none⟩ = some (.int .i64 ti)) (first | exact ⟨hx5.1.drew, hx5.2.1, hx5.2.2.1, hx5.2.2.2.1, hx5.2.2.2.2.1, hx5.2.2.2.2.2⟩ | (refine keep5 hb ?_; assumption)) ((go_at_call 55; refine (hn _).mono ?_; rintro e w' ⟨rfl, hb⟩))
      all_goals
        go_wp2
        go_ret
        rename_i hq
        exact ⟨rfl, hq.1⟩

theorem ip_fit (n : Int) : n = n % 4294967296 ↔ 0 ≤ n ∧ n ≤ 4294967295 := by omega
theorem mac_fit (n : Int) : n = n % 281474976710656 ↔ 0 ≤ n ∧ n ≤ 281474976710655 := by omega

theorem amay_any (o fm fi tm ti : Int) (w : World) :
    Calls Try.prog 41 #[.agg #[.int .i64 o, .int .i64 fm, .int .i64 fi, .int .i64 tm, .int .i64 ti]] w fun e w' => e = .returned (.bool (mayA o fm fi tm ti)) ∧ Below w.heap.size w w' := by
  by_cases ho : o = 1 ∨ o = 2
  · by_cases hm : 0 ≤ fm ∧ fm ≤ 281474976710655
    · by_cases hg : fm / 1099511627776 % 2 = 0
      · apply amay_rest _ _ _ _ _ _ _ ho (macB_t hm) (grpB_f hg)
        by_cases h1 : fi = fi % 4294967296
        · by_cases h2 : tm = tm % 281474976710656
          · by_cases h3 : ti = ti % 4294967296
            · exact .inl ⟨mayA_t ⟨ho, hm, hg, (ip_fit _).1 h1, (mac_fit _).1 h2, (ip_fit _).1 h3⟩, h1, h2, h3⟩
            · exact .inr (.inr (.inr ⟨mayA_f fun h => h3 ((ip_fit _).2 h.2.2.2.2.2), h1, h2, h3⟩))
          · exact .inr (.inr (.inl ⟨mayA_f fun h => h2 ((mac_fit _).2 h.2.2.2.2.1), h1, h2⟩))
        · exact .inr (.inl ⟨mayA_f fun h => h1 ((ip_fit _).2 h.2.2.2.1), h1⟩)
      · rw [mayA_f (fun h => hg h.2.2.1)]
        exact amay_mac _ _ _ _ _ _ ho (.inr ⟨macB_t hm, grpB_t (by omega)⟩)
    · rw [mayA_f (fun h => hm h.2.1)]
      exact amay_mac _ _ _ _ _ _ ho (.inl (macB_f hm))
  · rw [mayA_f (fun h => ho h.1)]
    exact amay_op _ _ _ _ _ _ (fun h => ho (.inl h)) (fun h => ho (.inr h))

end Go.Proofs.Ytjldcillackhdaa.Eth.Arp
