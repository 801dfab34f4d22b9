/- NeighAges, walked. -/
import Derived.Test.YtjldcillackhdaaNh
namespace Go.Proofs.Ytjldcillackhdaa
open Go.RowKit Go.Maps Go.Proofs.Ytjldcillackhdaa.Eth Go.Proofs.Ytjldcillackhdaa.Eth.Arp
set_option maxRecDepth 100000
set_option linter.unusedVariables false
set_option linter.unusedSimpArgs false

theorem lookF_t {gk : Int → Option (Int × Int)} {ag k now m t : Int} (h : gk k = some (m, t)) (hn : ¬ t + ag ≤ now) : lookF gk ag k now = (m, true) := by unfold lookF; rw [h]; simp [hn]
theorem lookF_f {gk : Int → Option (Int × Int)} {ag k now m t : Int} (h : gk k = some (m, t)) (hn : t + ag ≤ now) : lookF gk ag k now = (0, false) := by unfold lookF; rw [h]; simp [hn]
theorem lookF_n {gk : Int → Option (Int × Int)} {ag k now : Int} (h : gk k = none) : lookF gk ag k now = (0, false) := by unfold lookF; rw [h]
theorem okT_put {gk : Int → Option (Int × Int)} (h : okT gk) {ip m t : Int} (hm : 0 ≤ m ∧ m ≤ 281474976710655) (ht : 0 ≤ t ∧ t ≤ 1099511627776) : okT (fun k => if k = ip then some (m, t) else gk k) := by
  intro k p hp
  by_cases hk : k = ip
  · simp only [hk, if_true, Option.some.injEq] at hp
    subst hp
    exact ⟨hm, ht⟩
  · simp only [hk, if_false] at hp
    exact h k p hp
set_option maxHeartbeats 8000000 in
theorem ages_any (age later_ mac_ : Int) (w : World) : Calls Try.prog 5 #[.int .i64 age, .int .i64 later_, .int .i64 mac_] w fun e w' => e = .returned (.bool true) ∧ Below w.heap.size w w' := by
  go_enter Try.func5, Try.ntmps5
  go_wp2_with fail
  refine (among_any age 100 w (by decide) (by decide)).mono ?_
  rintro e w0 ⟨rfl, rfl⟩
  have ha0 : 0 ≤ age % 100 := Int.emod_nonneg _ (by decide)
  have ha1 : age % 100 < 100 := Int.emod_lt_of_pos _ (by decide)
  generalize age % 100 = ae at *
  go_wp2_with fail
  refine (among_any later_ 100 _ (by decide) (by decide)).mono ?_
  rintro e w0 ⟨rfl, rfl⟩
  have hl0 : 0 ≤ later_ % 100 := Int.emod_nonneg _ (by decide)
  have hl1 : later_ % 100 < 100 := Int.emod_lt_of_pos _ (by decide)
  generalize later_ % 100 = lt at *
  go_wp2_with fail
  refine (among_any mac_ 1000 _ (by decide) (by decide)).mono ?_
  rintro e w0 ⟨rfl, rfl⟩
  have hm0 : 0 ≤ mac_ % 1000 := Int.emod_nonneg _ (by decide)
  have hm1 : mac_ % 1000 < 1000 := Int.emod_lt_of_pos _ (by decide)
  generalize mac_ % 1000 = me at *
  have q1 := bel1 w0 (.cells #[.int .i64 10] 3)
  have c0 : (w0.alloc (.cells #[.int .i64 10] 3)).cell? ⟨w0.heap.size, 0, none⟩ = some (.int .i64 10) := ((At.box w0 #[.int .i64 10] 3).2 0 _ rfl).1
  go_wp2_with fail
  refine (new_t 2 (1 + ae) 4 9 9 10 w0.heap.size 0 1 _ (decide_eq_true (by refine ⟨by omega, by decide, by omega, by omega, by omega, by omega⟩)) c0 (by decide)).mono ?_
  rintro e w1 ⟨C, M, A, g, c, rfl, hC, hO, hM, hA, ⟨l1, l2, l3, l4⟩, ⟨n1, n2, n3, n4⟩, hb1⟩
  have hCM := ne_at_vm hC rfl hM
  have hCA := ne_at_vm hC rfl hA
  have hs0 := q1.size
  go_wp2_with fail
  refine (works_any w1).mono ?_
  rintro e w2 ⟨rfl, hb2⟩
  have hC2 := hC.later hb2
  have hO2 := (hO.later hb2).low hs0
  have hM2 := KM.nil (hM.later hb2)
  have hA2 := AM.nil (hA.later hb2)
  have hbw2 := bt q1 (bt hb1 hb2)
  clear hC hO hM hA
  have hCw := hC2.1
  have hMw := hM2.lt
  have hAw := hA2.lt
  have hgw := hO2.lt g rfl
  have q3 := bel1 w2 (.cells #[.int .i64 1, .int .i64 (3 + me), .int .i64 11, .int .i64 0, .int .i64 10] 31)
  have hX := At.box w2 #[.int .i64 1, .int .i64 (3 + me), .int .i64 11, .int .i64 0, .int .i64 10] 31
  go_upto_region 8 with fail
  have hC3 := hC2.later q3
  have hO3 := hO2.later q3
  have hM3 := hM2.later q3
  have hA3 := hA2.later q3
  have hb3 := bt hbw2 q3
  clear hC2 hO2 hM2 hA2
  generalize w2.alloc (.cells #[.int .i64 1, .int .i64 (3 + me), .int .i64 11, .int .i64 0, .int .i64 10] 31) = w3 at *
  obtain ⟨⟨x0, x1, x2, x3, x4⟩, ⟨fz0, fz1, fz2, fz3, fz4⟩, xb⟩ := hX.five
  go_wp2_with fail
  refine (take_me C M A g 1 c 2 (1 + ae) 4 9 9 0 0 w0.heap.size [10] (3 + me) 11 0 10 5 (fun _ => none) (fun _ => none) w3 hC3 hO3 (by simp) (by simp) hM3 hA3 hCA hCM n1 n4 n2 n3 (fun k p h => by cases h) (by omega) (decide_eq_true (by refine ⟨Or.inl rfl, by omega, by omega, by omega, by omega, by omega⟩)) (by decide) (by decide) (by decide) (by decide) rfl (decide_eq_true (by refine ⟨Or.inr rfl, by omega, by decide, by omega, by omega, by omega⟩)) 0 0 (by decide) (fun k h => by cases h) (by decide) (by decide)).mono ?_
  rintro e w4 ⟨rfl, hC4, hM4, hA4, ht4⟩
  have hO4 := hO3.turn ht4 (fun k hk he => by simp [Value.ownBlock] at hk; omega)
  have hX4 := hX.turn ht4 (by omega)
  have hb4 : Below w0.heap.size w0 w4 := hb3.trans (ht4.below hb3.size (fun k hk he => by omega))
  have hok4 : okT (fun k => if k = 11 then some (3 + me, 5) else none) := okT_put (gk := fun _ => none) (fun k p h => by cases h) (by omega) (by decide)
  have hk4 : (fun k : Int => if k = 11 then some (3 + me, (5 : Int)) else none) 11 = some (3 + me, 5) := by simp
  have hky4 : ∀ k, ((fun k : Int => if k = 11 then some (3 + me, (5 : Int)) else none) k).isSome = true → 11 ≤ k ∧ k < 11 + (1 : Nat) := by
    intro k hk
    by_cases e : k = 11
    · omega
    · simp [e] at hk
  clear hC3 hO3 hM3 hA3 hX x0 x1 x2 x3 x4 fz0 fz1 fz2 fz3 fz4
  generalize (fun k : Int => if k = 11 then some (3 + me, (5 : Int)) else none) = gk1 at *
  have q5 := bel1 w4 (.cells #[.int .i64 2, .int .i64 2, .int .i64 10, .int .i64 (3 + me), .int .i64 11] 31)
  go_upto_region 11 with fail
  have hC5 := hC4.later q5
  have hO5 := hO4.later q5
  have hM5 := hM4.later q5
  have hA5 := hA4.later q5
  have hX5 := hX4.later q5
  have hb5 := bt hb4 q5
  clear hC4 hO4 hM4 hA4 hX4
  generalize w4.alloc (.cells #[.int .i64 2, .int .i64 2, .int .i64 10, .int .i64 (3 + me), .int .i64 11] 31) = w5 at *
  go_wp2_with fail
  refine (look_any C M A 2 (1 + ae) 4 9 9 5 0 _ gk1 11 _ w5 hC5 hM5 hok4 (by omega) (by decide)).mono ?_
  rintro e w6 ⟨rfl, hb6⟩
  rw [lookF_t hk4 (by omega)]
  have hC6 := hC5.later hb6
  have hM6 := hM5.later hb6
  go_wp2_with fail
  refine (look_any C M A 2 (1 + ae) 4 9 9 5 0 _ gk1 11 _ w6 hC6 hM6 hok4 (by omega) (by decide)).mono ?_
  rintro e w7 ⟨rfl, hb7⟩
  rw [lookF_f hk4 (by omega)]
  have hb57 := bt hb6 hb7
  have hC7 := hC5.later hb57
  have hO7 := hO5.later hb57
  have hM7 := hM5.later hb57
  have hA7 := hA5.later hb57
  have hX7 := hX5.later hb57
  have hbw7 := bt hb5 hb57
  clear hC5 hO5 hM5 hA5 hX5 hC6 hM6
  have x1 : w7.cell? ⟨w2.heap.size, 1, none⟩ = some (.int .i64 (3 + me)) := (hX7.2 1 _ rfl).1
  have fx1 : w7.frozen? ⟨w2.heap.size, 1, none⟩ = false := (hX7.2 1 _ rfl).2
  go_upto_region 14 with fail
  have ts := turn_set w7 w2.heap.size 1 (.int .i64 (3 + me + 1))
  have hX8 : At (w7.setCell ⟨w2.heap.size, 1, none⟩ (.int .i64 (3 + me + 1))) w2.heap.size #[.int .i64 1, .int .i64 (3 + me + 1), .int .i64 11, .int .i64 0, .int .i64 10] := hX7.set 1 _
  have hC8 := hC7.turn ts (by omega)
  have hO8 := hO7.turn ts (fun k hk he => by simp [Value.ownBlock] at hk; omega)
  have hM8 := hM7.turn ts (by omega)
  have hA8 := hA7.turn ts (by omega)
  have hs2 : w0.heap.size ≤ w2.heap.size := hbw2.size
  have hb8 : Below w0.heap.size w0 (w7.setCell ⟨w2.heap.size, 1, none⟩ (.int .i64 (3 + me + 1))) := hbw7.trans (ts.below hbw7.size (fun k hk he => by omega))
  clear hC7 hO7 hM7 hA7 hX7 x1 fx1
  generalize w7.setCell ⟨w2.heap.size, 1, none⟩ (.int .i64 (3 + me + 1)) = w8 at *
  obtain ⟨⟨x0, x1, x2, x3, x4⟩, -, xb8⟩ := hX8.five
  have hs8 : w2.heap.size < w8.heap.size := hX8.1
  go_wp2_with fail
  refine (take_me C M A g 1 c 2 (1 + ae) 4 9 9 5 0 w0.heap.size [10] (3 + me + 1) 11 0 10 (5 + lt) gk1 (fun _ => none) w8 hC8 hO8 (by simp) (by simp) hM8 hA8 hCA hCM n1 n4 n2 n3 hok4 (by omega) (decide_eq_true (by refine ⟨Or.inl rfl, by omega, by omega, by omega, by omega, by omega⟩)) (by omega) (by decide) (by decide) (by decide) rfl (decide_eq_true (by refine ⟨Or.inr rfl, by omega, by decide, by omega, by omega, by omega⟩)) 11 1 (by decide) hky4 (by decide) (by decide)).mono ?_
  rintro e w9 ⟨rfl, hC9, hM9, hA9, ht9⟩
  have hb9 : Below w0.heap.size w0 w9 := hb8.trans (ht9.below hb8.size (fun k hk he => by omega))
  have hok9 : okT (fun k => if k = 11 then some (3 + me + 1, 5 + lt) else gk1 k) := okT_put hok4 (by omega) (by omega)
  have hk9 : (fun k : Int => if k = 11 then some (3 + me + 1, 5 + lt) else gk1 k) 11 = some (3 + me + 1, 5 + lt) := by simp
  clear hC8 hO8 hM8 hA8 hX8 x0 x1 x2 x3 x4
  generalize (fun k : Int => if k = 11 then some (3 + me + 1, 5 + lt) else gk1 k) = gk2 at *
  have q10 := bel1 w9 (.cells #[.int .i64 2, .int .i64 2, .int .i64 10, .int .i64 (3 + me + 1), .int .i64 11] 31)
  go_upto_region 17 with fail
  have hCa := hC9.later q10
  have hMa := hM9.later q10
  have hba := bt hb9 q10
  clear hC9 hM9 hA9
  generalize w9.alloc (.cells #[.int .i64 2, .int .i64 2, .int .i64 10, .int .i64 (3 + me + 1), .int .i64 11] 31) = wa at *
  go_wp2_with fail
  refine (look_any C M A 2 (1 + ae) 4 9 9 (5 + lt) 0 _ gk2 11 _ wa hCa hMa hok9 (by omega) (by decide)).mono ?_
  rintro e wb ⟨rfl, hbb⟩
  rw [lookF_t hk9 (by omega)]
  have hCb := hCa.later hbb
  have hMb := hMa.later hbb
  go_wp2_with fail
  refine (look_any C M A 2 (1 + ae) 4 9 9 (5 + lt) 0 _ gk2 11 _ wb hCb hMb hok9 (by omega) (by decide)).mono ?_
  rintro e wc' ⟨rfl, hbc⟩
  rw [lookF_f hk9 (by omega)]
  go_wp2
  go_ret
  exact ⟨rfl, bt hba (bt hbb hbc)⟩
end Go.Proofs.Ytjldcillackhdaa
