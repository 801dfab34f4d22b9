/- Own that takes an address away; NeighClaims, walked. -/
import Derived.Test.YtjldcillackhdaaNi
namespace Go.Proofs.Ytjldcillackhdaa
open Go.Sort Go.RowKit Go.Maps Go.Proofs.Ytjldcillackhdaa.Eth Go.Proofs.Ytjldcillackhdaa.Eth.Arp
set_option maxRecDepth 100000
set_option linter.unusedVariables false
set_option linter.unusedSimpArgs false

theorem Ints.cut {w : World} {base g n c : Nat} {zs : List Int} (h : Ints w base (.slice (some ⟨g, 0, none⟩) n c) zs) : Ints w base (.slice (some ⟨g, 0, none⟩) 0 c) [] := by
  rcases h.2 with ⟨h2, -⟩ | ⟨g2, cap2, cur2, h2, a1, a2, a3, a4, a5, a6⟩
  · cases h2
  · injection h2 with e1 e2 e3
    injection e1 with e1
    injection e1 with e1 _ _
    subst e1
    subst e3
    exact ⟨by simp, Or.inr ⟨g, c, cur2, rfl, a1, a2, Nat.zero_le _, a4, a5, by simp⟩⟩
theorem delete_one (base g c : Nat) (x : Int) (w : World) (h : Ints w base (.slice (some ⟨g, 0, none⟩) 1 c) [x]) :
    Calls Try.prog 35 #[(.slice (some ⟨g, 0, none⟩) 1 c), .int .i64 0, .int .i64 1] w fun e w' => e = .returned (.slice (some ⟨g, 0, none⟩) 0 c) ∧ Ints w' base (.slice (some ⟨g, 0, none⟩) 0 c) [] ∧ Turn (fun k => k = g) w w' := by
  rcases h.2 with ⟨h2, -⟩ | ⟨g2, cap2, cur2, h2, a1, a2, a3, a4, a5, a6⟩
  · cases h2
  · injection h2 with e1 e2 e3
    injection e1 with e1
    injection e1 with e1 _ _
    subst e1
    subst e3
    have hH := holds_of_blockI (ss := [x]) a2 (by simpa using a6)
    refine (Any.slices_Delete_int Try.lays2_23 g 0 c 0 1 [x] w hH a3 (by unfold maxLen at a4; omega) (by decide) (by simp)).mono ?_
    rintro e w' ⟨rfl, q, rfl⟩
    have hgr : putRow (Value.int .i64) (Sort.ahead w q) g 0 ([x].take 0 ++ [x].drop 1 ++ List.replicate (1 - 0) 0).toArray = grow (putRow (Value.int .i64) (Sort.ahead w q) g 0 [(0 : Int)].toArray) #[] := by
      simp [grow]
      rfl
    rw [hgr]
    have hr : Ints (grow (putRow (Value.int .i64) (Sort.ahead w q) g 0 [(0 : Int)].toArray) #[]) base (.slice (some ⟨g, 0, none⟩) 1 c) [0] := ownsRow_sortedI (ss := [x]) (ts := [0]) rfl a1 a2 a3 a4 a5
    exact ⟨rfl, hr.cut, Turn.of_grown (grownBy_sortedI _) (fun j hj => by cases hj; exact Or.inl rfl)⟩
theorem own_del (C M A g c : Nat) (mac ag pa ro wa la wt : Int) (base : Nat) (x : Int) (w : World) (hC : At w C (cV mac ag pa ro wa (.slice (some ⟨g, 0, none⟩) 1 c) la M A wt)) (hO : Ints w base (.slice (some ⟨g, 0, none⟩) 1 c) [x]) (hgC : g ≠ C) (hx : ipB x = true) :
    Calls Try.prog 16 #[.pointer (some ⟨C, 0, none⟩), .int .i64 x, .bool false] w fun e w' => e = .returned (.int .i64 0) ∧ At w' C (cV mac ag pa ro wa (.slice (some ⟨g, 0, none⟩) 0 c) la M A wt) ∧ Ints w' base (.slice (some ⟨g, 0, none⟩) 0 c) [] ∧ Turn (fun k => k = g ∨ k = C) w w' := by
  have c5 : w.cell? ⟨C, 5, none⟩ = some (.slice (some ⟨g, 0, none⟩) 1 c) := (hC.2 5 _ rfl).1
  go_enter Try.func16, Try.ntmps16
  go_wp2_with fail
  refine (isip_any x w).mono ?_
  rintro e w1 ⟨rfl, rfl⟩
  rw [hx]
  go_wp2_with fail
  refine (search_any base g 1 c [x] x _ hO (by simp) (by simp)).mono ?_
  rintro e w2 ⟨rfl, q, hq⟩
  have hb2 : Below w1.heap.size w1 w2 := by rw [hq]; exact below_drewN (Below.refl _ _) q
  clear hq
  rw [show [x].countP (fun y => decide (y < x)) = 0 by simp, show [x].contains x = true by simp]
  have hC2 := hC.later hb2
  have hO2 := hO.later hb2
  have d5 : w2.cell? ⟨C, 5, none⟩ = some (.slice (some ⟨g, 0, none⟩) 1 c) := (hC2.2 5 _ rfl).1
  go_wp2_with fail
  refine (delete_one base g c x w2 hO2).mono ?_
  rintro e w3 ⟨rfl, hO3, ht3⟩
  have hC3 := hC2.turn ht3 (Ne.symm hgC)
  have e5 : w3.cell? ⟨C, 5, none⟩ = some (.slice (some ⟨g, 0, none⟩) 1 c) := (hC3.2 5 _ rfl).1
  have f5 : w3.frozen? ⟨C, 5, none⟩ = false := (hC3.2 5 _ rfl).2
  go_wp2
  go_ret
  have ts := turn_set w3 C 5 (.slice (some ⟨g, 0, none⟩) 0 c)
  exact ⟨rfl, hC3.set 5 _, hO3.turn ts (fun k hk he => by simp [Value.ownBlock] at hk; omega), ((Turn.of_below hb2).step ht3 (fun j hj => Or.inl (Or.inl hj))).step ts (fun j hj => Or.inl (Or.inr hj))⟩
theorem keys_one {gk : Int → Option (Int × Int)} {ip : Int} {p : Int × Int} (h : ∀ k, (gk k).isSome = true → ip ≤ k ∧ k < ip + (1 : Nat)) : ∀ k, ((fun k => if k = ip then some p else gk k) k).isSome = true → ip ≤ k ∧ k < ip + (1 : Nat) := by
  intro k hk
  by_cases e : k = ip
  · omega
  · simp only [e, if_false] at hk
    exact h k hk
set_option maxHeartbeats 8000000 in
theorem claims_any (mac_ ip_ other_ : Int) (w : World) : Calls Try.prog 4 #[.int .i64 mac_, .int .i64 ip_, .int .i64 other_] w fun e w' => e = .returned (.bool true) ∧ Below w.heap.size w w' := by
  go_enter Try.func4, Try.ntmps4
  go_wp2_with fail
  refine (cache_any w).mono ?_
  rintro e w1 ⟨C, M, A, g, c, rfl, hC, hO, hM, hA, ⟨l1, l2, l3, l4⟩, ⟨n1, n2, n3, n4⟩, hb1⟩
  have hCM := ne_at_vm hC rfl hM
  have hCA := ne_at_vm hC rfl hA
  go_wp2_with fail
  refine (works_any w1).mono ?_
  rintro e w2 ⟨rfl, hb2⟩
  have hC2 := hC.later hb2
  have hO2 := hO.later hb2
  have hM2 := KM.nil (hM.later hb2)
  have hA2 := AM.nil (hA.later hb2)
  have hbw2 := bt hb1 hb2
  clear hC hO hM hA
  go_wp2_with fail
  refine (among_any mac_ 1000 _ (by decide) (by decide)).mono ?_
  rintro e w0 ⟨rfl, rfl⟩
  have hm0 : 0 ≤ mac_ % 1000 := Int.emod_nonneg _ (by decide)
  have hm1 : mac_ % 1000 < 1000 := Int.emod_lt_of_pos _ (by decide)
  generalize mac_ % 1000 = me at *
  go_wp2_with fail
  refine (among_any ip_ 1000 _ (by decide) (by decide)).mono ?_
  rintro e w0 ⟨rfl, rfl⟩
  have hi0 : 0 ≤ ip_ % 1000 := Int.emod_nonneg _ (by decide)
  have hi1 : ip_ % 1000 < 1000 := Int.emod_lt_of_pos _ (by decide)
  generalize ip_ % 1000 = ie at *
  go_wp2_with fail
  refine (among_any other_ 1000 _ (by decide) (by decide)).mono ?_
  rintro e w2 ⟨rfl, rfl⟩
  have ho0 : 0 ≤ other_ % 1000 := Int.emod_nonneg _ (by decide)
  have ho1 : other_ % 1000 < 1000 := Int.emod_lt_of_pos _ (by decide)
  generalize other_ % 1000 = oe at *
  have hCw := hC2.1
  have hMw := hM2.lt
  have hAw := hA2.lt
  have hgw := hO2.lt g rfl
  go_wp2_with fail
  refine (ask_t (mac := 3 + me) (ip := 20 + ie) (want := 10) (decide_eq_true (by refine ⟨Or.inl rfl, by omega, by omega, by omega, by omega, by omega⟩)) w2).mono ?_
  rintro e w3 ⟨rfl, hb3⟩
  have q3 := bel1 w3 (.cells #[.int .i64 1, .int .i64 (3 + me), .int .i64 (20 + ie), .int .i64 0, .int .i64 10] 31)
  have hX := At.box w3 #[.int .i64 1, .int .i64 (3 + me), .int .i64 (20 + ie), .int .i64 0, .int .i64 10] 31
  have hb3' := bt hb3 q3
  go_upto_region 6 with fail
  have hC3 := hC2.later hb3'
  have hO3 := hO2.later hb3'
  have hM3 := hM2.later hb3'
  have hA3 := hA2.later hb3'
  have hbw3 := bt hbw2 hb3'
  have hs3 := hb3.size
  clear hC2 hO2 hM2 hA2
  generalize w3.alloc (.cells #[.int .i64 1, .int .i64 (3 + me), .int .i64 (20 + ie), .int .i64 0, .int .i64 10] 31) = w4 at *
  obtain ⟨⟨x0, x1, x2, x3, x4⟩, -, xb⟩ := hX.five
  have hno : ([10] : List Int).contains (20 + ie) = false := by simp; omega
  go_wp2_with fail
  refine (take_me C M A g 1 c 2 50 4 9 30 0 0 w.heap.size [10] (3 + me) (20 + ie) 0 10 1 (fun _ => none) (fun _ => none) w4 hC3 hO3 (by simp) (by simp) hM3 hA3 hCA hCM n1 n4 n2 n3 (fun k p h => by cases h) (by decide) (decide_eq_true (by refine ⟨Or.inl rfl, by omega, by omega, by omega, by omega, by omega⟩)) (by decide) (by decide) hno (by decide) rfl (decide_eq_true (by refine ⟨Or.inr rfl, by omega, by decide, by omega, by omega, by omega⟩)) 0 0 (by omega) (fun k h => by cases h) (by decide) (by decide)).mono ?_
  rintro e w5 ⟨rfl, hC5, hM5, hA5, ht5⟩
  have hO5 := hO3.turn ht5 (fun k hk he => by simp [Value.ownBlock] at hk; omega)
  have hX5 := hX.turn ht5 (by omega)
  have hb5 : Below w.heap.size w w5 := hbw3.trans (ht5.below hbw3.size (fun k hk he => by omega))
  have hok5 : okT (fun k => if k = 20 + ie then some (3 + me, 1) else none) := okT_put (gk := fun _ => none) (fun k p h => by cases h) (by omega) (by decide)
  have hk5 : (fun k : Int => if k = 20 + ie then some (3 + me, (1 : Int)) else none) (20 + ie) = some (3 + me, 1) := by simp
  have hky5 : ∀ k, ((fun k : Int => if k = 20 + ie then some (3 + me, (1 : Int)) else none) k).isSome = true → 20 + ie ≤ k ∧ k < 20 + ie + (1 : Nat) := keys_one (gk := fun _ => none) (ip := 20 + ie) (p := (3 + me, 1)) (fun k h => by cases h)
  clear hC3 hO3 hM3 hA3 hX x0 x1 x2 x3 x4
  generalize (fun k : Int => if k = 20 + ie then some (3 + me, (1 : Int)) else none) = gk1 at *
  have q6 := bel1 w5 (.cells #[.int .i64 2, .int .i64 2, .int .i64 10, .int .i64 (3 + me), .int .i64 (20 + ie)] 31)
  have hT6 := At.box w5 #[.int .i64 2, .int .i64 2, .int .i64 10, .int .i64 (3 + me), .int .i64 (20 + ie)] 31
  go_upto_region 7 with fail
  have hC6 := hC5.later q6
  have hO6 := hO5.later q6
  have hM6 := hM5.later q6
  have hA6 := hA5.later q6
  have hX6 := hX5.later q6
  have hb6 := bt hb5 q6
  clear hC5 hO5 hM5 hA5 hX5
  generalize w5.alloc (.cells #[.int .i64 2, .int .i64 2, .int .i64 10, .int .i64 (3 + me), .int .i64 (20 + ie)] 31) = w6 at *
  have hki : (Lit.int .i64 (20 + ie)).wf = true := WalkArith.wf_i64 (by omega)
  go_wp2_with fail
  refine (look_any C M A 2 50 4 9 30 1 0 _ gk1 (20 + ie) 1 w6 hC6 hM6 hok5 (by decide) hki).mono ?_
  rintro e w7 ⟨rfl, hb7⟩
  rw [lookF_t hk5 (by decide)]
  have hC7 := hC6.later hb7
  have hO7 := hO6.later hb7
  have hM7 := hM6.later hb7
  have hA7 := hA6.later hb7
  have hX7 := hX6.later hb7
  have hT7 := hT6.later hb7
  have hbw7 := bt hb6 hb7
  clear hC6 hO6 hM6 hA6 hX6 hT6
  obtain ⟨⟨t0, t1, t2, t3, t4⟩, -, tb⟩ := hT7.five
  go_wp2_with fail
  refine (clm_t (mac := 2000 + oe) (ip := 10) (decide_eq_true (by refine ⟨Or.inl rfl, by omega, by omega, by omega, by omega, by omega⟩)) w7).mono ?_
  rintro e w8 ⟨rfl, hb8⟩
  clear t0 t1 t2 t3 t4 hT7
  have q9 := bel1 w8 (.cells #[.int .i64 1, .int .i64 (2000 + oe), .int .i64 10, .int .i64 0, .int .i64 10] 31)
  have hY := At.box w8 #[.int .i64 1, .int .i64 (2000 + oe), .int .i64 10, .int .i64 0, .int .i64 10] 31
  have hb89 := bt hb8 q9
  have hs8 := hb8.size
  have hX8l : w3.heap.size < w8.heap.size := Nat.lt_of_lt_of_le hX7.1 hs8
  go_upto_region 11 with fail
  have hC9 := hC7.later hb89
  have hO9 := hO7.later hb89
  have hM9 := hM7.later hb89
  have hA9 := hA7.later hb89
  have hX9 := hX7.later hb89
  have hb9 := bt hbw7 hb89
  clear hC7 hO7 hM7 hA7 hX7
  generalize w8.alloc (.cells #[.int .i64 1, .int .i64 (2000 + oe), .int .i64 10, .int .i64 0, .int .i64 10] 31) = w9 at *
  have hCw9 := hC9.1
  have hMw9 := hM9.lt
  have hXw9 := hX9.1
  have hbig : w2.heap.size ≤ w8.heap.size := by have := hb7.size; have := q6.size; have := ht5.size; have := q3.size; omega
  obtain ⟨⟨y0, y1, y2, y3, y4⟩, -, yb⟩ := hY.five
  have hyes : ([10] : List Int).contains 10 = true := by decide
  go_wp2_with fail
  refine (take_there C M A g 1 c 2 50 4 9 30 1 0 w.heap.size [10] 1 (2000 + oe) 10 0 10 2 gk1 (fun _ => none) w9 hC9 hO9 (by simp) (by simp) hM9 hA9 hCA hCM n1 n4 n2 n3 hok5 (by decide) (decide_eq_true (by refine ⟨Or.inl rfl, by omega, by omega, by omega, by omega, by omega⟩)) (by decide) (by decide) hyes (by omega)).mono ?_
  rintro e wa ⟨rfl, hCa, hMa, hAa, hta⟩
  have hOa := hO9.turn hta (fun k hk he => by simp [Value.ownBlock] at hk; omega)
  have hXa := hX9.turn hta (by omega)
  have hYa := hY.turn hta (by omega)
  have hba : Below w.heap.size w wa := hb9.trans (hta.below hb9.size (fun k hk he => by omega))
  clear hC9 hO9 hM9 hA9 hX9 hY y0 y1 y2 y3 y4
  have qb := bel1 wa (.cells #[.int .i64 0, .int .i64 0, .int .i64 0, .int .i64 0, .int .i64 0] 31)
  have hZb := At.box wa #[.int .i64 0, .int .i64 0, .int .i64 0, .int .i64 0, .int .i64 0] 31
  go_upto_region 12 with fail
  have hCb := hCa.later qb
  have hOb := hOa.later qb
  have hMb := hMa.later qb
  have hAb := hAa.later qb
  have hXb := hXa.later qb
  have hYb := hYa.later qb
  have hbb := bt hba qb
  clear hCa hOa hMa hAa hXa hYa
  generalize wa.alloc (.cells #[.int .i64 0, .int .i64 0, .int .i64 0, .int .i64 0, .int .i64 0] 31) = wb at *
  obtain ⟨⟨z0, z1, z2, z3, z4⟩, -, zb⟩ := hZb.five
  go_wp2_with fail
  refine (clm_t (mac := 2000 + oe) (ip := 20 + ie) (decide_eq_true (by refine ⟨Or.inl rfl, by omega, by omega, by omega, by omega, by omega⟩)) wb).mono ?_
  rintro e wc' ⟨rfl, hbc⟩
  clear z0 z1 z2 z3 z4 hZb
  have hCc := hCb.later hbc
  have hOc := hOb.later hbc
  have hMc := hMb.later hbc
  have hAc := hAb.later hbc
  have hXc := hXb.later hbc
  have hYc := hYb.later hbc
  have hbwc := bt hbb hbc
  clear hCb hOb hMb hAb hXb hYb
  obtain ⟨⟨y0, y1, y2, y3, y4⟩, ⟨fy0, fy1, fy2, fy3, fy4⟩, yb'⟩ := hYc.five
  go_upto_region 15 with fail
  have t5 := turn5 wc' w8.heap.size (.int .i64 1) (.int .i64 (2000 + oe)) (.int .i64 (20 + ie)) (.int .i64 0) (.int .i64 (20 + ie))
  have hYd := at5 hYc (.int .i64 1) (.int .i64 (2000 + oe)) (.int .i64 (20 + ie)) (.int .i64 0) (.int .i64 (20 + ie))
  have hw8 : w.heap.size ≤ w8.heap.size := by have := hbw2.size; omega
  have hCd := hCc.turn t5 (by omega)
  have hOd := hOc.turn t5 (fun k hk he => by simp [Value.ownBlock] at hk; omega)
  have hMd := hMc.turn t5 (by omega)
  have hAd := hAc.turn t5 (by omega)
  have hXd := hXc.turn t5 (by omega)
  have hbd : Below w.heap.size w _ := hbwc.trans (t5.below hbwc.size (fun k hk he => by omega))
  clear hCc hOc hMc hAc hXc hYc y0 y1 y2 y3 y4 fy0 fy1 fy2 fy3 fy4
  generalize ((((wc'.setCell ⟨w8.heap.size, 0, none⟩ (.int .i64 1)).setCell ⟨w8.heap.size, 1, none⟩ (.int .i64 (2000 + oe))).setCell ⟨w8.heap.size, 2, none⟩ (.int .i64 (20 + ie))).setCell ⟨w8.heap.size, 3, none⟩ (.int .i64 0)).setCell ⟨w8.heap.size, 4, none⟩ (.int .i64 (20 + ie)) = wd at *
  obtain ⟨⟨y0, y1, y2, y3, y4⟩, -, yb2⟩ := hYd.five
  go_wp2_with fail
  refine (take_ask C M A g 1 c 2 50 4 9 30 2 0 w.heap.size [10] (2000 + oe) (20 + ie) 0 (20 + ie) 3 gk1 (fun _ => none) wd hCd hOd (by simp) (by simp) hMd hAd hCA hCM n1 n4 n2 n3 hok5 (by decide) (decide_eq_true (by refine ⟨Or.inl rfl, by omega, by omega, by omega, by omega, by omega⟩)) (by decide) (by decide) hno hno (by rw [lookF_t hk5 (by decide)]; rfl) rfl (20 + ie) 1 (by omega) hky5 (by decide) (by decide)).mono ?_
  rintro e we ⟨rfl, hCe, hMe, hAe, hte⟩
  have hOe := hOd.turn hte (fun k hk he => by simp [Value.ownBlock] at hk; omega)
  have hXe := hXd.turn hte (by omega)
  have hbe : Below w.heap.size w we := hbd.trans (hte.below hbd.size (fun k hk he => by omega))
  have hoke : okT (fun k => if k = 20 + ie then some (2000 + oe, 3) else gk1 k) := okT_put hok5 (by omega) (by decide)
  have hke : (fun k : Int => if k = 20 + ie then some (2000 + oe, (3 : Int)) else gk1 k) (20 + ie) = some (2000 + oe, 3) := by simp
  have hkye : ∀ k, ((fun k : Int => if k = 20 + ie then some (2000 + oe, (3 : Int)) else gk1 k) k).isSome = true → 20 + ie ≤ k ∧ k < 20 + ie + (1 : Nat) := keys_one (p := (2000 + oe, 3)) hky5
  clear hCd hOd hMd hAd hXd hYd y0 y1 y2 y3 y4
  generalize (fun k : Int => if k = 20 + ie then some (2000 + oe, (3 : Int)) else gk1 k) = gk2 at *
  go_wp2_with fail
  refine (look_any C M A 2 50 4 9 30 3 0 _ gk2 (20 + ie) 3 we hCe hMe hoke (by decide) hki).mono ?_
  rintro e wf ⟨rfl, hbf⟩
  rw [lookF_t hke (by decide)]
  have hCf := hCe.later hbf
  have hOf := hOe.later hbf
  have hMf := hMe.later hbf
  have hAf := hAe.later hbf
  have hXf := hXe.later hbf
  have hbwf := bt hbe hbf
  clear hCe hOe hMe hAe hXe
  go_wp2_with fail
  refine (own_del C M A g c 2 50 4 9 30 3 0 w.heap.size 10 wf hCf hOf n2 (by decide)).mono ?_
  rintro e wg ⟨rfl, hCg, hOg, htg⟩
  have hMg := hMf.turn htg (by omega)
  have hAg := hAf.turn htg (by omega)
  have hXg := hXf.turn htg (by omega)
  have hbg : Below w.heap.size w wg := hbwf.trans (htg.below hbwf.size (fun k hk he => by omega))
  clear hCf hOf hMf hAf hXf
  obtain ⟨⟨x0, x1, x2, x3, x4⟩, -, xb9⟩ := hXg.five
  go_wp2_with fail
  refine (take_ask C M A g 0 c 2 50 4 9 30 3 0 w.heap.size [] (3 + me) (20 + ie) 0 10 4 gk2 (fun _ => none) wg hCg hOg (by simp) (by simp) hMg hAg hCA hCM n1 n4 n2 n3 hoke (by decide) (decide_eq_true (by refine ⟨Or.inl rfl, by omega, by omega, by omega, by omega, by omega⟩)) (by decide) (by decide) (by simp) (by simp) (by rw [lookF_t hke (by decide)]; rfl) rfl (20 + ie) 1 (by omega) hkye (by decide) (by decide)).mono ?_
  rintro e wh ⟨rfl, hCh, hMh, hAh, hth⟩
  have hbh : Below w.heap.size w wh := hbg.trans (hth.below hbg.size (fun k hk he => by omega))
  clear hCg hOg hMg hAg hXg x0 x1 x2 x3 x4 hCh hMh hAh
  have qi := bel1 wh (.cells #[.int .i64 0, .int .i64 0, .int .i64 0, .int .i64 0, .int .i64 0] 31)
  obtain ⟨⟨z0, z1, z2, z3, z4⟩, -, zb⟩ := (At.box wh #[.int .i64 0, .int .i64 0, .int .i64 0, .int .i64 0, .int .i64 0] 31).five
  go_wp2
  go_ret
  exact ⟨rfl, bt hbh qi⟩
end Go.Proofs.Ytjldcillackhdaa
