/- Send of a packet that waits as the first one; the statements' cache, and works. -/
import Derived.Test.YtjldcillackhdaaNg
namespace Go.Proofs.Ytjldcillackhdaa
open Go.RowKit Go.Maps Go.Proofs.Ytjldcillackhdaa.Eth Go.Proofs.Ytjldcillackhdaa.Eth.Arp
set_option maxRecDepth 100000
set_option linter.unusedVariables false
set_option linter.unusedSimpArgs false

set_option maxHeartbeats 4000000 in
theorem send_new (C M A g c : Nat) (mac ag pa ro wa la wt : Int) (base : Nat) (x pt id now : Int) (gk : Int → Option (Int × Int)) (ga : Int → Option (Int × Bool × Sl)) (w : World) (hC : At w C (cV mac ag pa ro wa (.slice (some ⟨g, 0, none⟩) 1 c) la M A wt)) (hO : Ints w base (.slice (some ⟨g, 0, none⟩) 1 c) [x]) (hM : KM w M gk) (hA : AM w A ga) (hCA : C ≠ A) (hCM : C ≠ M) (hMA : M ≠ A) (hgA : g ≠ A) (hgC : g ≠ C) (hgM : g ≠ M) (hok : okT gk) (hag : 1 ≤ ag ∧ ag ≤ 1048576) (hpt : 0 ≤ pt ∧ pt ≤ 4294967295) (hid : 0 ≤ id ∧ id ≤ 65535) (htk : la ≤ now ∧ now ≤ 1099511627776) (hwt : 0 ≤ wt ∧ wt ≤ 5000) (hlook : lookF gk ag pt now = (0, false)) (hroom : wt < wa) (hg : ga pt = none) (hkeys : ∀ k, (ga k).isSome = true → 0 ≤ k ∧ k < 0 + (5000 : Nat)) (hm : mayA 1 mac x 0 pt = true) :
    Calls Try.prog 9 #[.pointer (some ⟨C, 0, none⟩), .agg #[.int .i64 10, .int .i64 pt, .int .i64 9, .int .i64 0, .int .i64 id, .int .i64 0, .bool false, .bool false, .string ⟨#[]⟩, .string ⟨#[]⟩], .int .i64 pt, .int .i64 now] w fun e w' => ∃ a6 p6, e = .returned (.tuple #[.int .i64 0, .agg #[.int .i64 1, .int .i64 mac, .int .i64 x, .int .i64 0, .int .i64 pt], .int .i64 110]) ∧ At w' C (cV mac ag pa ro wa (.slice (some ⟨g, 0, none⟩) 1 c) now M A (wt + 1)) ∧ KM w' M gk ∧ AM w' A (fun k => if k = pt then some (now, false, a6, 1, p6) else ga k) ∧ PR w' w.heap.size (.slice a6 1 p6) pt [id] ∧ Turn (fun k => k = A ∨ k = C) w w' := by
  have hroom' : ¬ wa ≤ wt := by omega
  have hmay : Ip.mayP 10 pt 9 0 id 0 false (⟨#[]⟩ : ByteArray).size (⟨#[]⟩ : ByteArray).size = true := Ip.mayP_t (by unfold Ip.mayQ; refine ⟨by omega, by omega, by omega, by omega, by omega, by omega, by decide, by decide, (fun h => by cases h), by decide, by decide⟩)
  have hkp : (Lit.int .i64 pt).wf = true := WalkArith.wf_i64 (by omega)
  have hip : ipB pt = true := by unfold ipB; rw [decide_eq_true hpt.1, decide_eq_true hpt.2]; rfl
  have hCw := hC.1
  have hMw := hM.lt
  have hAw := hA.lt
  have hgw := hO.lt g rfl
  have q1 := bel1 w (.cells #[.int .i64 10, .int .i64 pt, .int .i64 9, .int .i64 0, .int .i64 id, .int .i64 0, .bool false, .bool false, .string ⟨#[]⟩, .string ⟨#[]⟩] 29)
  have q2 := bel1 (w.alloc (.cells #[.int .i64 10, .int .i64 pt, .int .i64 9, .int .i64 0, .int .i64 id, .int .i64 0, .bool false, .bool false, .string ⟨#[]⟩, .string ⟨#[]⟩] 29)) (.cells #[.int .i64 0, .int .i64 0, .int .i64 0, .int .i64 0, .int .i64 0] 31)
  have hb1 := bt q1 q2
  have hX1 := (At.box w #[.int .i64 10, .int .i64 pt, .int .i64 9, .int .i64 0, .int .i64 id, .int .i64 0, .bool false, .bool false, .string ⟨#[]⟩, .string ⟨#[]⟩] 29).later q2
  have hR1 := At.box (w.alloc (.cells #[.int .i64 10, .int .i64 pt, .int .i64 9, .int .i64 0, .int .i64 id, .int .i64 0, .bool false, .bool false, .string ⟨#[]⟩, .string ⟨#[]⟩] 29)) #[.int .i64 0, .int .i64 0, .int .i64 0, .int .i64 0, .int .i64 0] 31
  rw [show (w.alloc (.cells #[.int .i64 10, .int .i64 pt, .int .i64 9, .int .i64 0, .int .i64 id, .int .i64 0, .bool false, .bool false, .string ⟨#[]⟩, .string ⟨#[]⟩] 29)).heap.size = w.heap.size + 1 by simp] at hR1
  have hs1 : w.heap.size + 2 ≤ ((w.alloc (.cells #[.int .i64 10, .int .i64 pt, .int .i64 9, .int .i64 0, .int .i64 id, .int .i64 0, .bool false, .bool false, .string ⟨#[]⟩, .string ⟨#[]⟩] 29)).alloc (.cells #[.int .i64 0, .int .i64 0, .int .i64 0, .int .i64 0, .int .i64 0] 31)).heap.size := by simp
  have hC1 := hC.later hb1
  have hO1 := hO.later hb1
  have hM1 := hM.later hb1
  have hA1 := hA.later hb1
  clear q1 q2
  go_enter Try.func9, Try.ntmps9
  go_upto_region 1 with fail
  generalize (w.alloc (.cells #[.int .i64 10, .int .i64 pt, .int .i64 9, .int .i64 0, .int .i64 id, .int .i64 0, .bool false, .bool false, .string ⟨#[]⟩, .string ⟨#[]⟩] 29)).alloc (.cells #[.int .i64 0, .int .i64 0, .int .i64 0, .int .i64 0, .int .i64 0] 31) = w1 at *
  obtain ⟨x0, x1, x2, x3, x4, x5, x6, x7, x8, x9⟩ := hX1.ten
  go_wp2_with fail
  refine (Ip.chk_t (dn := false) hmay w1 (by decide) (by decide)).mono ?_
  rintro e w2 ⟨rfl, hb2⟩
  have hC2 := hC1.later hb2
  have hO2 := hO1.later hb2
  have hM2 := hM1.later hb2
  have hA2 := hA1.later hb2
  have hX2 := hX1.later hb2
  have hR2 := hR1.later hb2
  have htt2 : Turn (fun k => k = A ∨ k = C) w w2 := Turn.of_below (bt hb1 hb2)
  clear hC1 hO1 hM1 hA1 hX1 hR1 x0 x1 x2 x3 x4 x5 x6 x7 x8 x9
  go_wp2_with fail
  refine (isip_any pt w2).mono ?_
  rintro e w2 ⟨rfl, rfl⟩
  rw [hip]
  go_wp2_with fail
  refine (move_t C M A mac ag pa ro wa la wt _ now _ hC2 htk).mono ?_
  rintro e w3 ⟨rfl, hC3, ht3⟩
  have hO3 := hO2.turn ht3 (fun k hk he => by simp [Value.ownBlock] at hk; omega)
  have hM3 := hM2.turn ht3 (Ne.symm hCM)
  have hA3 := hA2.turn ht3 (Ne.symm hCA)
  have hX3 := hX2.turn ht3 (by omega)
  have hR3 := hR2.turn ht3 (by omega)
  have htt3 := htt2.step ht3 (fun j hj => Or.inl (Or.inr hj))
  clear hC2 hO2 hM2 hA2 hX2 hR2 htt2
  go_wp2_with fail
  refine (look_any C M A mac ag pa ro wa now wt _ gk pt now w3 hC3 hM3 hok hag hkp).mono ?_
  rintro e w4 ⟨rfl, hb4⟩
  rw [hlook]
  have hC4 := hC3.later hb4
  have hO4 := hO3.later hb4
  have hM4 := hM3.later hb4
  have hA4 := hA3.later hb4
  have hX4 := hX3.later hb4
  have hR4 := hR3.later hb4
  have htt4 := htt3.later hb4
  clear hC3 hO3 hM3 hA3 hX3 hR3 htt3
  have w9 : w4.cell? ⟨C, 9, none⟩ = some (.int .i64 wt) := (hC4.2 9 _ rfl).1
  have w4' : w4.cell? ⟨C, 4, none⟩ = some (.int .i64 wa) := (hC4.2 4 _ rfl).1
  go_upto_region 9 with fail
  go_quiet (fail)
  have hb5 : Below w4.heap.size w4 (w4.drewN nq) := below_drewN (Below.refl _ _) nq
  have hC5 := hC4.later hb5
  have hO5 := hO4.later hb5
  have hM5 := hM4.later hb5
  have hA5 := hA4.later hb5
  have hX5 := hX4.later hb5
  have hR5 := hR4.later hb5
  have htt5 := htt4.later hb5
  clear hC4 hO4 hM4 hA4 hX4 hR4 htt4 w9 w4'
  generalize w4.drewN nq = w5 at *
  obtain ⟨x0, x1, x2, x3, x4, x5, x6, x7, x8, x9⟩ := hX5.ten
  have hAl := hA5.lt
  have hCl := hC5.1
  have hs5 := htt5.size
  go_wp2_with fail
  refine (hold_n C M A g c mac ag pa ro wa now wt base x pt id now ga w5 hC5 hO5 hA5 hCA hgA hgC hkp hwt hkeys hg hm).mono ?_
  rintro e w6 ⟨a6, p6, rfl, hC6, hA6, hP6, ht6⟩
  have hM6 := hM5.turn ht6 (by omega)
  have hR6 := hR5.turn ht6 (by omega)
  have htt6 := htt5.step ht6 (fun j hj => Or.inl hj)
  have hge6 := hP6.ge
  have hlR : w.heap.size + 1 < w5.heap.size := hR5.1
  clear hC5 hO5 hM5 hA5 hX5 hR5 htt5 x0 x1 x2 x3 x4 x5 x6 x7 x8 x9
  obtain ⟨⟨r0, r1, r2, r3, r4⟩, ⟨f0, f1, f2, f3, f4⟩, fb⟩ := hR6.five
  have t6 := turn5 w6 (w.heap.size + 1) (.int .i64 1) (.int .i64 mac) (.int .i64 x) (.int .i64 0) (.int .i64 pt)
  have hCb := hC6.turn t6 (by omega)
  have hMb := hM6.turn t6 (by omega)
  have hAb := hA6.turn t6 (by omega)
  have hPb := (hP6.turn t6 (fun k hk he => by have := hge6 k hk; omega)).low hs5
  have httb := htt6.step t6 (fun j hj => Or.inr (by omega))
  clear hC6 hM6 hA6 hP6 htt6
  go_wp2
  exact bodyPost_ret (v := .tuple #[.int .i64 0, .agg #[.int .i64 1, .int .i64 mac, .int .i64 x, .int .i64 0, .int .i64 pt], .int .i64 110]) (by simp [results, Try.results9, go_sem, r0, r1, r2, r3, r4]) rfl ⟨a6, p6, rfl, hCb, hMb, hAb, hPb, httb⟩
theorem cache_any (w : World) : Calls Try.prog 6 #[] w fun e w' => ∃ C M A g c, e = .returned (.pointer (some ⟨C, 0, none⟩)) ∧ At w' C (cV 2 50 4 9 30 (.slice (some ⟨g, 0, none⟩) 1 c) 0 M A 0) ∧ Ints w' w.heap.size (.slice (some ⟨g, 0, none⟩) 1 c) [10] ∧ VM w' M [] ∧ VM w' A [] ∧ (w.heap.size ≤ C ∧ w.heap.size ≤ M ∧ w.heap.size ≤ A ∧ w.heap.size ≤ g) ∧ (M ≠ A ∧ g ≠ C ∧ g ≠ M ∧ g ≠ A) ∧ Below w.heap.size w w' := by
  have q1 := bel1 w (.cells #[.int .i64 10] 3)
  have c0 : (w.alloc (.cells #[.int .i64 10] 3)).cell? ⟨w.heap.size, 0, none⟩ = some (.int .i64 10) := ((At.box w #[.int .i64 10] 3).2 0 _ rfl).1
  go_enter Try.func6, Try.ntmps6
  go_wp2_with fail
  refine (new_t 2 50 4 9 30 10 w.heap.size 0 1 _ (by decide) c0 (by decide)).mono ?_
  rintro e w1 ⟨C, M, A, g, c, rfl, hC, hO, hM, hA, ⟨l1, l2, l3, l4⟩, hne, hb⟩
  have hs := q1.size
  have hO' := hO.low hs
  go_wp2
  go_ret
  exact ⟨C, M, A, g, c, rfl, hC, hO', hM, hA, ⟨by omega, by omega, by omega, by omega⟩, hne, bt q1 hb⟩
set_option maxHeartbeats 2000000 in
theorem same_one (base base' : Nat) (a b : Option Addr) (c c' : Nat) (pt id : Int) (w : World) (h1 : PR w base (.slice a 1 c) pt [id]) (h2 : PR w base' (.slice b 1 c') pt [id]) :
    Calls Try.prog 19 #[.slice a 1 c, .slice b 1 c'] w fun e w' => e = .returned (.bool true) ∧ Below w.heap.size w w' := by
  obtain ⟨g, cap, hv, -, hc⟩ := h1.cells (i := 0) (e := id) rfl
  obtain ⟨g', cap', hv', -, hc'⟩ := h2.cells (i := 0) (e := id) rfl
  cases hv
  cases hv'
  have u0 := hc 0 _ rfl
  have u1 := hc 1 _ rfl
  have u2 := hc 2 _ rfl
  have u3 := hc 3 _ rfl
  have u4 := hc 4 _ rfl
  have u5 := hc 5 _ rfl
  have u6 := hc 6 _ rfl
  have u7 := hc 7 _ rfl
  have u8 := hc 8 _ rfl
  have u9 := hc 9 _ rfl
  have v0 := hc' 0 _ rfl
  have v1 := hc' 1 _ rfl
  have v2 := hc' 2 _ rfl
  have v3 := hc' 3 _ rfl
  have v4 := hc' 4 _ rfl
  have v5 := hc' 5 _ rfl
  have v6 := hc' 6 _ rfl
  have v7 := hc' 7 _ rfl
  have v8 := hc' 8 _ rfl
  have v9 := hc' 9 _ rfl
  simp only [Nat.zero_mul, Nat.zero_add] at u0 u1 u2 u3 u4 u5 u6 u7 u8 u9 v0 v1 v2 v3 v4 v5 v6 v7 v8 v9
  clear hc hc' h1 h2
  go_enter Try.func19, Try.ntmps19
  go_wp2
  refine wp_loop_rounds 2 ?_
  rw [rounds_succ]
  go_wp2
  go_quiet (fail)
  have hb : Below w.heap.size w (w.drewN nq) := below_drewN (Below.refl _ _) nq
  generalize w.drewN nq = w1 at *
  go_wp2
  rw [rounds_succ]
  go_wp2
  go_ret
  exact ⟨rfl, hb⟩
set_option maxHeartbeats 4000000 in
theorem works_any (w : World) : Calls Try.prog 7 #[] w fun e w' => e = .returned (.bool true) ∧ Below w.heap.size w w' := by
  go_enter Try.func7, Try.ntmps7
  go_wp2_with fail
  refine (cache_any w).mono ?_
  rintro e w1 ⟨C, M, A, g, c, rfl, hC, hO, hM, hA, ⟨l1, l2, l3, l4⟩, ⟨n1, n2, n3, n4⟩, hb1⟩
  have hCM := ne_at_vm hC rfl hM
  have hCA := ne_at_vm hC rfl hA
  have q2 := bel1 w1 (.cells #[.int .i64 10, .int .i64 11, .int .i64 9, .int .i64 0, .int .i64 0, .int .i64 0, .bool false, .bool false, .string ⟨#[]⟩, .string ⟨#[]⟩] 29)
  have hX := At.box w1 #[.int .i64 10, .int .i64 11, .int .i64 9, .int .i64 0, .int .i64 0, .int .i64 0, .bool false, .bool false, .string ⟨#[]⟩, .string ⟨#[]⟩] 29
  have hs1 : w.heap.size ≤ w1.heap.size := hb1.size
  have hC2 := hC.later q2
  have hO2 := hO.later q2
  have hM2 := KM.nil (hM.later q2)
  have hA2 := AM.nil (hA.later q2)
  have hb2 := bt hb1 q2
  have hCw := hC.1
  have hMw := hM.lt
  have hAw := hA.lt
  have hgw := hO.lt g rfl
  clear hC hO hM hA
  go_upto_region 5 with fail
  generalize w1.alloc (.cells #[.int .i64 10, .int .i64 11, .int .i64 9, .int .i64 0, .int .i64 0, .int .i64 0, .bool false, .bool false, .string ⟨#[]⟩, .string ⟨#[]⟩] 29) = w2 at *
  obtain ⟨x0, x1, x2, x3, x4, x5, x6, x7, x8, x9⟩ := hX.ten
  go_wp2_with fail
  refine (send_new C M A g c 2 50 4 9 30 0 0 w.heap.size 10 11 0 1 _ _ w2 hC2 hO2 hM2 hA2 hCA hCM n1 n4 n2 n3 (fun k p h => by cases h) (by decide) (by decide) (by decide) (by decide) (by decide) rfl (by decide) rfl (fun k h => by cases h) (by decide)).mono ?_
  rintro e w3 ⟨a6, p6, rfl, hC3, hM3, hA3, hP3, ht3⟩
  have hO3 := hO2.turn ht3 (fun k hk he => by simp [Value.ownBlock] at hk; omega)
  have hX3 := hX.turn ht3 (by omega)
  have hb3 : Below w.heap.size w w3 := hb2.trans (ht3.below hb2.size (fun k hk he => by omega))
  have hP2ge := hP3.ge
  have hs2' : w1.heap.size < w2.heap.size := hX.1
  clear hC2 hO2 hM2 hA2 hX x0 x1 x2 x3 x4 x5 x6 x7 x8 x9
  have q4 := bel1 w3 (.cells #[.int .i64 1, .int .i64 2, .int .i64 10, .int .i64 0, .int .i64 11] 31)
  have hY := At.box w3 #[.int .i64 1, .int .i64 2, .int .i64 10, .int .i64 0, .int .i64 11] 31
  go_upto_region 6 with fail
  have hC4 := hC3.later q4
  have hO4 := hO3.later q4
  have hM4 := hM3.later q4
  have hA4 := hA3.later q4
  have hP4 := hP3.later q4
  have hX4 := hX3.later q4
  have hb4 := bt hb3 q4
  clear hC3 hO3 hM3 hA3 hP3 hX3
  generalize w3.alloc (.cells #[.int .i64 1, .int .i64 2, .int .i64 10, .int .i64 0, .int .i64 11] 31) = w4 at *
  obtain ⟨⟨y0, y1, y2, y3, y4⟩, -, yb⟩ := hY.five
  go_wp2_with fail
  refine (tell_t (o := 1) (fm := 2) (fi := 10) (tm := 0) (ti := 11) (mac := 7) (by decide) (by decide) (by decide) w4).mono ?_
  rintro e w5 ⟨rfl, hb5⟩
  have q6 := bel1 w5 (.cells #[.int .i64 2, .int .i64 7, .int .i64 11, .int .i64 2, .int .i64 10] 31)
  have hY6 := At.box w5 #[.int .i64 2, .int .i64 7, .int .i64 11, .int .i64 2, .int .i64 10] 31
  have hb56 := bt hb5 q6
  go_upto_region 7 with fail
  have hC6 := hC4.later hb56
  have hO6 := hO4.later hb56
  have hM6 := hM4.later hb56
  have hA6 := hA4.later hb56
  have hP6 := hP4.later hb56
  have hX6 := hX4.later hb56
  have hb6 := bt hb4 hb56
  clear hC4 hO4 hM4 hA4 hP4 hX4 y0 y1 y2 y3 y4
  generalize w5.alloc (.cells #[.int .i64 2, .int .i64 7, .int .i64 11, .int .i64 2, .int .i64 10] 31) = w6 at *
  obtain ⟨⟨y0, y1, y2, y3, y4⟩, -, yb'⟩ := hY6.five
  have hs6 : w1.heap.size < w6.heap.size := hX6.1
  go_wp2_with fail
  refine (take_tell_s C M A g 1 c 2 50 4 9 30 1 (0 + 1) w.heap.size [10] 7 11 2 10 2 (fun _ => none) (fun k => if k = 11 then some (1, false, a6, 1, p6) else none) w6 hC6 hO6 (by simp) (by simp) hM6 hA6 hCA hCM n1 n4 n2 n3 (fun k p h => by cases h) (by decide) (by decide) (by decide) (by decide) (by decide) rfl 1 false a6 1 p6 rfl (by decide) (by decide) 0 0 (by decide) (fun k h => by cases h) (by decide) (by decide)).mono ?_
  rintro e w7 ⟨rfl, hC7, hM7, hA7, ht7⟩
  have hX7 := hX6.turn ht7 (by omega)
  have hP7 := hP6.turn ht7 (fun k hk he => by have := hP2ge k hk; omega)
  have hb7 : Below w.heap.size w w7 := hb6.trans (ht7.below hb6.size (fun k hk he => by omega))
  clear hC6 hO6 hM6 hA6 hP6 hX6 hC7 hM7 hA7 y0 y1 y2 y3 y4
  have q8 := bel1 w7 (.cells #[.int .i64 0, .int .i64 0, .int .i64 0, .int .i64 0, .int .i64 0] 31)
  have hX8 := hX7.later q8
  have hP8 := hP7.later q8
  have hb8 := bt hb7 q8
  go_upto_region 8 with fail
  clear hX7 hP7
  generalize w7.alloc (.cells #[.int .i64 0, .int .i64 0, .int .i64 0, .int .i64 0, .int .i64 0] 31) = w8 at *
  obtain ⟨x0, x1, x2, x3, x4, x5, x6, x7, x8, x9⟩ := hX8.ten
  have q9 := bel1 w8 (.cells #[.int .i64 10, .int .i64 11, .int .i64 9, .int .i64 0, .int .i64 0, .int .i64 0, .bool false, .bool false, .string ⟨#[]⟩, .string ⟨#[]⟩] 29)
  have hP9 := hP8.later q9
  have hZ9 : PR (w8.alloc (.cells #[.int .i64 10, .int .i64 11, .int .i64 9, .int .i64 0, .int .i64 0, .int .i64 0, .bool false, .bool false, .string ⟨#[]⟩, .string ⟨#[]⟩] 29)) w8.heap.size (.slice (some ⟨w8.heap.size, 0, none⟩) 1 1) 11 [0] := World.ownsRow_lit w8 #[.int .i64 10, .int .i64 11, .int .i64 9, .int .i64 0, .int .i64 0, .int .i64 0, .bool false, .bool false, .string ⟨#[]⟩, .string ⟨#[]⟩] 1 (Nat.le_refl _) (by unfold maxLen; omega) rfl
  go_wp2_with fail
  refine (same_one _ _ a6 _ p6 1 11 0 _ hP9 hZ9).mono ?_
  rintro e wz ⟨rfl, hbz⟩
  go_wp2
  go_ret
  exact ⟨rfl, bt hb8 (bt q9 hbz)⟩
end Go.Proofs.Ytjldcillackhdaa
