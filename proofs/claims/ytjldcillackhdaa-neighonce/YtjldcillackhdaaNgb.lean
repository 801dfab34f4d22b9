/- Take, in cases. -/
import Derived.Test.YtjldcillackhdaaNf
namespace Go.Proofs.Ytjldcillackhdaa
open Go.RowKit Go.Maps Go.Proofs.Ytjldcillackhdaa.Eth Go.Proofs.Ytjldcillackhdaa.Eth.Arp
set_option maxRecDepth 100000
set_option linter.unusedVariables false
set_option linter.unusedSimpArgs false

set_option maxHeartbeats 4000000 in
theorem take_ask (C M A g n c : Nat) (mac ag pa ro wa la wt : Int) (base : Nat) (zs : List Int) (fm fi tm ti now : Int) (gk : Int → Option (Int × Int)) (ga : Int → Option (Int × Bool × Sl)) (w : World) (hC : At w C (cV mac ag pa ro wa (.slice (some ⟨g, 0, none⟩) n c) la M A wt)) (hO : Ints w base (.slice (some ⟨g, 0, none⟩) n c) zs) (hs : zs.Pairwise (· ≤ ·)) (hzn : zs.length < 1000000) (hM : KM w M gk) (hA : AM w A ga) (hCA : C ≠ A) (hCM : C ≠ M) (hMA : M ≠ A) (hgA : g ≠ A) (hgC : g ≠ C) (hgM : g ≠ M) (hok : okT gk) (hag : 1 ≤ ag ∧ ag ≤ 1048576) (hmay : mayA 1 fm fi tm ti = true) (htk : la ≤ now ∧ now ≤ 1099511627776) (hwt : 0 ≤ wt ∧ wt ≤ 5000) (hown : zs.contains fi = false) (hown2 : zs.contains ti = false) (huse : ((lookF gk ag fi now).2 || (ga fi).isSome) = true) (hg : ga fi = none) (lo : Int) (d : Nat) (hf0 : fi ≠ 0) (hkeys : ∀ k, (gk k).isSome = true → lo ≤ k ∧ k < lo + d) (hd : (d : Int) < ro) (hd2 : d < 5000) :
    Calls Try.prog 10 #[.pointer (some ⟨C, 0, none⟩), .agg #[.int .i64 1, .int .i64 fm, .int .i64 fi, .int .i64 tm, .int .i64 ti], .int .i64 now] w fun e w' => e = .returned (.tuple #[.agg #[.int .i64 0, .int .i64 0, .int .i64 0, .int .i64 0, .int .i64 0], .slice none 0 0, .int .i64 0, .int .i64 0]) ∧ At w' C (cV mac ag pa ro wa (.slice (some ⟨g, 0, none⟩) n c) now M A wt) ∧ KM w' M (fun k => if k = fi then some (fm, now) else gk k) ∧ AM w' A ga ∧ Turn (fun k => k = C ∨ k = M ∨ k = A) w w' := by
  have hmm := of_decide_eq_true hmay
  have hkf : (Lit.int .i64 fi).wf = true := WalkArith.wf_i64 (by omega)
  have hCw := hC.1
  have hMw := hM.lt
  have hAw := hA.lt
  have hgw := hO.lt g rfl
  have q1 := bel1 w (.cells #[.int .i64 1, .int .i64 fm, .int .i64 fi, .int .i64 tm, .int .i64 ti] 31)
  have q2 := bel1 (w.alloc (.cells #[.int .i64 1, .int .i64 fm, .int .i64 fi, .int .i64 tm, .int .i64 ti] 31)) (.cells #[.int .i64 0, .int .i64 0, .int .i64 0, .int .i64 0, .int .i64 0] 31)
  have hb1 := bt q1 q2
  have hX1 := (At.box w #[.int .i64 1, .int .i64 fm, .int .i64 fi, .int .i64 tm, .int .i64 ti] 31).later q2
  have hR1 := At.box (w.alloc (.cells #[.int .i64 1, .int .i64 fm, .int .i64 fi, .int .i64 tm, .int .i64 ti] 31)) #[.int .i64 0, .int .i64 0, .int .i64 0, .int .i64 0, .int .i64 0] 31
  rw [show (w.alloc (.cells #[.int .i64 1, .int .i64 fm, .int .i64 fi, .int .i64 tm, .int .i64 ti] 31)).heap.size = w.heap.size + 1 by simp] at hR1
  have hs1 : w.heap.size + 2 ≤ ((w.alloc (.cells #[.int .i64 1, .int .i64 fm, .int .i64 fi, .int .i64 tm, .int .i64 ti] 31)).alloc (.cells #[.int .i64 0, .int .i64 0, .int .i64 0, .int .i64 0, .int .i64 0] 31)).heap.size := by simp
  have hC1 := hC.later hb1
  have hO1 := hO.later hb1
  have hM1 := hM.later hb1
  have hA1 := hA.later hb1
  clear q1 q2
  go_enter Try.func10, Try.ntmps10
  go_upto_region 1 with fail
  generalize (w.alloc (.cells #[.int .i64 1, .int .i64 fm, .int .i64 fi, .int .i64 tm, .int .i64 ti] 31)).alloc (.cells #[.int .i64 0, .int .i64 0, .int .i64 0, .int .i64 0, .int .i64 0] 31) = w1 at *
  obtain ⟨⟨x0, x1, x2, x3, x4⟩, -, xb⟩ := hX1.five
  go_wp2_with fail
  refine (ach_t hmay w1).mono ?_
  rintro e w2 ⟨rfl, hb2⟩
  have hC2 := hC1.later hb2
  have hO2 := hO1.later hb2
  have hM2 := hM1.later hb2
  have hA2 := hA1.later hb2
  have hX2 := hX1.later hb2
  have hR2 := hR1.later hb2
  have htt2 : Turn (fun k => k = C ∨ k = M ∨ k = A) w w2 := Turn.of_below (bt hb1 hb2)
  clear hC1 hO1 hM1 hA1 hX1 hR1 x0 x1 x2 x3 x4
  go_wp2_with fail
  refine (move_t C M A mac ag pa ro wa la wt _ now w2 hC2 htk).mono ?_
  rintro e w3 ⟨rfl, hC3, ht3⟩
  have hO3 := hO2.turn ht3 (fun k hk he => by simp [Value.ownBlock] at hk; omega)
  have hM3 := hM2.turn ht3 (Ne.symm hCM)
  have hA3 := hA2.turn ht3 (Ne.symm hCA)
  have hX3 := hX2.turn ht3 (by omega)
  have hR3 := hR2.turn ht3 (by omega)
  have htt3 := htt2.step ht3 (fun j hj => Or.inl (Or.inl hj))
  clear hC2 hO2 hM2 hA2 hX2 hR2 htt2
  obtain ⟨⟨x0, x1, x2, x3, x4⟩, -, xb⟩ := hX3.five
  have m0 : w3.cell? ⟨C, 0, none⟩ = some (.int .i64 mac) := (hC3.2 0 _ rfl).1
  go_upto_region 6 with fail
  go_quiet ((go_at_call 24; refine Calls.quiet_of (isown_any C M A g n c mac ag pa ro wa now wt base zs fi _ (by exact hC3) (by exact hO3) hs hzn false hown)))
  have hb4 : Below w3.heap.size w3 (w3.drewN nq) := below_drewN (Below.refl _ _) nq
  generalize w3.drewN nq = w4 at *
  have hC4 := hC3.later hb4
  have hO4 := hO3.later hb4
  have hM4 := hM3.later hb4
  have hA4 := hA3.later hb4
  have hX4 := hX3.later hb4
  have hR4 := hR3.later hb4
  have htt4 := htt3.later hb4
  clear hC3 hO3 hM3 hA3 hX3 hR3 htt3 x0 x1 x2 x3 x4 m0
  obtain ⟨⟨x0, x1, x2, x3, x4⟩, -, xb⟩ := hX4.five
  go_wp2_with fail
  refine (isown_any C M A g n c mac ag pa ro wa now wt base zs ti w4 hC4 hO4 hs hzn _ hown2).mono ?_
  rintro e w5 ⟨rfl, q5, hq5⟩
  have hb5 : Below w4.heap.size w4 w5 := by rw [hq5]; exact below_drewN (Below.refl _ _) q5
  clear hq5
  have hC5 := hC4.later hb5
  have hM5 := hM4.later hb5
  have hA5 := hA4.later hb5
  have hX5 := hX4.later hb5
  have hR5 := hR4.later hb5
  have htt5 := htt4.later hb5
  clear hC4 hO4 hM4 hA4 hX4 hR4 htt4 x0 x1 x2 x3 x4
  obtain ⟨⟨x0, x1, x2, x3, x4⟩, -, xb⟩ := hX5.five
  go_wp2_with fail
  refine (ofuse_any C M A mac ag pa ro wa now wt _ gk ga fi now w5 hC5 hM5 hA5 hok hag hkf).mono ?_
  rintro e w6 ⟨rfl, hb6⟩
  rw [huse]
  have hC6 := hC5.later hb6
  have hM6 := hM5.later hb6
  have hA6 := hA5.later hb6
  have hX6 := hX5.later hb6
  have hR6 := hR5.later hb6
  have htt6 := htt5.later hb6
  clear hC5 hM5 hA5 hX5 hR5 htt5 x0 x1 x2 x3 x4
  obtain ⟨⟨x0, x1, x2, x3, x4⟩, -, xb⟩ := hX6.five
  go_wp2_with fail
  refine (learn_t C M A mac ag pa ro wa now wt _ gk fi fm now lo d w6 hC6 hM6 hkf hf0 hkeys hd hd2).mono ?_
  rintro e w7 ⟨rfl, hM7, ht7⟩
  have hC7 := hC6.turn ht7 hCM
  have hA7 := hA6.turn ht7 (Ne.symm hMA)
  have hX7 := hX6.turn ht7 (by omega)
  have hR7 := hR6.turn ht7 (by omega)
  have htt7 := htt6.step ht7 (fun j hj => Or.inl (Or.inr (Or.inl hj)))
  clear hC6 hM6 hA6 hX6 hR6 htt6 x0 x1 x2 x3 x4
  obtain ⟨⟨x0, x1, x2, x3, x4⟩, -, xb⟩ := hX7.five
  go_wp2_with fail
  refine (release_n C M A mac ag pa ro wa now wt _ ga fi w7 hC7 hA7 hCA hkf hg hwt).mono ?_
  rintro e w8 ⟨rfl, hC8, hA8, ht8⟩
  have hM8 := hM7.turn ht8 (by omega)
  have hX8 := hX7.turn ht8 (by omega)
  have hR8 := hR7.turn ht8 (by omega)
  have htt8 := htt7.step ht8 (fun j hj => Or.inl (by omega))
  clear hC7 hM7 hA7 hX7 hR7 htt7 x0 x1 x2 x3 x4
  obtain ⟨⟨x0, x1, x2, x3, x4⟩, -, xb⟩ := hX8.five
  obtain ⟨wa', hwa⟩ : ∃ y, y = w8 := ⟨_, rfl⟩
  subst hwa
  have hRa := hR8
  have hCa := hC8
  have hMa := hM8
  have hAa := hA8
  have htta := htt8
  clear hC8 hM8 hA8 hR8 hX8 htt8
  obtain ⟨⟨r0, r1, r2, r3, r4⟩, ⟨f0, f1, f2, f3, f4⟩, fb⟩ := hRa.five
  have t6 := turn5 wa' (w.heap.size + 1) (.int .i64 0) (.int .i64 0) (.int .i64 0) (.int .i64 0) (.int .i64 0)
  have hCb := hCa.turn t6 (by omega)
  have hMb := hMa.turn t6 (by omega)
  have hAb := hAa.turn t6 (by omega)
  have httb := htta.step t6 (fun j hj => Or.inr (by omega))
  clear hCa hMa hAa htta
  go_wp2
  exact bodyPost_ret (v := .tuple #[.agg #[.int .i64 0, .int .i64 0, .int .i64 0, .int .i64 0, .int .i64 0], .slice none 0 0, .int .i64 0, .int .i64 0]) (by simp [results, Try.results10, go_sem, r0, r1, r2, r3, r4]) rfl ⟨rfl, hCb, hMb, hAb, httb⟩
end Go.Proofs.Ytjldcillackhdaa
