/- Take, in cases. -/
import Derived.Test.YtjldcillackhdaaNf
namespace Go.Proofs.Ytjldcillackhdaa
open Go.RowKit Go.Maps Go.Proofs.Ytjldcillackhdaa.Eth Go.Proofs.Ytjldcillackhdaa.Eth.Arp
set_option maxRecDepth 100000
set_option linter.unusedVariables false
set_option linter.unusedSimpArgs false

set_option maxHeartbeats 4000000 in
theorem take_there (C M A g n c : Nat) (mac ag pa ro wa la wt : Int) (base : Nat) (zs : List Int) (o fm fi tm ti now : Int) (gk : Int → Option (Int × Int)) (ga : Int → Option (Int × Bool × Sl)) (w : World) (hC : At w C (cV mac ag pa ro wa (.slice (some ⟨g, 0, none⟩) n c) la M A wt)) (hO : Ints w base (.slice (some ⟨g, 0, none⟩) n c) zs) (hs : zs.Pairwise (· ≤ ·)) (hzn : zs.length < 1000000) (hM : KM w M gk) (hA : AM w A ga) (hCA : C ≠ A) (hCM : C ≠ M) (hMA : M ≠ A) (hgA : g ≠ A) (hgC : g ≠ C) (hgM : g ≠ M) (hok : okT gk) (hag : 1 ≤ ag ∧ ag ≤ 1048576) (hmay : mayA o fm fi tm ti = true) (htk : la ≤ now ∧ now ≤ 1099511627776) (hwt : 0 ≤ wt ∧ wt ≤ 5000) (hown : zs.contains fi = true) (hmac : fm ≠ mac) :
    Calls Try.prog 10 #[.pointer (some ⟨C, 0, none⟩), .agg #[.int .i64 o, .int .i64 fm, .int .i64 fi, .int .i64 tm, .int .i64 ti], .int .i64 now] w fun e w' => e = .returned (.tuple #[.agg #[.int .i64 0, .int .i64 0, .int .i64 0, .int .i64 0, .int .i64 0], .slice none 0 0, .int .i64 0, .int .i64 6]) ∧ At w' C (cV mac ag pa ro wa (.slice (some ⟨g, 0, none⟩) n c) now M A wt) ∧ KM w' M gk ∧ AM w' A ga ∧ Turn (fun k => k = C ∨ k = M ∨ k = A) w w' := by
  have hmm := of_decide_eq_true hmay
  have hkf : (Lit.int .i64 fi).wf = true := WalkArith.wf_i64 (by omega)
  have hCw := hC.1
  have hMw := hM.lt
  have hAw := hA.lt
  have hgw := hO.lt g rfl
  have q1 := bel1 w (.cells #[.int .i64 o, .int .i64 fm, .int .i64 fi, .int .i64 tm, .int .i64 ti] 31)
  have q2 := bel1 (w.alloc (.cells #[.int .i64 o, .int .i64 fm, .int .i64 fi, .int .i64 tm, .int .i64 ti] 31)) (.cells #[.int .i64 0, .int .i64 0, .int .i64 0, .int .i64 0, .int .i64 0] 31)
  have hb1 := bt q1 q2
  have hX1 := (At.box w #[.int .i64 o, .int .i64 fm, .int .i64 fi, .int .i64 tm, .int .i64 ti] 31).later q2
  have hR1 := At.box (w.alloc (.cells #[.int .i64 o, .int .i64 fm, .int .i64 fi, .int .i64 tm, .int .i64 ti] 31)) #[.int .i64 0, .int .i64 0, .int .i64 0, .int .i64 0, .int .i64 0] 31
  rw [show (w.alloc (.cells #[.int .i64 o, .int .i64 fm, .int .i64 fi, .int .i64 tm, .int .i64 ti] 31)).heap.size = w.heap.size + 1 by simp] at hR1
  have hs1 : w.heap.size + 2 ≤ ((w.alloc (.cells #[.int .i64 o, .int .i64 fm, .int .i64 fi, .int .i64 tm, .int .i64 ti] 31)).alloc (.cells #[.int .i64 0, .int .i64 0, .int .i64 0, .int .i64 0, .int .i64 0] 31)).heap.size := by simp
  have hC1 := hC.later hb1
  have hO1 := hO.later hb1
  have hM1 := hM.later hb1
  have hA1 := hA.later hb1
  clear q1 q2
  go_enter Try.func10, Try.ntmps10
  go_upto_region 1 with fail
  generalize (w.alloc (.cells #[.int .i64 o, .int .i64 fm, .int .i64 fi, .int .i64 tm, .int .i64 ti] 31)).alloc (.cells #[.int .i64 0, .int .i64 0, .int .i64 0, .int .i64 0, .int .i64 0] 31) = w1 at *
  obtain ⟨⟨x0, x1, x2, x3, x4⟩, -, xb⟩ := hX1.five
  go_wp2_with fail
  refine (ach_t hmay w1).mono ?_
  rintro e w2 ⟨rfl, hb2⟩
  have hC2 := hC1.later hb2
  have hO2 := hO1.later hb2
  have hM2 := hM1.later hb2
  have hA2 := hA1.later hb2
  have hX2 := hX1.later hb2
  have hR2 := hR1.later hb2
  have htt2 : Turn (fun k => k = C ∨ k = M ∨ k = A) w w2 := Turn.of_below (bt hb1 hb2)
  clear hC1 hO1 hM1 hA1 hX1 hR1 x0 x1 x2 x3 x4
  go_wp2_with fail
  refine (move_t C M A mac ag pa ro wa la wt _ now w2 hC2 htk).mono ?_
  rintro e w3 ⟨rfl, hC3, ht3⟩
  have hO3 := hO2.turn ht3 (fun k hk he => by simp [Value.ownBlock] at hk; omega)
  have hM3 := hM2.turn ht3 (Ne.symm hCM)
  have hA3 := hA2.turn ht3 (Ne.symm hCA)
  have hX3 := hX2.turn ht3 (by omega)
  have hR3 := hR2.turn ht3 (by omega)
  have htt3 := htt2.step ht3 (fun j hj => Or.inl (Or.inl hj))
  clear hC2 hO2 hM2 hA2 hX2 hR2 htt2
  obtain ⟨⟨x0, x1, x2, x3, x4⟩, -, xb⟩ := hX3.five
  have m0 : w3.cell? ⟨C, 0, none⟩ = some (.int .i64 mac) := (hC3.2 0 _ rfl).1
  have hfm : (fm != mac) = true := by simp [hmac]
  go_upto_region 6 with fail
  go_quiet ((go_at_call 24; refine Calls.quiet_of (isown_any C M A g n c mac ag pa ro wa now wt base zs fi _ (by exact hC3) (by exact hO3) hs hzn true hown)))
  have hb4 : Below w3.heap.size w3 (w3.drewN nq) := below_drewN (Below.refl _ _) nq
  generalize w3.drewN nq = w4 at *
  all_goals
    have hCa := hC3.later hb4
    have hMa := hM3.later hb4
    have hAa := hA3.later hb4
    have hRa := hR3.later hb4
    have htta := htt3.later hb4
    clear hC3 hO3 hM3 hA3 hX3 hR3 htt3 x0 x1 x2 x3 x4 m0
    obtain ⟨wa', hwa⟩ : ∃ y, y = w4 := ⟨_, rfl⟩
    subst hwa
    obtain ⟨⟨r0, r1, r2, r3, r4⟩, ⟨f0, f1, f2, f3, f4⟩, fb⟩ := hRa.five
    have t6 := turn5 wa' (w.heap.size + 1) (.int .i64 0) (.int .i64 0) (.int .i64 0) (.int .i64 0) (.int .i64 0)
    have hCb := hCa.turn t6 (by omega)
    have hMb := hMa.turn t6 (by omega)
    have hAb := hAa.turn t6 (by omega)
    have httb := htta.step t6 (fun j hj => Or.inr (by omega))
    clear hCa hMa hAa htta
    go_wp2
    exact bodyPost_ret (v := .tuple #[.agg #[.int .i64 0, .int .i64 0, .int .i64 0, .int .i64 0, .int .i64 0], .slice none 0 0, .int .i64 0, .int .i64 6]) (by simp [results, Try.results10, go_sem, r0, r1, r2, r3, r4]) rfl ⟨rfl, hCb, hMb, hAb, httb⟩
end Go.Proofs.Ytjldcillackhdaa
