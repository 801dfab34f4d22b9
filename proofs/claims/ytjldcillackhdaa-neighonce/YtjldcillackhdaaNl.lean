/- Send to one that is known; without room; where packets wait already. -/
import Derived.Test.YtjldcillackhdaaNk
namespace Go.Proofs.Ytjldcillackhdaa
open Go.RowKit Go.Maps Go.Proofs.Ytjldcillackhdaa.Eth Go.Proofs.Ytjldcillackhdaa.Eth.Arp
set_option maxRecDepth 100000
set_option linter.unusedVariables false
set_option linter.unusedSimpArgs false

set_option maxHeartbeats 4000000 in
theorem send_known (C M A g c : Nat) (mac ag pa ro wa la wt : Int) (base : Nat) (x pt id now : Int) (gk : Int → Option (Int × Int)) (ga : Int → Option (Int × Bool × Sl)) (w : World) (hC : At w C (cV mac ag pa ro wa (.slice (some ⟨g, 0, none⟩) 1 c) la M A wt)) (hO : Ints w base (.slice (some ⟨g, 0, none⟩) 1 c) [x]) (hM : KM w M gk) (hA : AM w A ga) (hCA : C ≠ A) (hCM : C ≠ M) (hMA : M ≠ A) (hgA : g ≠ A) (hgC : g ≠ C) (hgM : g ≠ M) (hok : okT gk) (hag : 1 ≤ ag ∧ ag ≤ 1048576) (hpt : 0 ≤ pt ∧ pt ≤ 4294967295) (hid : 0 ≤ id ∧ id ≤ 65535) (htk : la ≤ now ∧ now ≤ 1099511627776) (hwt : 0 ≤ wt ∧ wt ≤ 5000) (mo : Int) (hlook : lookF gk ag pt now = (mo, true)) :
    Calls Try.prog 9 #[.pointer (some ⟨C, 0, none⟩), .agg #[.int .i64 10, .int .i64 pt, .int .i64 9, .int .i64 0, .int .i64 id, .int .i64 0, .bool false, .bool false, .string ⟨#[]⟩, .string ⟨#[]⟩], .int .i64 pt, .int .i64 now] w fun e w' => e = .returned (.tuple #[.int .i64 mo, .agg #[.int .i64 0, .int .i64 0, .int .i64 0, .int .i64 0, .int .i64 0], .int .i64 0]) ∧ At w' C (cV mac ag pa ro wa (.slice (some ⟨g, 0, none⟩) 1 c) now M A wt) ∧ KM w' M gk ∧ AM w' A ga ∧ Turn (fun k => k = A ∨ k = C) w w' := by
  have hmay : Ip.mayP 10 pt 9 0 id 0 false (⟨#[]⟩ : ByteArray).size (⟨#[]⟩ : ByteArray).size = true := Ip.mayP_t (by unfold Ip.mayQ; refine ⟨by omega, by omega, by omega, by omega, by omega, by omega, by decide, by decide, (fun h => by cases h), by decide, by decide⟩)
  have hkp : (Lit.int .i64 pt).wf = true := WalkArith.wf_i64 (by omega)
  have hip : ipB pt = true := by unfold ipB; rw [decide_eq_true hpt.1, decide_eq_true hpt.2]; rfl
  have hCw := hC.1
  have hMw := hM.lt
  have hAw := hA.lt
  have hgw := hO.lt g rfl
  have q1 := bel1 w (.cells #[.int .i64 10, .int .i64 pt, .int .i64 9, .int .i64 0, .int .i64 id, .int .i64 0, .bool false, .bool false, .string ⟨#[]⟩, .string ⟨#[]⟩] 29)
  have q2 := bel1 (w.alloc (.cells #[.int .i64 10, .int .i64 pt, .int .i64 9, .int .i64 0, .int .i64 id, .int .i64 0, .bool false, .bool false, .string ⟨#[]⟩, .string ⟨#[]⟩] 29)) (.cells #[.int .i64 0, .int .i64 0, .int .i64 0, .int .i64 0, .int .i64 0] 31)
  have hb1 := bt q1 q2
  have hX1 := (At.box w #[.int .i64 10, .int .i64 pt, .int .i64 9, .int .i64 0, .int .i64 id, .int .i64 0, .bool false, .bool false, .string ⟨#[]⟩, .string ⟨#[]⟩] 29).later q2
  have hR1 := At.box (w.alloc (.cells #[.int .i64 10, .int .i64 pt, .int .i64 9, .int .i64 0, .int .i64 id, .int .i64 0, .bool false, .bool false, .string ⟨#[]⟩, .string ⟨#[]⟩] 29)) #[.int .i64 0, .int .i64 0, .int .i64 0, .int .i64 0, .int .i64 0] 31
  rw [show (w.alloc (.cells #[.int .i64 10, .int .i64 pt, .int .i64 9, .int .i64 0, .int .i64 id, .int .i64 0, .bool false, .bool false, .string ⟨#[]⟩, .string ⟨#[]⟩] 29)).heap.size = w.heap.size + 1 by simp] at hR1
  have hs1 : w.heap.size + 2 ≤ ((w.alloc (.cells #[.int .i64 10, .int .i64 pt, .int .i64 9, .int .i64 0, .int .i64 id, .int .i64 0, .bool false, .bool false, .string ⟨#[]⟩, .string ⟨#[]⟩] 29)).alloc (.cells #[.int .i64 0, .int .i64 0, .int .i64 0, .int .i64 0, .int .i64 0] 31)).heap.size := by simp
  have hC1 := hC.later hb1
  have hO1 := hO.later hb1
  have hM1 := hM.later hb1
  have hA1 := hA.later hb1
  clear q1 q2
  go_enter Try.func9, Try.ntmps9
  go_upto_region 1 with fail
  generalize (w.alloc (.cells #[.int .i64 10, .int .i64 pt, .int .i64 9, .int .i64 0, .int .i64 id, .int .i64 0, .bool false, .bool false, .string ⟨#[]⟩, .string ⟨#[]⟩] 29)).alloc (.cells #[.int .i64 0, .int .i64 0, .int .i64 0, .int .i64 0, .int .i64 0] 31) = w1 at *
  obtain ⟨x0, x1, x2, x3, x4, x5, x6, x7, x8, x9⟩ := hX1.ten
  go_wp2_with fail
  refine (Ip.chk_t (dn := false) hmay w1 (by decide) (by decide)).mono ?_
  rintro e w2 ⟨rfl, hb2⟩
  have hC2 := hC1.later hb2
  have hO2 := hO1.later hb2
  have hM2 := hM1.later hb2
  have hA2 := hA1.later hb2
  have hX2 := hX1.later hb2
  have hR2 := hR1.later hb2
  have htt2 : Turn (fun k => k = A ∨ k = C) w w2 := Turn.of_below (bt hb1 hb2)
  clear hC1 hO1 hM1 hA1 hX1 hR1 x0 x1 x2 x3 x4 x5 x6 x7 x8 x9
  go_wp2_with fail
  refine (isip_any pt w2).mono ?_
  rintro e w2 ⟨rfl, rfl⟩
  rw [hip]
  go_wp2_with fail
  refine (move_t C M A mac ag pa ro wa la wt _ now _ hC2 htk).mono ?_
  rintro e w3 ⟨rfl, hC3, ht3⟩
  have hO3 := hO2.turn ht3 (fun k hk he => by simp [Value.ownBlock] at hk; omega)
  have hM3 := hM2.turn ht3 (Ne.symm hCM)
  have hA3 := hA2.turn ht3 (Ne.symm hCA)
  have hX3 := hX2.turn ht3 (by omega)
  have hR3 := hR2.turn ht3 (by omega)
  have htt3 := htt2.step ht3 (fun j hj => Or.inl (Or.inr hj))
  clear hC2 hO2 hM2 hA2 hX2 hR2 htt2
  go_wp2_with fail
  refine (look_any C M A mac ag pa ro wa now wt _ gk pt now w3 hC3 hM3 hok hag hkp).mono ?_
  rintro e w4 ⟨rfl, hb4⟩
  rw [hlook]
  have hC4 := hC3.later hb4
  have hO4 := hO3.later hb4
  have hM4 := hM3.later hb4
  have hA4 := hA3.later hb4
  have hX4 := hX3.later hb4
  have hR4 := hR3.later hb4
  have htt4 := htt3.later hb4
  clear hC3 hO3 hM3 hA3 hX3 hR3 htt3
  have hCx := hC4
  have hMx := hM4
  have hAx := hA4
  have hRx := hR4
  have httx := htt4
  clear hC4 hO4 hM4 hA4 hX4 hR4 htt4
  obtain ⟨⟨r0, r1, r2, r3, r4⟩, ⟨f0, f1, f2, f3, f4⟩, fb⟩ := hRx.five
  have t6 := turn5 w4 (w.heap.size + 1) (.int .i64 0) (.int .i64 0) (.int .i64 0) (.int .i64 0) (.int .i64 0)
  have hCb := hCx.turn t6 (by omega)
  have hMb := hMx.turn t6 (by omega)
  have hAb := hAx.turn t6 (by omega)
  have httb := httx.step t6 (fun j hj => Or.inr (by omega))
  clear hCx hMx hAx httx
  go_wp2
  exact bodyPost_ret (v := .tuple #[.int .i64 mo, .agg #[.int .i64 0, .int .i64 0, .int .i64 0, .int .i64 0, .int .i64 0], .int .i64 0]) (by simp [results, Try.results9, go_sem, r0, r1, r2, r3, r4]) rfl ⟨rfl, hCb, hMb, hAb, httb⟩
set_option maxHeartbeats 4000000 in
theorem send_full (C M A g c : Nat) (mac ag pa ro wa la wt : Int) (base : Nat) (x pt id now : Int) (gk : Int → Option (Int × Int)) (ga : Int → Option (Int × Bool × Sl)) (w : World) (hC : At w C (cV mac ag pa ro wa (.slice (some ⟨g, 0, none⟩) 1 c) la M A wt)) (hO : Ints w base (.slice (some ⟨g, 0, none⟩) 1 c) [x]) (hM : KM w M gk) (hA : AM w A ga) (hCA : C ≠ A) (hCM : C ≠ M) (hMA : M ≠ A) (hgA : g ≠ A) (hgC : g ≠ C) (hgM : g ≠ M) (hok : okT gk) (hag : 1 ≤ ag ∧ ag ≤ 1048576) (hpt : 0 ≤ pt ∧ pt ≤ 4294967295) (hid : 0 ≤ id ∧ id ≤ 65535) (htk : la ≤ now ∧ now ≤ 1099511627776) (hwt : 0 ≤ wt ∧ wt ≤ 5000) (hlook : lookF gk ag pt now = (0, false)) (hroom : wa ≤ wt) :
    Calls Try.prog 9 #[.pointer (some ⟨C, 0, none⟩), .agg #[.int .i64 10, .int .i64 pt, .int .i64 9, .int .i64 0, .int .i64 id, .int .i64 0, .bool false, .bool false, .string ⟨#[]⟩, .string ⟨#[]⟩], .int .i64 pt, .int .i64 now] w fun e w' => e = .returned (.tuple #[.int .i64 0, .agg #[.int .i64 0, .int .i64 0, .int .i64 0, .int .i64 0, .int .i64 0], .int .i64 150]) ∧ At w' C (cV mac ag pa ro wa (.slice (some ⟨g, 0, none⟩) 1 c) now M A wt) ∧ KM w' M gk ∧ AM w' A ga ∧ Turn (fun k => k = A ∨ k = C) w w' := by
  have hmay : Ip.mayP 10 pt 9 0 id 0 false (⟨#[]⟩ : ByteArray).size (⟨#[]⟩ : ByteArray).size = true := Ip.mayP_t (by unfold Ip.mayQ; refine ⟨by omega, by omega, by omega, by omega, by omega, by omega, by decide, by decide, (fun h => by cases h), by decide, by decide⟩)
  have hkp : (Lit.int .i64 pt).wf = true := WalkArith.wf_i64 (by omega)
  have hip : ipB pt = true := by unfold ipB; rw [decide_eq_true hpt.1, decide_eq_true hpt.2]; rfl
  have hCw := hC.1
  have hMw := hM.lt
  have hAw := hA.lt
  have hgw := hO.lt g rfl
  have q1 := bel1 w (.cells #[.int .i64 10, .int .i64 pt, .int .i64 9, .int .i64 0, .int .i64 id, .int .i64 0, .bool false, .bool false, .string ⟨#[]⟩, .string ⟨#[]⟩] 29)
  have q2 := bel1 (w.alloc (.cells #[.int .i64 10, .int .i64 pt, .int .i64 9, .int .i64 0, .int .i64 id, .int .i64 0, .bool false, .bool false, .string ⟨#[]⟩, .string ⟨#[]⟩] 29)) (.cells #[.int .i64 0, .int .i64 0, .int .i64 0, .int .i64 0, .int .i64 0] 31)
  have hb1 := bt q1 q2
  have hX1 := (At.box w #[.int .i64 10, .int .i64 pt, .int .i64 9, .int .i64 0, .int .i64 id, .int .i64 0, .bool false, .bool false, .string ⟨#[]⟩, .string ⟨#[]⟩] 29).later q2
  have hR1 := At.box (w.alloc (.cells #[.int .i64 10, .int .i64 pt, .int .i64 9, .int .i64 0, .int .i64 id, .int .i64 0, .bool false, .bool false, .string ⟨#[]⟩, .string ⟨#[]⟩] 29)) #[.int .i64 0, .int .i64 0, .int .i64 0, .int .i64 0, .int .i64 0] 31
  rw [show (w.alloc (.cells #[.int .i64 10, .int .i64 pt, .int .i64 9, .int .i64 0, .int .i64 id, .int .i64 0, .bool false, .bool false, .string ⟨#[]⟩, .string ⟨#[]⟩] 29)).heap.size = w.heap.size + 1 by simp] at hR1
  have hs1 : w.heap.size + 2 ≤ ((w.alloc (.cells #[.int .i64 10, .int .i64 pt, .int .i64 9, .int .i64 0, .int .i64 id, .int .i64 0, .bool false, .bool false, .string ⟨#[]⟩, .string ⟨#[]⟩] 29)).alloc (.cells #[.int .i64 0, .int .i64 0, .int .i64 0, .int .i64 0, .int .i64 0] 31)).heap.size := by simp
  have hC1 := hC.later hb1
  have hO1 := hO.later hb1
  have hM1 := hM.later hb1
  have hA1 := hA.later hb1
  clear q1 q2
  go_enter Try.func9, Try.ntmps9
  go_upto_region 1 with fail
  generalize (w.alloc (.cells #[.int .i64 10, .int .i64 pt, .int .i64 9, .int .i64 0, .int .i64 id, .int .i64 0, .bool false, .bool false, .string ⟨#[]⟩, .string ⟨#[]⟩] 29)).alloc (.cells #[.int .i64 0, .int .i64 0, .int .i64 0, .int .i64 0, .int .i64 0] 31) = w1 at *
  obtain ⟨x0, x1, x2, x3, x4, x5, x6, x7, x8, x9⟩ := hX1.ten
  go_wp2_with fail
  refine (Ip.chk_t (dn := false) hmay w1 (by decide) (by decide)).mono ?_
  rintro e w2 ⟨rfl, hb2⟩
  have hC2 := hC1.later hb2
  have hO2 := hO1.later hb2
  have hM2 := hM1.later hb2
  have hA2 := hA1.later hb2
  have hX2 := hX1.later hb2
  have hR2 := hR1.later hb2
  have htt2 : Turn (fun k => k = A ∨ k = C) w w2 := Turn.of_below (bt hb1 hb2)
  clear hC1 hO1 hM1 hA1 hX1 hR1 x0 x1 x2 x3 x4 x5 x6 x7 x8 x9
  go_wp2_with fail
  refine (isip_any pt w2).mono ?_
  rintro e w2 ⟨rfl, rfl⟩
  rw [hip]
  go_wp2_with fail
  refine (move_t C M A mac ag pa ro wa la wt _ now _ hC2 htk).mono ?_
  rintro e w3 ⟨rfl, hC3, ht3⟩
  have hO3 := hO2.turn ht3 (fun k hk he => by simp [Value.ownBlock] at hk; omega)
  have hM3 := hM2.turn ht3 (Ne.symm hCM)
  have hA3 := hA2.turn ht3 (Ne.symm hCA)
  have hX3 := hX2.turn ht3 (by omega)
  have hR3 := hR2.turn ht3 (by omega)
  have htt3 := htt2.step ht3 (fun j hj => Or.inl (Or.inr hj))
  clear hC2 hO2 hM2 hA2 hX2 hR2 htt2
  go_wp2_with fail
  refine (look_any C M A mac ag pa ro wa now wt _ gk pt now w3 hC3 hM3 hok hag hkp).mono ?_
  rintro e w4 ⟨rfl, hb4⟩
  rw [hlook]
  have hC4 := hC3.later hb4
  have hO4 := hO3.later hb4
  have hM4 := hM3.later hb4
  have hA4 := hA3.later hb4
  have hX4 := hX3.later hb4
  have hR4 := hR3.later hb4
  have htt4 := htt3.later hb4
  clear hC3 hO3 hM3 hA3 hX3 hR3 htt3
  have w9 : w4.cell? ⟨C, 9, none⟩ = some (.int .i64 wt) := (hC4.2 9 _ rfl).1
  have w4' : w4.cell? ⟨C, 4, none⟩ = some (.int .i64 wa) := (hC4.2 4 _ rfl).1
  go_upto_region 9 with fail
  go_quiet (fail)
  have hb5 : Below w4.heap.size w4 (w4.drewN nq) := below_drewN (Below.refl _ _) nq
  have hC5 := hC4.later hb5
  have hO5 := hO4.later hb5
  have hM5 := hM4.later hb5
  have hA5 := hA4.later hb5
  have hX5 := hX4.later hb5
  have hR5 := hR4.later hb5
  have htt5 := htt4.later hb5
  clear hC4 hO4 hM4 hA4 hX4 hR4 htt4 w9 w4'
  generalize w4.drewN nq = w5 at *
  obtain ⟨x0, x1, x2, x3, x4, x5, x6, x7, x8, x9⟩ := hX5.ten
  have hCx := hC5
  have hMx := hM5
  have hAx := hA5
  have hRx := hR5
  have httx := htt5
  clear hC5 hO5 hM5 hA5 hX5 hR5 htt5 x0 x1 x2 x3 x4 x5 x6 x7 x8 x9
  obtain ⟨⟨r0, r1, r2, r3, r4⟩, ⟨f0, f1, f2, f3, f4⟩, fb⟩ := hRx.five
  have t6 := turn5 w5 (w.heap.size + 1) (.int .i64 0) (.int .i64 0) (.int .i64 0) (.int .i64 0) (.int .i64 0)
  have hCb := hCx.turn t6 (by omega)
  have hMb := hMx.turn t6 (by omega)
  have hAb := hAx.turn t6 (by omega)
  have httb := httx.step t6 (fun j hj => Or.inr (by omega))
  clear hCx hMx hAx httx
  go_wp2
  exact bodyPost_ret (v := .tuple #[.int .i64 0, .agg #[.int .i64 0, .int .i64 0, .int .i64 0, .int .i64 0, .int .i64 0], .int .i64 150]) (by simp [results, Try.results9, go_sem, r0, r1, r2, r3, r4]) rfl ⟨rfl, hCb, hMb, hAb, httb⟩
set_option maxHeartbeats 4000000 in
theorem send_old (C M A g c : Nat) (mac ag pa ro wa la wt : Int) (base : Nat) (x pt id now : Int) (gk : Int → Option (Int × Int)) (ga : Int → Option (Int × Bool × Sl)) (w : World) (hC : At w C (cV mac ag pa ro wa (.slice (some ⟨g, 0, none⟩) 1 c) la M A wt)) (hO : Ints w base (.slice (some ⟨g, 0, none⟩) 1 c) [x]) (hM : KM w M gk) (hA : AM w A ga) (hCA : C ≠ A) (hCM : C ≠ M) (hMA : M ≠ A) (hgA : g ≠ A) (hgC : g ≠ C) (hgM : g ≠ M) (hok : okT gk) (hag : 1 ≤ ag ∧ ag ≤ 1048576) (hpt : 0 ≤ pt ∧ pt ≤ 4294967295) (hid : 0 ≤ id ∧ id ≤ 65535) (htk : la ≤ now ∧ now ≤ 1099511627776) (hwt : 0 ≤ wt ∧ wt ≤ 5000) (hlook : lookF gk ag pt now = (0, false)) (hroom : wt < wa) (hkeys : ∀ k, (ga k).isSome = true → 0 ≤ k ∧ k < 0 + (5000 : Nat)) (qa : Int) (qb : Bool) (qp : Option Addr) (qc : Nat) (ids : List Int) (pbase : Nat) (hids : ids ≠ []) (hil : ids.length < 5000) (hg : ga pt = some (qa, qb, qp, ids.length, qc)) (hPw : PR w pbase (.slice qp ids.length qc) pt ids) (hpb : pbase ≤ w.heap.size) (hgP : (Value.slice qp ids.length qc).ownBlock ≠ some g) (hMP : ∀ k, (Value.slice qp ids.length qc).ownBlock = some k → k ≠ M) :
    Calls Try.prog 9 #[.pointer (some ⟨C, 0, none⟩), .agg #[.int .i64 10, .int .i64 pt, .int .i64 9, .int .i64 0, .int .i64 id, .int .i64 0, .bool false, .bool false, .string ⟨#[]⟩, .string ⟨#[]⟩], .int .i64 pt, .int .i64 now] w fun e w' => ∃ a6 p6, e = .returned (.tuple #[.int .i64 0, .agg #[.int .i64 0, .int .i64 0, .int .i64 0, .int .i64 0, .int .i64 0], .int .i64 110]) ∧ At w' C (cV mac ag pa ro wa (.slice (some ⟨g, 0, none⟩) 1 c) now M A (wt + 1)) ∧ KM w' M gk ∧ AM w' A (fun k => if k = pt then some (qa, qb, a6, ids.length + 1, p6) else ga k) ∧ PR w' pbase (.slice a6 (ids.length + 1) p6) pt (ids ++ [id]) ∧ Turn (fun k => (k = A ∨ k = C) ∨ (Value.slice qp ids.length qc).ownBlock = some k) w w' := by
  have hroom' : ¬ wa ≤ wt := by omega
  have hPl := hPw.lt
  have hPc : ∀ k, (Value.slice qp ids.length qc).ownBlock = some k → k ≠ C := fun k hk => hPw.ne hids hk hC (j := 6) (u := .int .i64 la) rfl (fun _ => ⟨_, rfl, by simp⟩)
  have hPa : ∀ k, (Value.slice qp ids.length qc).ownBlock = some k → k ≠ A := fun k hk => by
    obtain ⟨al, hV, -⟩ := hA
    exact hPw.ne_vm hids hk hV
  have hmay : Ip.mayP 10 pt 9 0 id 0 false (⟨#[]⟩ : ByteArray).size (⟨#[]⟩ : ByteArray).size = true := Ip.mayP_t (by unfold Ip.mayQ; refine ⟨by omega, by omega, by omega, by omega, by omega, by omega, by decide, by decide, (fun h => by cases h), by decide, by decide⟩)
  have hkp : (Lit.int .i64 pt).wf = true := WalkArith.wf_i64 (by omega)
  have hip : ipB pt = true := by unfold ipB; rw [decide_eq_true hpt.1, decide_eq_true hpt.2]; rfl
  have hCw := hC.1
  have hMw := hM.lt
  have hAw := hA.lt
  have hgw := hO.lt g rfl
  have q1 := bel1 w (.cells #[.int .i64 10, .int .i64 pt, .int .i64 9, .int .i64 0, .int .i64 id, .int .i64 0, .bool false, .bool false, .string ⟨#[]⟩, .string ⟨#[]⟩] 29)
  have q2 := bel1 (w.alloc (.cells #[.int .i64 10, .int .i64 pt, .int .i64 9, .int .i64 0, .int .i64 id, .int .i64 0, .bool false, .bool false, .string ⟨#[]⟩, .string ⟨#[]⟩] 29)) (.cells #[.int .i64 0, .int .i64 0, .int .i64 0, .int .i64 0, .int .i64 0] 31)
  have hb1 := bt q1 q2
  have hX1 := (At.box w #[.int .i64 10, .int .i64 pt, .int .i64 9, .int .i64 0, .int .i64 id, .int .i64 0, .bool false, .bool false, .string ⟨#[]⟩, .string ⟨#[]⟩] 29).later q2
  have hR1 := At.box (w.alloc (.cells #[.int .i64 10, .int .i64 pt, .int .i64 9, .int .i64 0, .int .i64 id, .int .i64 0, .bool false, .bool false, .string ⟨#[]⟩, .string ⟨#[]⟩] 29)) #[.int .i64 0, .int .i64 0, .int .i64 0, .int .i64 0, .int .i64 0] 31
  rw [show (w.alloc (.cells #[.int .i64 10, .int .i64 pt, .int .i64 9, .int .i64 0, .int .i64 id, .int .i64 0, .bool false, .bool false, .string ⟨#[]⟩, .string ⟨#[]⟩] 29)).heap.size = w.heap.size + 1 by simp] at hR1
  have hs1 : w.heap.size + 2 ≤ ((w.alloc (.cells #[.int .i64 10, .int .i64 pt, .int .i64 9, .int .i64 0, .int .i64 id, .int .i64 0, .bool false, .bool false, .string ⟨#[]⟩, .string ⟨#[]⟩] 29)).alloc (.cells #[.int .i64 0, .int .i64 0, .int .i64 0, .int .i64 0, .int .i64 0] 31)).heap.size := by simp
  have hC1 := hC.later hb1
  have hO1 := hO.later hb1
  have hM1 := hM.later hb1
  have hA1 := hA.later hb1
  clear q1 q2
  go_enter Try.func9, Try.ntmps9
  go_upto_region 1 with fail
  generalize (w.alloc (.cells #[.int .i64 10, .int .i64 pt, .int .i64 9, .int .i64 0, .int .i64 id, .int .i64 0, .bool false, .bool false, .string ⟨#[]⟩, .string ⟨#[]⟩] 29)).alloc (.cells #[.int .i64 0, .int .i64 0, .int .i64 0, .int .i64 0, .int .i64 0] 31) = w1 at *
  obtain ⟨x0, x1, x2, x3, x4, x5, x6, x7, x8, x9⟩ := hX1.ten
  go_wp2_with fail
  refine (Ip.chk_t (dn := false) hmay w1 (by decide) (by decide)).mono ?_
  rintro e w2 ⟨rfl, hb2⟩
  have hC2 := hC1.later hb2
  have hO2 := hO1.later hb2
  have hM2 := hM1.later hb2
  have hA2 := hA1.later hb2
  have hX2 := hX1.later hb2
  have hR2 := hR1.later hb2
  have htt2 : Turn (fun k => k = A ∨ k = C) w w2 := Turn.of_below (bt hb1 hb2)
  clear hC1 hO1 hM1 hA1 hX1 hR1 x0 x1 x2 x3 x4 x5 x6 x7 x8 x9
  go_wp2_with fail
  refine (isip_any pt w2).mono ?_
  rintro e w2 ⟨rfl, rfl⟩
  rw [hip]
  go_wp2_with fail
  refine (move_t C M A mac ag pa ro wa la wt _ now _ hC2 htk).mono ?_
  rintro e w3 ⟨rfl, hC3, ht3⟩
  have hO3 := hO2.turn ht3 (fun k hk he => by simp [Value.ownBlock] at hk; omega)
  have hM3 := hM2.turn ht3 (Ne.symm hCM)
  have hA3 := hA2.turn ht3 (Ne.symm hCA)
  have hX3 := hX2.turn ht3 (by omega)
  have hR3 := hR2.turn ht3 (by omega)
  have htt3 := htt2.step ht3 (fun j hj => Or.inl (Or.inr hj))
  clear hC2 hO2 hM2 hA2 hX2 hR2 htt2
  go_wp2_with fail
  refine (look_any C M A mac ag pa ro wa now wt _ gk pt now w3 hC3 hM3 hok hag hkp).mono ?_
  rintro e w4 ⟨rfl, hb4⟩
  rw [hlook]
  have hC4 := hC3.later hb4
  have hO4 := hO3.later hb4
  have hM4 := hM3.later hb4
  have hA4 := hA3.later hb4
  have hX4 := hX3.later hb4
  have hR4 := hR3.later hb4
  have htt4 := htt3.later hb4
  clear hC3 hO3 hM3 hA3 hX3 hR3 htt3
  have w9 : w4.cell? ⟨C, 9, none⟩ = some (.int .i64 wt) := (hC4.2 9 _ rfl).1
  have w4' : w4.cell? ⟨C, 4, none⟩ = some (.int .i64 wa) := (hC4.2 4 _ rfl).1
  go_upto_region 9 with fail
  go_quiet (fail)
  have hb5 : Below w4.heap.size w4 (w4.drewN nq) := below_drewN (Below.refl _ _) nq
  have hC5 := hC4.later hb5
  have hO5 := hO4.later hb5
  have hM5 := hM4.later hb5
  have hA5 := hA4.later hb5
  have hX5 := hX4.later hb5
  have hR5 := hR4.later hb5
  have htt5 := htt4.later hb5
  clear hC4 hO4 hM4 hA4 hX4 hR4 htt4 w9 w4'
  generalize w4.drewN nq = w5 at *
  obtain ⟨x0, x1, x2, x3, x4, x5, x6, x7, x8, x9⟩ := hX5.ten
  have hAl := hA5.lt
  have hCl := hC5.1
  have hs5 := htt5.size
  have hPw5 := hPw.turn htt5 (fun k hk he => by have h1 := hPc k hk; have h2 := hPa k hk; rcases he with e | e <;> omega)
  go_wp2_with fail
  refine (hold_s C M A g c mac ag pa ro wa now wt base x pt id now ga w5 hC5 hO5 hA5 hCA hgA hgC hkp hwt hkeys qa qb qp qc ids pbase hids hil hg hPw5 (by omega) hgP).mono ?_
  rintro e w6 ⟨a6, p6, rfl, hC6, hA6, hP6, ht6⟩
  have hM6 := hM5.turn ht6 (fun e => by rcases e with (e | e) | e <;> first | omega | exact hMP _ e rfl)
  have hR6 := hR5.turn ht6 (fun e => by rcases e with (e | e) | e <;> first | omega | (have := hPl _ e; omega))
  have htt6 : Turn (fun k => (k = A ∨ k = C) ∨ (Value.slice qp ids.length qc).ownBlock = some k) w w6 := (htt5.mono (fun k h => Or.inl h)).step ht6 (fun j hj => Or.inl hj)
  have hnx : ids ++ [id] ≠ [] := by simp
  have gR : ∀ k, (Value.slice a6 (ids.length + 1) p6).ownBlock = some k → k ≠ w.heap.size + 1 := fun k hk => hP6.ne hnx hk hR6 (j := 0) (u := .int .i64 0) rfl (fun _ => ⟨_, rfl, by simp⟩)
  clear hC5 hO5 hM5 hA5 hX5 hR5 htt5 x0 x1 x2 x3 x4 x5 x6 x7 x8 x9 hPw5
  obtain ⟨⟨r0, r1, r2, r3, r4⟩, ⟨f0, f1, f2, f3, f4⟩, fb⟩ := hR6.five
  have t6 := turn5 w6 (w.heap.size + 1) (.int .i64 0) (.int .i64 0) (.int .i64 0) (.int .i64 0) (.int .i64 0)
  have hCb := hC6.turn t6 (by omega)
  have hMb := hM6.turn t6 (by omega)
  have hAb := hA6.turn t6 (by omega)
  have hPb := hP6.turn t6 (fun k hk he => gR k hk he)
  have httb := htt6.step t6 (fun j hj => Or.inr (by omega))
  clear hC6 hM6 hA6 hP6 htt6
  go_wp2
  exact bodyPost_ret (v := .tuple #[.int .i64 0, .agg #[.int .i64 0, .int .i64 0, .int .i64 0, .int .i64 0, .int .i64 0], .int .i64 110]) (by simp [results, Try.results9, go_sem, r0, r1, r2, r3, r4]) rfl ⟨a6, p6, rfl, hCb, hMb, hAb, hPb, httb⟩
end Go.Proofs.Ytjldcillackhdaa
