/- Tick, walked. -/
import Derived.Test.YtjldcillackhdaaNn
import Derived.Deep.Cut
import Derived.Deep.CutRange
namespace Go.Proofs.Ytjldcillackhdaa
open Go.RowKit Go.Maps Go.Proofs.Ytjldcillackhdaa.Eth Go.Proofs.Ytjldcillackhdaa.Eth.Arp
set_option maxRecDepth 100000
set_option linter.unusedVariables false
set_option linter.unusedSimpArgs false

theorem own_apart {w : World} {b1 b2 e1 e2 z1 z2 n1 n2 : Nat} {v u : Value} {xs ys : List Value} (h : w.ownsRow b1 e1 z1 v n1 xs) (k : w.ownsRow b2 e2 z2 u n2 ys) (he : e1 ≠ e2) {j : Nat} (hj : v.ownBlock = some j) : u.ownBlock ≠ some j := by
  intro hu
  rcases h.2 with ⟨rfl, -⟩ | ⟨g, cap, cur, rfl, hg, hb, -⟩
  · simp [Value.ownBlock] at hj
  · rcases k.2 with ⟨rfl, -⟩ | ⟨g', cap', cur', rfl, hg', hb', -⟩
    · simp [Value.ownBlock] at hu
    · simp [Value.ownBlock] at hj hu
      subst hj
      subst hu
      rw [hb] at hb'
      injection hb' with h1
      injection h1 with h2 h3
      exact he h3
set_option maxHeartbeats 8000000 in
theorem tick_any (C M A g c : Nat) (mac ag pa ro wa la wt : Int) (base pb : Nat) (x now : Int) (gk : Int → Option (Int × Int)) (ga : Ga) (gi : Int → List Int) (w : World) (hC : At w C (cV mac ag pa ro wa (.slice (some ⟨g, 0, none⟩) 1 c) la M A wt)) (hO : Ints w base (.slice (some ⟨g, 0, none⟩) 1 c) [x]) (hM : KM w M gk) (hA : AM w A ga) (hCA : C ≠ A) (hCM : C ≠ M) (hMA : M ≠ A) (hgA : g ≠ A) (hgC : g ≠ C) (hgM : g ≠ M) (htk : la ≤ now ∧ now ≤ 1099511627776) (hpa : 1 ≤ pa ∧ pa ≤ 1048576) (hwt : wt ≤ 5000)
    (hq : ∀ k p, ga k = some p → (gi k ≠ [] ∧ p.2.2.2.1 = (gi k).length ∧ (gi k).length < 5000) ∧ (0 ≤ p.1 ∧ p.1 ≤ now) ∧ 0 ≤ k ∧ k < 5000) (hrows : (∀ k2 p, ga k2 = some p → PR w pb (.slice p.2.2.1 p.2.2.2.1 p.2.2.2.2) k2 (gi k2))) (hsum : ∀ ks : List Int, ks.Nodup → ((lostL ga gi now pa ks).length : Int) ≤ wt) (hmay : ∀ k : Int, 0 ≤ k → k < 5000 → mayA 1 mac x 0 k = true) :
    Calls Try.prog 12 #[.pointer (some ⟨C, 0, none⟩), .int .i64 now] w fun e w' => ∃ (u v : Value) (ks : List Int), e = .returned (.tuple #[u, v, .int .i64 0]) ∧ ks.Pairwise (· < ·) ∧ (∀ k, k ∈ ks ↔ (ga k).isSome = true) ∧ At w' C (cV mac ag pa ro wa (.slice (some ⟨g, 0, none⟩) 1 c) now M A (wt - (lostL ga gi now pa ks).length)) ∧ KM w' M gk ∧ AM w' A (fun k => tickG ga now pa k) ∧ Ints w' base (.slice (some ⟨g, 0, none⟩) 1 c) [x] ∧ PX w' w.heap.size v (lostL ga gi now pa ks) ∧ Turn (fun k => k = A ∨ k = C) w w' := by
  obtain ⟨al, hV, hv⟩ := hA
  have hCw := hC.1
  have hMw := hM.lt
  have hAw := hV.lt
  have hgw := hO.lt g rfl
  have hkeys : ∀ k, (ga k).isSome = true → 0 ≤ k ∧ k < 0 + (5000 : Nat) := fun k hk => by
    obtain ⟨p, hp⟩ := Option.isSome_iff_exists.1 hk
    have := (hq k p hp).2.2
    omega
  have hln : al.length ≤ 5000 := vm_keys hV.2 hv (fun k hk => hkeys k (by simpa using hk))
  have hprC : ∀ k p, ga k = some p → ∀ b, (Value.slice p.2.2.1 p.2.2.2.1 p.2.2.2.2).ownBlock = some b → b ≠ C ∧ b ≠ A ∧ b < w.heap.size := fun k p hp b hb => by
    have h1 := hrows k p hp
    have h2 := (hq k p hp).1
    exact ⟨h1.ne h2.1 hb hC (j := 6) (u := .int .i64 la) rfl (fun _ => ⟨_, rfl, by simp⟩), h1.ne_vm h2.1 hb hV, h1.lt b hb⟩
  go_enter Try.func12, Try.ntmps12
  go_wp2_with fail
  refine (move_t C M A mac ag pa ro wa la wt _ now w hC htk).mono ?_
  rintro e w1 ⟨rfl, hC1, ht1⟩
  have hO1 := hO.turn ht1 (fun k hk he => by simp [Value.ownBlock] at hk; omega)
  have hM1 := hM.turn ht1 (Ne.symm hCM)
  have hV1 := hV.turn ht1 (Ne.symm hCA)
  have hr1 : (∀ k2 p, ga k2 = some p → PR w1 pb (.slice p.2.2.1 p.2.2.2.1 p.2.2.2.2) k2 (gi k2)) := fun k p hp => (hrows k p hp).turn ht1 (fun b hb he => (hprC k p hp b hb).1 he)
  have htt1 : Turn (fun k => k = A ∨ k = C) w w1 := ht1.mono (fun k h => Or.inr h)
  have c8 : w1.cell? ⟨C, 8, none⟩ = some (.map (some A)) := (hC1.2 8 _ rfl).1
  have hs1 := ht1.size
  go_wp2_with fail
  refine (keys_call A w1).mono ?_
  rintro e wq ⟨rfl, rfl⟩
  go_wp2_with fail
  refine (sorted_call A al w1 hV1 (by omega)).mono ?_
  rintro e w2 ⟨kv, rfl, hK2, hb2⟩
  have hks : (al.map (·.1)).Pairwise (· < ·) := by rw [List.pairwise_map]; exact hV.2
  have hkm : ∀ k, k ∈ al.map (·.1) ↔ (ga k).isSome = true := fun k => by
    have h1 := hv k
    constructor
    · intro hk
      obtain ⟨e, he, rfl⟩ := List.mem_map.1 hk
      rw [vlk_of hV.2 (v := e.2) he] at h1
      cases hg : ga e.1 with
      | none => rw [hg] at h1; cases h1
      | some p => rfl
    · intro hk
      obtain ⟨p, hp⟩ := Option.isSome_iff_exists.1 hk
      rw [hp, Option.map_some] at h1
      exact List.mem_map.2 ⟨_, vlk_mem h1, rfl⟩
  have hkl : (al.map (·.1)).length < 5001 := by rw [List.length_map]; omega
  have hA2 : AM w2 A (stepG ga now pa ((al.map (·.1)).take 0)) := ⟨al, hV1.later hb2, fun k => by rw [hv k]; unfold stepG; simp⟩
  have hC2 := hC1.later hb2
  have hO2 := hO1.later hb2
  have hM2 := hM1.later hb2
  have hr2 : (∀ k2 p, ga k2 = some p → PR w2 pb (.slice p.2.2.1 p.2.2.2.1 p.2.2.2.2) k2 (gi k2)) := fun k p hp => (hr1 k p hp).later hb2
  have htt2 := htt1.later hb2
  have hs2 := hb2.size
  generalize al.map (·.1) = ks at *
  clear hC1 hO1 hM1 hV1 hr1 hV hv c8 htt1 hb2 ht1
  obtain ⟨ka, kc, rfl, hkc⟩ : ∃ ka kc, kv = .slice ka ks.length kc ∧ ∀ W, Ints W w1.heap.size (.slice ka ks.length kc) ks → ∀ j k, ks[j]? = some k → ∃ gq, ka = some ⟨gq, 0, none⟩ ∧ W.cell? ⟨gq, j, none⟩ = some (.int .i64 k) := by
    rcases hK2.2 with ⟨rfl, h0⟩ | ⟨g2, cap2, cur2, rfl, -⟩
    · refine ⟨none, 0, by rw [h0], fun W hW j k hj => ?_⟩
      have := (List.getElem?_eq_some_iff.1 hj).1
      omega
    · refine ⟨_, _, rfl, fun W hW j k hj => ⟨g2, rfl, ?_⟩⟩
      have hjl := (List.getElem?_eq_some_iff.1 hj).1
      have := hW.cells.2 j hjl
      rw [Nat.zero_add] at this
      rw [this]
      simp [List.getD, hj]
  have hkge := own_ge hK2
  have hklt := hK2.lt
  have HKC : Hid (∀ W, Ints W w1.heap.size (.slice ka ks.length kc) ks → ∀ j k, ks[j]? = some k → ∃ gq, ka = some ⟨gq, 0, none⟩ ∧ W.cell? ⟨gq, j, none⟩ = some (.int .i64 k)) := hkc
  clear hkc
  go_wp2
  go_loopw [4, 5, 21] (fun u v i wr => ∃ (j nA : Nat) (U V : Value), U = u ∧ V = v ∧ j ≤ ks.length ∧ nA ≤ j ∧ i = .int .i64 (j : Int) ∧ At wr C (cV mac ag pa ro wa (.slice (some ⟨g, 0, none⟩) 1 c) now M A (wt - (lostL ga gi now pa (ks.take j)).length)) ∧ KM wr M gk ∧ AM wr A (stepG ga now pa (ks.take j)) ∧ Ints wr base (.slice (some ⟨g, 0, none⟩) 1 c) [x] ∧ Ints wr w1.heap.size (.slice ka ks.length kc) ks ∧ (∀ k2 p, ga k2 = some p → PR wr pb (.slice p.2.2.1 p.2.2.2.1 p.2.2.2.2) k2 (gi k2)) ∧ AX wr w2.heap.size U nA ∧ PX wr w2.heap.size V (lostL ga gi now pa (ks.take j)) ∧ w2.heap.size ≤ wr.heap.size ∧ Turn (fun k => k = A ∨ k = C) w wr) (fun _ _ i _ => ks.length - (intOf i).toNat)
  case atStart => exact ⟨0, 0, _, _, rfl, rfl, Nat.zero_le _, Nat.le_refl _, rfl, by simpa [lostL] using hC2, hM2, hA2, hO2, hK2, hr2, ⟨[], World.ownsRow_nil _ _ _ _⟩, PX.nil _ _, Nat.le_refl _, htt2⟩
  case round =>
    clear hC2 hM2 hA2 hO2 hK2 hr2 htt2
    obtain ⟨j, nA, U, V, rfl, rfl, hj, hnA, rfl, hCr, hMr, hAr, hOr, hKr, hrr, hU, hVx, hsr, httr⟩ := hrel
    have hnd : ks.Nodup := hks.imp (fun h => by omega)
    have hlj : ((lostL ga gi now pa (ks.take j)).length : Int) ≤ wt := hsum _ (hnd.sublist (List.take_sublist _ _))
    by_cases hjl : j < ks.length
    · obtain ⟨k, hkj⟩ : ∃ k, ks[j]? = some k := ⟨_, List.getElem?_eq_getElem hjl⟩
      obtain ⟨gq, rfl, hkcell⟩ := HKC.out wr hKr j k hkj
      obtain ⟨p, hp⟩ := Option.isSome_iff_exists.1 ((hkm k).1 (List.mem_of_getElem? hkj))
      obtain ⟨qa, qb, qp, qn, qc⟩ := p
      obtain ⟨⟨hgi, hqn, hgl⟩, ⟨hq0, hq1⟩, hk0, hk5⟩ := hq k _ hp
      have hPRk := hrr k _ hp
      dsimp only at hqn hq0 hq1 hPRk
      subst hqn
      have hwk : (Lit.int .i64 k).wf = true := WalkArith.wf_i64 (by omega)
      have hnot : k ∉ ks.take j := by
        intro hmem
        obtain ⟨i, hi, hik⟩ := List.mem_iff_getElem.1 hmem
        rw [List.getElem_take] at hik
        rw [List.length_take] at hi
        obtain ⟨hj', hjk⟩ := List.getElem?_eq_some_iff.1 hkj
        have := List.pairwise_iff_getElem.1 hks i j (by omega) hj' (by omega)
        omega
      have hst : stepG ga now pa (ks.take j) k = some (qa, qb, qp, (gi k).length, qc) := by unfold stepG; rw [if_neg hnot, hp]
      have hsn := @step_snoc ga now pa ks j k hkj
      have hls := @lost_snoc ga gi now pa ks j k hkj
      have hkz : (j : Int) < (ks.length : Int) := by omega
      obtain ⟨al2, hV2, hv2⟩ := hAr
      have hvk := hv2 k
      rw [hst, Option.map_some, show av (qa, qb, qp, (gi k).length, qc) = .agg #[.int .i64 qa, .bool qb, .slice qp (gi k).length qc] from rfl] at hvk
      have hlook := hV2.look Try.underlying62 zeroQ hwk
      rw [hvk, Option.getD_some] at hlook
      have d8 : wr.cell? ⟨C, 8, none⟩ = some (.map (some A)) := (hCr.2 8 _ rfl).1
      have q3 := bel1 wr (.cells #[.int .i64 qa, .bool qb, .slice qp (gi k).length qc] 78)
      have hX := At.box wr #[.int .i64 qa, .bool qb, .slice qp (gi k).length qc] 78
      go_upto_region 9 with fail
      have hCa := hCr.later q3
      have hMa := hMr.later q3
      have hVa := hV2.later q3
      have hOa := hOr.later q3
      have hKa := hKr.later q3
      have hra : (∀ k2 p, ga k2 = some p → PR (wr.alloc (.cells #[.int .i64 qa, .bool qb, .slice qp (gi k).length qc] 78)) pb (.slice p.2.2.1 p.2.2.2.1 p.2.2.2.2) k2 (gi k2)) := fun k p hp => (hrr k p hp).later q3
      have hUa := hU.later q3
      have hVxa := hVx.later q3
      have htta := httr.later q3
      have hsa : w2.heap.size ≤ (wr.alloc (.cells #[.int .i64 qa, .bool qb, .slice qp (gi k).length qc] 78)).heap.size := Nat.le_trans hsr q3.size
      have hbx : w2.heap.size ≤ wr.heap.size := hsr
      have HSN : Hid (∀ {g : Ga}, (∀ x, g x = if x = k then tickG ga now pa k else stepG ga now pa (ks.take j) x) → g = stepG ga now pa (ks.take (j + 1))) := hsn
      have HLS : Hid (lostL ga gi now pa (ks.take (j + 1)) = lostL ga gi now pa (ks.take j) ++ if lostB ga now pa k = true then (gi k).map fun i => (k, i) else []) := hls
      have HP : Hid (ga k = some (qa, qb, qp, (gi k).length, qc)) := hp
      have hlj1 : ((lostL ga gi now pa (ks.take (j + 1))).length : Int) ≤ wt := hsum _ (hnd.sublist (List.take_sublist _ _))
      clear hCr hMr hV2 hOr hKr hrr hU hVx httr d8 hlook hsn hls hp hkcell
      generalize wr.alloc (.cells #[.int .i64 qa, .bool qb, .slice qp (gi k).length qc] 78) = wz at *
      have y0 : wz.cell? ⟨wr.heap.size, 0, none⟩ = some (.int .i64 qa) := (hX.2 0 _ rfl).1
      have y1 : wz.cell? ⟨wr.heap.size, 1, none⟩ = some (.bool qb) := (hX.2 1 _ rfl).1
      have y2 : wz.cell? ⟨wr.heap.size, 2, none⟩ = some (.slice qp (gi k).length qc) := (hX.2 2 _ rfl).1
      have z2 : wz.cell? ⟨C, 2, none⟩ = some (.int .i64 pa) := (hCa.2 2 _ rfl).1
      have hwrap : IntKind.i64.wrap (now - qa) = now - qa := by rw [IntKind.wrap_i64]; omega
      by_cases hpat : now - qa < pa
      · have ht : tickG ga now pa k = some (qa, qb, qp, (gi k).length, qc) := by unfold tickG; rw [HP.out]; simp [hpat]
        have hlo : lostB ga now pa k = false := by unfold lostB; rw [HP.out]; simp [hpat]
        have hG := HSN.out (g := stepG ga now pa (ks.take j)) (fun y => by by_cases e : y = k <;> simp [e, ht, hst])
        have hL : lostL ga gi now pa (ks.take (j + 1)) = lostL ga gi now pa (ks.take j) := by rw [HLS.out, hlo]; simp
        have hAa : AM wz A (stepG ga now pa (ks.take j)) := ⟨al2, hVa, hv2⟩
        rw [hG] at hAa
        rw [← hL] at hCa hVxa
        go_quiet (fail)
        have qd : Below wz.heap.size wz (wz.drewN nq) := below_drewN (Below.refl _ _) nq
        have r1 := hCa.later qd
        have r2 := hMa.later qd
        have r3 := hAa.later qd
        have r4 := hOa.later qd
        have r5 := hKa.later qd
        have r6 : (∀ k2 p, ga k2 = some p → PR (wz.drewN nq) pb (.slice p.2.2.1 p.2.2.2.1 p.2.2.2.2) k2 (gi k2)) := fun k p hp => (hra k p hp).later qd
        have r7 := hUa.later qd
        have r8 := hVxa.later qd
        have r9 := htta.later qd
        clear hCa hMa hAa hOa hKa hra hUa hVxa htta
        go_wp2
        go_roundw
        case rel => exact ⟨j + 1, nA, _, _, rfl, rfl, by omega, by omega, by simp, r1, r2, r3, r4, r5, r6, r7, r8, Nat.le_trans hsa qd.size, r9⟩
        case measure => simp [intOf]; omega
      · go_quiet (fail)
        have qd : Below wz.heap.size wz (wz.drewN nq) := below_drewN (Below.refl _ _) nq
        have r1 := hCa.later qd
        have r2 := hMa.later qd
        have r3 := hVa.later qd
        have r4 := hOa.later qd
        have r5 := hKa.later qd
        have r6 : (∀ k2 p, ga k2 = some p → PR (wz.drewN nq) pb (.slice p.2.2.1 p.2.2.2.1 p.2.2.2.2) k2 (gi k2)) := fun k p hp => (hra k p hp).later qd
        have r7 := hUa.later qd
        have r8 := hVxa.later qd
        have r9 := htta.later qd
        have r10 := hX.later qd
        have hsd := Nat.le_trans hsa qd.size
        clear hCa hMa hVa hOa hKa hra hUa hVxa htta hX y0 y1 y2 z2 qd
        generalize wz.drewN nq = wd at *
        have y1 : wd.cell? ⟨wr.heap.size, 1, none⟩ = some (.bool qb) := (r10.2 1 _ rfl).1
        have y2 : wd.cell? ⟨wr.heap.size, 2, none⟩ = some (.slice qp (gi k).length qc) := (r10.2 2 _ rfl).1
        have d8 : wd.cell? ⟨C, 8, none⟩ = some (.map (some A)) := (r1.2 8 _ rfl).1
        cases qb with
        | true =>
          have ht : tickG ga now pa k = none := by unfold tickG; rw [HP.out]; simp [hpat]
          have hlo : lostB ga now pa k = true := by unfold lostB; rw [HP.out]; simp [hpat]
          have hL : lostL ga gi now pa (ks.take (j + 1)) = lostL ga gi now pa (ks.take j) ++ (gi k).map fun i => (k, i) := by rw [HLS.out, hlo]; simp
          have hLn : (lostL ga gi now pa (ks.take (j + 1))).length = (lostL ga gi now pa (ks.take j)).length + (gi k).length := by rw [hL]; simp
          go_wp2_with fail
          refine (release_s C M A mac ag pa ro wa now (wt - (lostL ga gi now pa (ks.take j)).length) _ (stepG ga now pa (ks.take j)) k qa true qp (gi k).length qc wd r1 ⟨al2, r3, hv2⟩ hCA hwk hst (by omega) hgl).mono ?_
          rintro e w5 ⟨rfl, hC5, hA5, ht5⟩
          have hM5 := r2.turn ht5 (by omega)
          have hO5 := r4.turn ht5 (fun b hb he => by simp [Value.ownBlock] at hb; omega)
          have hK5 := r5.turn ht5 (fun b hb he => by have := hkge b hb; omega)
          have hr5 : (∀ k2 p, ga k2 = some p → PR w5 pb (.slice p.2.2.1 p.2.2.2.1 p.2.2.2.2) k2 (gi k2)) := fun k p hp => (r6 k p hp).turn ht5 (fun b hb he => by have := hprC k p hp b hb; omega)
          have hU5 := r7.turn ht5 (fun b hb he => by have := r7.ge b hb; omega)
          have hV5 := r8.turn ht5 (fun b hb he => by have := r8.ge b hb; omega)
          have htt5 := r9.step ht5 (fun j hj => Or.inl hj)
          have hs5 : w2.heap.size ≤ w5.heap.size := Nat.le_trans hsd ht5.size
          have hP5 := hr5 k _ HP.out
          have hUV : ∀ b, U.ownBlock = some b → V.ownBlock ≠ some b := fun b hb => by
            obtain ⟨xs, hx⟩ := hU5
            exact own_apart hx hV5 (by decide) hb
          have hVge := hV5.ge
          clear r1 r2 r3 r4 r5 r6 r7 r8 r9 r10 y1 y2 d8
          go_wp2_with (at_builtin; refine wpList_appendX rfl _ _ rfl w2.heap.size pb V (lostL ga gi now pa (ks.take j)) qp qc k (gi k) hgi rfl hV5 rfl hP5 hs5 (by omega) ?_; intro v6 w6 hV6 hb6 ht6)
          have hC6 := hC5.turn ht6 (fun e => by have := hVge _ e; omega)
          have hM6 := hM5.turn ht6 (fun e => by have := hVge _ e; omega)
          have hA6 := hA5.turn ht6 (fun e => by have := hVge _ e; omega)
          have hO6 := hO5.turn ht6 (fun b hb e => by have := hVge _ e; simp [Value.ownBlock] at hb; omega)
          have hK6 := hK5.turn ht6 (fun b hb e => by have := hVge _ e; have := hklt b hb; omega)
          have hr6 : (∀ k2 p, ga k2 = some p → PR w6 pb (.slice p.2.2.1 p.2.2.2.1 p.2.2.2.2) k2 (gi k2)) := fun k p hp => (hr5 k p hp).turn ht6 (fun b hb e => by have := hVge _ e; have := hprC k p hp b hb; omega)
          have hU6 := hU5.turn ht6 (fun b hb e => hUV b hb e)
          have htt6 := htt5.step ht6 (fun b hb => Or.inr (by have := hVge b hb; omega))
          have hs6 := Nat.le_trans hs5 ht6.size
          rw [HSN.out (g := fun y => if y = k then none else stepG ga now pa (ks.take j) y) (fun y => by by_cases e : y = k <;> simp [e, ht])] at hA6
          rw [← hL] at hV6
          rw [show wt - ((lostL ga gi now pa (ks.take j)).length : Int) - ((gi k).length : Nat) = wt - ((lostL ga gi now pa (ks.take (j + 1))).length : Int) by omega] at hC6
          clear hC5 hM5 hA5 hO5 hK5 hr5 hU5 hV5 htt5
          go_wp2
          go_roundw
          case rel => exact ⟨j + 1, nA, _, _, rfl, rfl, by omega, by omega, by simp, hC6, hM6, hA6, hO6, hK6, hr6, hU6, hV6, hs6, htt6⟩
          case measure => simp [intOf]; omega
        | false =>
          have ht : tickG ga now pa k = some (now, true, qp, (gi k).length, qc) := by unfold tickG; rw [HP.out]; simp [hpat]
          have hlo : lostB ga now pa k = false := by unfold lostB; rw [HP.out]; simp [hpat]
          have hL : lostL ga gi now pa (ks.take (j + 1)) = lostL ga gi now pa (ks.take j) := by rw [HLS.out, hlo]; simp
          have hal2 : al2.length ≤ 5000 := vm_keys r3.2 hv2 (fun y hy => hkeys y (by
            by_cases e : y ∈ ks.take j
            · exact (hkm y).1 (List.mem_of_mem_take e)
            · unfold stepG at hy; rw [if_neg e] at hy; simpa using hy))
          obtain ⟨W3, hr3, hV7, ht7⟩ := VM.put (w := wd.drew) (t := 62) (e := 78) (k := k) r3 Try.underlying62 (by omega) hwk (.agg #[.int .i64 now, .bool true, .slice qp (gi k).length qc])
          replace ht7 := ht7.undrew
          have hC7 := r1.turn ht7 hCA
          have hM7 := r2.turn ht7 hMA
          have hO7 := r4.turn ht7 (fun b hb he => by simp [Value.ownBlock] at hb; omega)
          have hK7 := r5.turn ht7 (fun b hb he => by have := hkge b hb; omega)
          have hr7 : (∀ k2 p, ga k2 = some p → PR W3 pb (.slice p.2.2.1 p.2.2.2.1 p.2.2.2.2) k2 (gi k2)) := fun k p hp => (r6 k p hp).turn ht7 (fun b hb he => by have := hprC k p hp b hb; omega)
          have hU7 := r7.turn ht7 (fun b hb he => by have := r7.ge b hb; omega)
          have hX7 := r8.turn ht7 (fun b hb he => by have := r8.ge b hb; omega)
          have htt7 := r9.step ht7 (fun j hj => Or.inl (Or.inl hj))
          have hs7 : w2.heap.size ≤ W3.heap.size := Nat.le_trans hsd ht7.size
          have hA7 : AM W3 A (stepG ga now pa (ks.take (j + 1))) := by
            refine ⟨_, hV7, fun y => ?_⟩
            rw [vlk_put hV7.2 r3.2, ← HSN.out (g := fun y => if y = k then some (now, true, qp, (gi k).length, qc) else stepG ga now pa (ks.take j) y) (fun y => by by_cases e : y = k <;> simp [e, ht])]
            by_cases e : y = k
            · simp [e, av]
            · simp [e, hv2 y]
          rw [← hL] at hC7 hX7
          clear hV7 r1 r2 r3 r4 r5 r6 r7 r8 r9 r10
          go_upto_region 7 with fail
          go_region
          go_wp2_with fail
          refine (question_t C M A g c mac ag pa ro wa now _ base x k W3 hC7 hO7 (hmay k hk0 hk5)).mono ?_
          rintro e w8 ⟨rfl, hb8⟩
          have hC8 := hC7.later hb8
          have hM8 := hM7.later hb8
          have hO8 := hO7.later hb8
          have hK8 := hK7.later hb8
          have hr8 : (∀ k2 p, ga k2 = some p → PR w8 pb (.slice p.2.2.1 p.2.2.2.1 p.2.2.2.2) k2 (gi k2)) := fun k p hp => (hr7 k p hp).later hb8
          have hU8 := hU7.later hb8
          have hX8 := hX7.later hb8
          have hA8 := hA7.later hb8
          have htt8 := htt7.later hb8
          have hs8 := Nat.le_trans hs7 hb8.size
          have hUV : ∀ b, V.ownBlock = some b → U.ownBlock ≠ some b := fun b hb => by
            obtain ⟨xs, hx⟩ := hU8
            exact own_apart hX8 hx (by decide) hb
          have hUge := hU8.ge
          clear hC7 hM7 hO7 hK7 hr7 hU7 hX7 hA7 htt7
          go_wp2_with (at_builtin; refine wpList_append5 rfl _ _ rfl w2.heap.size U nA 1 mac x 0 k rfl hU8 rfl hs8 (by omega) ?_; intro v6 w6 hU6 hb6 ht6)
          have hC6 := hC8.turn ht6 (fun e => by have := hUge _ e; omega)
          have hM6 := hM8.turn ht6 (fun e => by have := hUge _ e; omega)
          have hA6 := hA8.turn ht6 (fun e => by have := hUge _ e; omega)
          have hO6 := hO8.turn ht6 (fun b hb e => by have := hUge _ e; simp [Value.ownBlock] at hb; omega)
          have hK6 := hK8.turn ht6 (fun b hb e => by have := hUge _ e; have := hklt b hb; omega)
          have hr6 : (∀ k2 p, ga k2 = some p → PR w6 pb (.slice p.2.2.1 p.2.2.2.1 p.2.2.2.2) k2 (gi k2)) := fun k p hp => (hr8 k p hp).turn ht6 (fun b hb e => by have := hUge _ e; have := hprC k p hp b hb; omega)
          have hV6 := hX8.turn ht6 (fun b hb e => hUV b hb e)
          have htt6 := htt8.step ht6 (fun b hb => Or.inr (by have := hUge b hb; omega))
          have hs6 := Nat.le_trans hs8 ht6.size
          clear hC8 hM8 hO8 hK8 hr8 hU8 hX8 hA8 htt8
          go_wp2
          go_roundw
          case rel => exact ⟨j + 1, nA + 1, _, _, rfl, rfl, by omega, by omega, by simp, hC6, hM6, hA6, hO6, hK6, hr6, hU6, hV6, hs6, htt6⟩
          case measure => simp [intOf]; omega
    · have hje : j = ks.length := by omega
      subst hje
      rw [List.take_length] at *
      have hAe : AM wr A (fun k => tickG ga now pa k) := by
        obtain ⟨al2, h1, h2⟩ := hAr
        refine ⟨al2, h1, fun k => ?_⟩
        rw [h2 k]
        unfold stepG
        by_cases e : k ∈ ks
        · rw [if_pos e]
        · rw [if_neg e]
          cases hg : ga k with
          | none => simp [tickG, hg]
          | some p => exact absurd ((hkm k).2 (by rw [hg]; rfl)) e
      have hVe := hVx.low (show w.heap.size ≤ w2.heap.size by omega)
      go_wp2
      go_ret3
      exact ⟨_, _, ks, rfl, hks, hkm, hCr, hMr, hAe, hOr, hVe, httr⟩
end Go.Proofs.Ytjldcillackhdaa
