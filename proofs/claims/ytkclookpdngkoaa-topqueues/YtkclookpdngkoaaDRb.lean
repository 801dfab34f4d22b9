/- slices.Replace of parts by one. -/
import Derived.Test.YtkclookpdngkoaaDRa
namespace Go.Proofs.Ytkclookpdngkoaa.S
open Go.RowKit Go.Maps Go.Lib
set_option maxRecDepth 100000
set_option linter.unusedVariables false
set_option linter.unusedSimpArgs false


def repL (ps : List Pt) (i j : Nat) (p : Pt) : List Pt := ps.take i ++ p :: ps.drop j
theorem repL_len {ps : List Pt} {i j : Nat} (p : Pt) (h1 : i ≤ j) (h2 : j ≤ ps.length) : (repL ps i j p).length = i + 1 + (ps.length - j) := by unfold repL; rw [List.length_append, List.length_cons, List.length_take, List.length_drop]; omega
theorem zeroP (w : World) : (zeroValue 58).run Try.prog w = .ok (.agg #[.int .i64 0, .int .i64 0]) w := by kernel_rfl
theorem zoneP : ∀ u ∈ (Value.agg #[.int .i64 0, .int .i64 0]).cells, u.oneCell' = true := by
  intro u hu
  simp [Value.cells] at hu
  rcases hu with rfl | rfl <;> rfl
set_option maxHeartbeats 2000000 in
theorem rep_same (ps : List Pt) (p : Pt) (w : World) (v : Value) (R : Bk) (vb i : Nat) (hr : PO w R v ps) (hV : w.heap[vb]? = some (.cells #[.int .i64 (p.1 : Int), .int .i64 (p.2 : Int)] 58 (0, 0))) (hne : ∀ k, v.ownBlock = some k → k ≠ vb) (hR : UpR R w) (hn : ps.length < 100000) (hi : i ≤ ps.length) :
    Calls Try.prog 40 #[v, .int .i64 (i : Int), .int .i64 (i : Int), .slice (some ⟨vb, 0, none⟩) 1 1] w fun e w' => ∃ v', e = .returned v' ∧ PO w' R v' (repL ps i i p) ∧ Turn (fun k => v.ownBlock = some k) w w' := by
  have hc := insert_any ps p w v R vb i hr hV hne hR hn hi
  obtain ⟨a, c, rfl, h0, hcl, -⟩ := hr.shape
  clear hr hV hne
  have hic : (i : Int) ≤ (c : Int) := by omega
  have hic2 : i ≤ c := by omega
  generalize ps.length = n at *
  clear h0
  go_enter Try.func40, Try.ntmps40
  go_upto_region 2 with fail
  generalize Value.slice (if c = i then a else Option.map (fun x => x.add (i * 2)) a) 0 (c - i) = vx
  go_wp2_with fail
  refine hc.mono ?_
  rintro e w' ⟨v', rfl, h1, h2⟩
  go_wp2
  go_ret
  exact ⟨v', rfl, h1, h2⟩

theorem clear_tail (W : World) (g c n tot : Nat) (cur : Array Value) (ty : TypeId) (hb : W.heap[g]? = some (.cells cur 58 (0, 0))) (hsz : cur.size = c * 2) (h1 : tot ≤ n) (h2 : n ≤ c) :
    ∃ cur3 : Array Value, cur3.size = c * 2 ∧ cur3.toList.take (tot * 2) = cur.toList.take (tot * 2) ∧ (Builtin.clear_ #[51] ty #[.slice (if c = tot then some (⟨g, 0, none⟩ : Addr) else some ⟨g, tot * 2, none⟩) (n - tot) (c - tot)]).run Try.prog W = .ok (.tuple #[]) (W.setRow g cur3) := by
  by_cases hc : c = tot
  · rw [if_pos hc]
    obtain ⟨zs, hzl, hr⟩ := run_clear_rowk (P := Try.prog) W 51 58 ty _ 2 Try.underlying51 zeroP rfl zoneP g 0 (n - tot) (c - tot) cur 58 hb (by omega)
    have e0 : n - tot = 0 := by omega
    rw [e0, Nat.zero_mul] at hzl hr
    obtain rfl := List.length_eq_zero_iff.1 hzl
    refine ⟨cur, hsz, rfl, ?_⟩
    rw [e0, hr]
    simp
  · rw [if_neg hc]
    obtain ⟨zs, hzl, hr⟩ := run_clear_rowk (P := Try.prog) W 51 58 ty _ 2 Try.underlying51 zeroP rfl zoneP g (tot * 2) (n - tot) (c - tot) cur 58 hb (by omega)
    refine ⟨_, ?_, ?_, hr⟩
    · simp [hzl, hsz]; omega
    · have hl : (cur.toList.take (tot * 2)).length = tot * 2 := by rw [List.length_take, Array.length_toList]; omega
      show List.take _ (cur.toList.take (tot * 2) ++ _ ++ _) = _
      rw [List.append_assoc, List.take_append_of_le_length (by rw [hl]; exact Nat.le_refl _), List.take_take, Nat.min_self]
set_option maxHeartbeats 4000000 in
theorem rep_end (ps : List Pt) (p : Pt) (w : World) (g c : Nat) (R : Bk) (vb i : Nat) (hr : PO w R (.slice (some ⟨g, 0, none⟩) ps.length c) ps) (hV : w.heap[vb]? = some (.cells #[.int .i64 (p.1 : Int), .int .i64 (p.2 : Int)] 58 (0, 0))) (hn : ps.length < 100000) (hi : i < ps.length) :
    Calls Try.prog 40 #[.slice (some ⟨g, 0, none⟩) ps.length c, .int .i64 (i : Int), .int .i64 (ps.length : Int), .slice (some ⟨vb, 0, none⟩) 1 1] w fun e w' => ∃ v', e = .returned v' ∧ PO w' R v' (repL ps i ps.length p) ∧ Turn (fun k => k = g) w w' := by
  obtain ⟨g', c', cur, hv, hg, hb, h1, h2, h3, h4⟩ := hr.real (fun e => by rw [e] at hi; cases hi)
  cases hv
  obtain ⟨i0, hi0, hz0, hz1, hz2⟩ := info_parts infoP
  have hcell : ∀ j u, (enP p)[j]? = some u → w.cell? ((⟨vb, 0, none⟩ : Addr).add j) = some u := fun j u hu => by
    rw [Addr.add_lit, Nat.zero_add]
    simp [World.cell?, hV]
    simpa [enP] using hu
  have hrun := run_append_room (P := Try.prog) w 51 51 58 i0 Try.underlying51 hi0 g i c cur hb ⟨vb, 0, none⟩ 1 1 (enP p) (by rw [hz1]; rfl) hcell (oneL p) (by omega) (by rw [hz1, h3, enP_len]; omega)
  rw [hz1] at hrun
  obtain ⟨C1, hC1⟩ : ∃ C1 : Array Value, C1 = (cur.toList.take (i * 2) ++ enP p ++ cur.toList.drop (i * 2 + (enP p).length)).toArray := ⟨_, rfl⟩
  rw [← hC1] at hrun
  have hC1s : C1.size = c * 2 := by rw [hC1]; simp [enP_len, h3]; omega
  have hb1 := setRow_heap w g cur C1 58 (0, 0) hb
  obtain ⟨C2, hC2s, hC2t, hclr⟩ := clear_tail (w.setRow g C1) g c ps.length (i + 1) C1 0 hb1 hC1s (by omega) h1
  have hfl : (repL ps i ps.length p).flatMap enP = (ps.flatMap enP).take (i * 2) ++ enP p := by
    unfold repL
    rw [List.drop_length, List.flatMap_append, flat_take]
    simp
  have hlen : (repL ps i ps.length p).length = i + 1 := by rw [repL_len p (by omega) (Nat.le_refl _)]; omega
  have hcl : (cur.toList.take (i * 2)).length = i * 2 := by rw [List.length_take, Array.length_toList]; omega
  have hC1t : C1.toList.take ((i + 1) * 2) = (repL ps i ps.length p).flatMap enP := by
    rw [hfl, hC1]
    show List.take _ (cur.toList.take (i * 2) ++ enP p ++ _) = _
    rw [List.take_append_of_le_length (by rw [List.length_append, hcl, enP_len]; omega), List.take_of_length_le (by rw [List.length_append, hcl, enP_len]; omega)]
    have h4' : cur.toList.take (ps.length * 2) = ps.flatMap enP := h4
    rw [← h4', List.take_take, Nat.min_eq_left (by omega)]
  have hPO : ∀ (W : World) (C : Array Value), W.heap[g]? = some (.cells C 58 (0, 0)) → C.size = c * 2 → C.toList.take ((i + 1) * 2) = (repL ps i ps.length p).flatMap enP → PO W R (.slice (some ⟨g, 0, none⟩) (i + 1) c) (repL ps i ps.length p) := fun W C k1 k2 k3 => ⟨by rw [flat_len], Or.inr ⟨g, c, C, by rw [hlen], hg, k1, by rw [hlen]; omega, h2, k2, by rw [hlen]; exact k3⟩⟩
  have HF1 : Hid (PO (w.setRow g C1) R (.slice (some ⟨g, 0, none⟩) (i + 1) c) (repL ps i ps.length p) ∧ Turn (fun k => k = g) w (w.setRow g C1)) := ⟨hPO _ C1 hb1 hC1s hC1t, turn_setRow _ _ _⟩
  have HF2 : Hid (PO ((w.setRow g C1).setRow g C2) R (.slice (some ⟨g, 0, none⟩) (i + 1) c) (repL ps i ps.length p) ∧ Turn (fun k => k = g) w ((w.setRow g C1).setRow g C2)) := ⟨hPO _ C2 (setRow_heap _ g C1 C2 58 (0, 0) hb1) hC2s (hC2t.trans hC1t), (turn_setRow _ _ _).trans (turn_setRow _ _ _)⟩
  have hmax : c ≤ 9223372036854775807 := h2
  clear hPO hC1t hfl hlen hcl hC2t hC2s hC1s hb1 hC1 hcell hb hV hr h4 h3
  generalize ps.length = n at *
  have z1 : (i : Int) < (n : Int) := by omega
  have z2 : (n : Int) ≤ (c : Int) := by omega
  have z3 : ((i : Int) == (n : Int)) = false := by rw [beq_eq_false_iff_ne]; omega
  have z4 : (i : Int) ≤ (n : Int) := by omega
  have z5 : (i : Int) ≤ (c : Int) := by omega
  have z6 : i ≤ n := by omega
  have z7 : i ≤ c := by omega
  by_cases hq : i + 1 < n
  · have hq1 : (i : Int) + 1 < (n : Int) := by omega
    have hq2 : ¬ c = i + 1 := by omega
    have hq3 : i + 1 ≤ n := by omega
    rw [if_neg hq2] at hclr
    go_enter Try.func40, Try.ntmps40
    go_wp2_with (first
      | (at_builtin; refine wpList_append_eq rfl _ _ rfl rfl rfl hrun ?_)
      | (at_builtin; refine wpList_clear_eq rfl _ rfl rfl hclr ?_)
      | go_in)
    go_ret
    exact ⟨_, rfl, HF2.out.1, HF2.out.2⟩
  · have hq1 : ¬ (i : Int) + 1 < (n : Int) := by omega
    clear hclr
    go_enter Try.func40, Try.ntmps40
    go_wp2_with (first
      | (at_builtin; refine wpList_append_eq rfl _ _ rfl rfl rfl hrun ?_)
      | go_in)
    go_ret
    exact ⟨_, rfl, HF1.out.1, HF1.out.2⟩

set_option maxHeartbeats 4000000 in
theorem rep_mid (ps : List Pt) (p : Pt) (w : World) (g c : Nat) (R : Bk) (vb i j : Nat) (hr : PO w R (.slice (some ⟨g, 0, none⟩) ps.length c) ps) (hV : w.heap[vb]? = some (.cells #[.int .i64 (p.1 : Int), .int .i64 (p.2 : Int)] 58 (0, 0))) (hvg : vb ≠ g) (hn : ps.length < 100000) (hi : i < j) (hj : j < ps.length) :
    Calls Try.prog 40 #[.slice (some ⟨g, 0, none⟩) ps.length c, .int .i64 (i : Int), .int .i64 (j : Int), .slice (some ⟨vb, 0, none⟩) 1 1] w fun e w' => ∃ v', e = .returned v' ∧ PO w' R v' (repL ps i j p) ∧ Turn (fun k => k = g) w w' := by
  obtain ⟨g', c', cur, hv, hg, hb, h1, h2, h3, h4⟩ := hr.real (fun e => by rw [e] at hj; cases hj)
  cases hv
  have h4' : cur.toList.take (ps.length * 2) = ps.flatMap enP := h4
  obtain ⟨tot, htot⟩ : ∃ t, t = i + 1 + (ps.length - j) := ⟨_, rfl⟩
  -- the first copy
  obtain ⟨C1, hC1⟩ : ∃ C1 : Array Value, C1 = (cur.toList.take (i * 2) ++ enP p ++ cur.toList.drop (i * 2 + (enP p).length)).toArray := ⟨_, rfl⟩
  have hC1s : C1.size = c * 2 := by rw [hC1]; simp [enP_len, h3]; omega
  have hcp1 : ∀ (W : World) ty dc, W.heap[g]? = some (.cells cur 58 (0, 0)) → W.heap[vb]? = some (.cells #[.int .i64 (p.1 : Int), .int .i64 (p.2 : Int)] 58 (0, 0)) → (Builtin.copy_ #[51, 51] ty #[.slice (some ⟨g, i * 2, none⟩) (tot - i) dc, .slice (some ⟨vb, 0, none⟩) 1 1]).run Try.prog W = .ok (goInt 1) (W.setRow g C1) := fun W ty dc k1 k2 => by
    rw [hC1]
    exact run_copy_rowk W 51 51 ty 58 2 g (i * 2) (tot - i) dc ⟨vb, 0, none⟩ 1 1 1 cur 58 (enP p) Try.underlying51 infoK2 k1 (by simp only [Nat.min_def]; split <;> omega) rfl
      (fun j u hu => by
        rw [Addr.add_lit, Nat.zero_add]
        simp [World.cell?, k2]
        simpa [enP] using hu)
      (by rw [enP_len, h3]; omega) (oneL p)
  -- the second copy
  have hdl : ((ps.drop j).flatMap enP).length = (ps.length - j) * 2 := by rw [flat_len, List.length_drop]
  obtain ⟨C2, hC2⟩ : ∃ C2 : Array Value, C2 = (C1.toList.take ((i + 1) * 2) ++ (ps.drop j).flatMap enP ++ C1.toList.drop ((i + 1) * 2 + ((ps.drop j).flatMap enP).length)).toArray := ⟨_, rfl⟩
  have hC2s : C2.size = c * 2 := by rw [hC2]; simp [hdl, hC1s]; omega
  have hC1d : ∀ k, (i + 1) * 2 ≤ k → C1.toList[k]? = cur.toList[k]? := by
    intro k hk
    rw [hC1]
    have hl : (cur.toList.take (i * 2)).length = i * 2 := by rw [List.length_take, Array.length_toList]; omega
    show (cur.toList.take (i * 2) ++ enP p ++ _)[k]? = _
    rw [List.getElem?_append_right (by rw [List.length_append, hl, enP_len]; omega), List.length_append, hl, enP_len, List.getElem?_drop, show i * 2 + 2 + (k - (i * 2 + 2)) = k by omega]
  have hcp2 : ∀ (W : World) ty dc sc, W.heap[g]? = some (.cells C1 58 (0, 0)) → (Builtin.copy_ #[51, 51] ty #[.slice (some ⟨g, (i + 1) * 2, none⟩) (tot - (i + 1)) dc, .slice (some ⟨g, j * 2, none⟩) (ps.length - j) sc]).run Try.prog W = .ok (goInt ((ps.length - j : Nat) : Int)) (W.setRow g C2) := fun W ty dc sc k1 => by
    rw [hC2]
    exact run_copy_rowk W 51 51 ty 58 2 g ((i + 1) * 2) (tot - (i + 1)) dc ⟨g, j * 2, none⟩ (ps.length - j) sc (ps.length - j) C1 58 ((ps.drop j).flatMap enP) Try.underlying51 infoK2 k1 (by simp only [Nat.min_def]; split <;> omega) hdl
      (fun t u hu => by
        rw [Addr.add_lit]
        have ht : t < (ps.length - j) * 2 := by rw [← hdl]; exact (List.getElem?_eq_some_iff.1 hu).1
        rw [← flat_drop, List.getElem?_drop, ← h4', List.getElem?_take_of_lt (by omega), ← hC1d _ (by omega)] at hu
        simp [World.cell?, k1]
        simpa using hu)
      (by rw [hdl, hC1s]; omega) (flat_one _)
  have hC2t : C2.toList.take (tot * 2) = (repL ps i j p).flatMap enP := by
    have e1 : (repL ps i j p).flatMap enP = (ps.flatMap enP).take (i * 2) ++ enP p ++ (ps.drop j).flatMap enP := by
      unfold repL
      rw [List.flatMap_append, flat_take, List.flatMap_cons, List.append_assoc]
    have hl : (cur.toList.take (i * 2)).length = i * 2 := by rw [List.length_take, Array.length_toList]; omega
    have e2 : C1.toList.take ((i + 1) * 2) = (ps.flatMap enP).take (i * 2) ++ enP p := by
      rw [hC1]
      show List.take _ (cur.toList.take (i * 2) ++ enP p ++ _) = _
      rw [List.take_append_of_le_length (by rw [List.length_append, hl, enP_len]; omega), List.take_of_length_le (by rw [List.length_append, hl, enP_len]; omega), ← h4', List.take_take, Nat.min_eq_left (by omega)]
    rw [e1, ← e2, hC2]
    show List.take _ (C1.toList.take ((i + 1) * 2) ++ _ ++ _) = _
    have hl2 : (C1.toList.take ((i + 1) * 2)).length = (i + 1) * 2 := by rw [List.length_take, Array.length_toList]; omega
    rw [List.take_append_of_le_length (by rw [List.length_append, hl2, hdl]; omega), List.take_of_length_le (by rw [List.length_append, hl2, hdl]; omega)]
  have hlen : (repL ps i j p).length = tot := by rw [repL_len p (by omega) (by omega), htot]
  have hfin : ∀ (W : World) (C : Array Value), W.heap[g]? = some (.cells C 58 (0, 0)) → C.size = c * 2 → C.toList.take (tot * 2) = (repL ps i j p).flatMap enP → PO W R (.slice (some ⟨g, 0, none⟩) tot c) (repL ps i j p) := fun W C k1 k2 k3 => ⟨by rw [flat_len], Or.inr ⟨g, c, C, by rw [hlen], hg, k1, by rw [hlen]; omega, h2, k2, by rw [hlen]; exact k3⟩⟩
  have hmax : c ≤ 9223372036854775807 := h2
  have z0 : tot ≤ ps.length := by omega
  have zi : i < tot := by omega
  have HTOT : Hid (tot = i + 1 + (ps.length - j)) := htot
  have hclr := fun (W : World) (hW : W.heap[g]? = some (.cells C2 58 (0, 0))) => clear_tail W g c ps.length tot C2 0 hW hC2s (by omega) h1
  have hV' := hV
  have hb' := hb
  clear hlen hC1d hC2 hC1 hdl hr h4 h4' hC1s hC2s h3 htot
  generalize ps.length = n at *
  have htI : (i : Int) + 1 + ((n - j : Nat) : Int) = (tot : Int) := by have := HTOT.out; omega
  have z1 : (i : Int) < (n : Int) := by omega
  have z2 : (n : Int) ≤ (c : Int) := by omega
  have z3 : ((i : Int) == (j : Int)) = false := by rw [beq_eq_false_iff_ne]; omega
  have z3b : ((j : Int) == (n : Int)) = false := by rw [beq_eq_false_iff_ne]; omega
  have z4 : (i : Int) ≤ (j : Int) := by omega
  have z5 : (j : Int) ≤ (c : Int) := by omega
  have z6 : i ≤ j := by omega
  have z7 : i ≤ c := by omega
  have z8 : j ≤ c := by omega
  have z9 : j ≤ n := by omega
  have zA : ¬ c = j := by omega
  have zB : ¬ c = i := by omega
  have zC : (i : Int) + 1 ≤ (j : Int) := by omega
  go_enter Try.func40, Try.ntmps40
  have zD : ¬ (c : Int) < (tot : Int) := by have := z0; omega
  have zE : (tot : Int) ≤ (c : Int) := by omega
  have zF : tot ≤ c := by omega
  have zG : i ≤ tot := by omega
  have zH : (i : Int) ≤ (tot : Int) := by omega
  have zJ : i + 1 ≤ tot := by omega
  have zK : ¬ c = i + 1 := by omega
  have zL : (i : Int) + 1 ≤ (tot : Int) := by omega
  have zM : (0 : Int) ≤ (i : Int) + 1 := by omega
  have zN : ((i : Int) + 1).toNat = i + 1 := by omega
  have zO : (tot : Int) ≤ (n : Int) := by omega
  have zP : (0 : Int) ≤ (i : Int) := by omega
  have wr1 : IntKind.i64.wrap ((i : Int) + 1) = (i : Int) + 1 := by rw [IntKind.wrap_i64] <;> omega
  have wr2 : IntKind.i64.wrap ((i : Int) + 1 + ((n - j : Nat) : Int)) = (i : Int) + 1 + ((n - j : Nat) : Int) := by rw [IntKind.wrap_i64] <;> omega
  have zQ : (j : Int) ≤ (n : Int) := by omega
  have HTI : Hid ((i : Int) + 1 + ((n - j : Nat) : Int) = (tot : Int)) := htI
  clear htI
  go_upto_region 9 with fail
  refine wp_region_held_drew (S := (fun _ => True)) (by kernel_rfl) ?_ (fun hHeld => ?_)
  · first | exact trivial | assumption
  refine wpAnyH_take (i := 0) (oi := ({ dst := some 45, op := Go.Op.move (Go.Operand.tmp 0), type := 51, pos := "slices.go:276", after := #[], guard := none } : Go.Oper)) (v := .slice (some ⟨g, 0, none⟩) n c) rfl (by kernel_rfl) (by kernel_rfl) (by kernel_rfl) (fun _ _ _ h => h) (Or.inl ⟨by rfl, ?_⟩) (by assumption) ?_
  · intro wx hSw
    try dsimp only at hSw
    go_simp
    try with_reducible rfl
  try simp only [Act.put, List.setIfInBounds_toArray, List.set_cons_zero, List.set_cons_succ]
  refine wpAnyH_take (i := 1) (oi := ({ dst := some 46, op := Go.Op.move (Go.Operand.tmp 1), type := 3, pos := "slices.go:276", after := #[], guard := none } : Go.Oper)) (v := .int .i64 (i : Int)) rfl (by kernel_rfl) (by kernel_rfl) (by kernel_rfl) (fun _ _ _ h => h) (Or.inl ⟨by rfl, ?_⟩) (by assumption) ?_
  · intro wx hSw
    try dsimp only at hSw
    go_simp
    try with_reducible rfl
  try simp only [Act.put, List.setIfInBounds_toArray, List.set_cons_zero, List.set_cons_succ]
  refine wpAnyH_take (i := 2) (oi := ({ dst := some 47, op := Go.Op.slice 51 (Go.Operand.tmp 45) none (some (Go.Operand.tmp 46)) none, type := 51, pos := "slices.go:276", after := #[{ on := 0, ground := Go.Ground.data }, { on := 1, ground := Go.Ground.data }], guard := none } : Go.Oper)) (v := .slice (some ⟨g, 0, none⟩) i c) rfl (by kernel_rfl) (by kernel_rfl) (by kernel_rfl) (fun _ _ _ h => h) (Or.inl ⟨by rfl, ?_⟩) (by assumption) ?_
  · intro wx hSw
    try dsimp only at hSw
    go_simp
    try with_reducible rfl
  try simp only [Act.put, List.setIfInBounds_toArray, List.set_cons_zero, List.set_cons_succ]
  refine wpAnyH_take (i := 3) (oi := ({ dst := some 48, op := Go.Op.call { callee := Go.Callee.builtin Go.Builtin.len, args := #[Go.Operand.tmp 47], argTypes := #[51] }, type := 3, pos := "slices.go:276", after := #[{ on := 2, ground := Go.Ground.data }], guard := none } : Go.Oper)) (v := .int .i64 (i : Int)) rfl (by kernel_rfl) (by kernel_rfl) (by kernel_rfl) (fun _ _ _ h => h) (Or.inl ⟨by rfl, ?_⟩) (by assumption) ?_
  · intro wx hSw
    try dsimp only at hSw
    go_simp
    try with_reducible rfl
  try simp only [Act.put, List.setIfInBounds_toArray, List.set_cons_zero, List.set_cons_succ]
  refine wpAnyH_take (i := 4) (oi := ({ dst := some 49, op := Go.Op.move (Go.Operand.tmp 3), type := 51, pos := "slices.go:276", after := #[], guard := none } : Go.Oper)) (v := .slice (some ⟨vb, 0, none⟩) 1 1) rfl (by kernel_rfl) (by kernel_rfl) (by kernel_rfl) (fun _ _ _ h => h) (Or.inl ⟨by rfl, ?_⟩) (by assumption) ?_
  · intro wx hSw
    try dsimp only at hSw
    go_simp
    try with_reducible rfl
  try simp only [Act.put, List.setIfInBounds_toArray, List.set_cons_zero, List.set_cons_succ]
  refine wpAnyH_take (i := 5) (oi := ({ dst := some 50, op := Go.Op.call { callee := Go.Callee.builtin Go.Builtin.len, args := #[Go.Operand.tmp 49], argTypes := #[51] }, type := 3, pos := "slices.go:276", after := #[{ on := 4, ground := Go.Ground.data }], guard := none } : Go.Oper)) (v := .int .i64 1) rfl (by kernel_rfl) (by kernel_rfl) (by kernel_rfl) (fun _ _ _ h => h) (Or.inl ⟨by rfl, ?_⟩) (by assumption) ?_
  · intro wx hSw
    try dsimp only at hSw
    go_simp
    try with_reducible rfl
  try simp only [Act.put, List.setIfInBounds_toArray, List.set_cons_zero, List.set_cons_succ]
  refine wpAnyH_take (i := 6) (oi := ({ dst := some 51, op := Go.Op.binOp Go.BinOp.add 3 (Go.Operand.tmp 48) (Go.Operand.tmp 50) 3, type := 3, pos := "slices.go:276", after := #[{ on := 3, ground := Go.Ground.data }, { on := 5, ground := Go.Ground.data }], guard := none } : Go.Oper)) (v := .int .i64 ((i : Int) + 1)) rfl (by kernel_rfl) (by kernel_rfl) (by kernel_rfl) (fun _ _ _ h => h) (Or.inl ⟨by rfl, ?_⟩) (by assumption) ?_
  · intro wx hSw
    try dsimp only at hSw
    go_simp
    try with_reducible rfl
  try simp only [Act.put, List.setIfInBounds_toArray, List.set_cons_zero, List.set_cons_succ]
  refine wpAnyH_take (i := 7) (oi := ({ dst := some 52, op := Go.Op.move (Go.Operand.tmp 0), type := 51, pos := "slices.go:276", after := #[], guard := none } : Go.Oper)) (v := .slice (some ⟨g, 0, none⟩) n c) rfl (by kernel_rfl) (by kernel_rfl) (by kernel_rfl) (fun _ _ _ h => h) (Or.inl ⟨by rfl, ?_⟩) (by assumption) ?_
  · intro wx hSw
    try dsimp only at hSw
    go_simp
    try with_reducible rfl
  try simp only [Act.put, List.setIfInBounds_toArray, List.set_cons_zero, List.set_cons_succ]
  refine wpAnyH_take (i := 8) (oi := ({ dst := some 53, op := Go.Op.move (Go.Operand.tmp 2), type := 3, pos := "slices.go:276", after := #[], guard := none } : Go.Oper)) (v := .int .i64 (j : Int)) rfl (by kernel_rfl) (by kernel_rfl) (by kernel_rfl) (fun _ _ _ h => h) (Or.inl ⟨by rfl, ?_⟩) (by assumption) ?_
  · intro wx hSw
    try dsimp only at hSw
    go_simp
    try with_reducible rfl
  try simp only [Act.put, List.setIfInBounds_toArray, List.set_cons_zero, List.set_cons_succ]
  refine wpAnyH_take (i := 9) (oi := ({ dst := some 54, op := Go.Op.slice 51 (Go.Operand.tmp 52) (some (Go.Operand.tmp 53)) none none, type := 51, pos := "slices.go:276", after := #[{ on := 7, ground := Go.Ground.data }, { on := 8, ground := Go.Ground.data }], guard := none } : Go.Oper)) (v := .slice (some ⟨g, j * 2, none⟩) (n - j) (c - j)) rfl (by kernel_rfl) (by kernel_rfl) (by kernel_rfl) (fun _ _ _ h => h) (Or.inl ⟨by rfl, ?_⟩) (by assumption) ?_
  · intro wx hSw
    try dsimp only at hSw
    go_simp
    try with_reducible rfl
  try simp only [Act.put, List.setIfInBounds_toArray, List.set_cons_zero, List.set_cons_succ]
  refine wpAnyH_take (i := 10) (oi := ({ dst := some 55, op := Go.Op.call { callee := Go.Callee.builtin Go.Builtin.len, args := #[Go.Operand.tmp 54], argTypes := #[51] }, type := 3, pos := "slices.go:276", after := #[{ on := 9, ground := Go.Ground.data }], guard := none } : Go.Oper)) (v := .int .i64 ((n - j : Nat) : Int)) rfl (by kernel_rfl) (by kernel_rfl) (by kernel_rfl) (fun _ _ _ h => h) (Or.inl ⟨by rfl, ?_⟩) (by assumption) ?_
  · intro wx hSw
    try dsimp only at hSw
    go_simp
    try with_reducible rfl
  try simp only [Act.put, List.setIfInBounds_toArray, List.set_cons_zero, List.set_cons_succ]
  refine wpAnyH_take (i := 11) (oi := ({ dst := some 56, op := Go.Op.binOp Go.BinOp.add 3 (Go.Operand.tmp 51) (Go.Operand.tmp 55) 3, type := 3, pos := "slices.go:276", after := #[{ on := 6, ground := Go.Ground.data }, { on := 10, ground := Go.Ground.data }], guard := none } : Go.Oper)) (v := .int .i64 ((i : Int) + 1 + ((n - j : Nat) : Int))) rfl (by kernel_rfl) (by kernel_rfl) (by kernel_rfl) (fun _ _ _ h => h) (Or.inl ⟨by rfl, ?_⟩) (by assumption) ?_
  · intro wx hSw
    try dsimp only at hSw
    go_simp
    try with_reducible rfl
  try simp only [Act.put, List.setIfInBounds_toArray, List.set_cons_zero, List.set_cons_succ]
  refine wpAnyH_take (i := 12) (oi := ({ dst := some 10, op := Go.Op.assign (Go.Operand.tmp 56), type := 3, pos := "slices.go:276", after := #[{ on := 11, ground := Go.Ground.data }, { on := 0, ground := Go.Ground.phase }, { on := 1, ground := Go.Ground.phase }, { on := 2, ground := Go.Ground.phase }, { on := 3, ground := Go.Ground.phase }, { on := 4, ground := Go.Ground.phase }, { on := 5, ground := Go.Ground.phase }, { on := 6, ground := Go.Ground.phase }, { on := 7, ground := Go.Ground.phase }, { on := 8, ground := Go.Ground.phase }, { on := 9, ground := Go.Ground.phase }, { on := 10, ground := Go.Ground.phase }, { on := 11, ground := Go.Ground.phase }], guard := none } : Go.Oper)) (v := .int .i64 ((i : Int) + 1 + ((n - j : Nat) : Int))) rfl (by kernel_rfl) (by kernel_rfl) (by kernel_rfl) (fun _ _ _ h => h) (Or.inl ⟨by rfl, ?_⟩) (by assumption) ?_
  · intro wx hSw
    try dsimp only at hSw
    go_simp
    try with_reducible rfl
  try simp only [Act.put, List.setIfInBounds_toArray, List.set_cons_zero, List.set_cons_succ]
  refine wpAnyH_done (by kernel_rfl) ?_ _
  rw [HTI.out]
  clear wr2
  have hcpA := hcp1 w.drew 3 (c - i) hb' hV'
  go_upto_region 18 with (first
    | (at_builtin; refine wpList_copy_runI _ rfl _ _ 51 51 rfl _ _ rfl rfl hcpA ?_)
    | fail)
  have hb1 := setRow_heap w.drew g cur C1 58 (0, 0) hb'
  have ht1 := (turn_setRow w.drew g C1).undrew
  clear hcpA hcp1
  generalize w.drew.setRow g C1 = W1 at *
  have hcpB := hcp2 W1.drew 3 (c - (i + 1)) (c - j) hb1
  have hb2 := setRow_heap W1.drew g C1 C2 58 (0, 0) hb1
  have ht2 := (turn_setRow W1.drew g C2).undrew
  obtain ⟨C3, hC3s, hC3t, hcl3⟩ := hclr (W1.drew.setRow g C2) hb2
  have HFIN : Hid (PO ((W1.drew.setRow g C2).setRow g C3) R (.slice (some ⟨g, 0, none⟩) tot c) (repL ps i j p) ∧ Turn (fun k => k = g) w ((W1.drew.setRow g C2).setRow g C3)) := ⟨hfin _ C3 (setRow_heap _ g C2 C3 58 (0, 0) hb2) hC3s (hC3t.trans hC2t), (ht1.trans ht2).trans (turn_setRow _ _ _)⟩
  clear hclr hcp2 hb2 ht1 ht2 hC3s hC3t hfin hC2t hb1 hb' hV' hb hV
  refine wp_region_held_drew (S := (fun _ => True)) (by kernel_rfl) ?_ (fun hHeld => ?_)
  · first | exact trivial | assumption
  refine wpAnyH_take (i := 0) (oi := ({ dst := some 98, op := Go.Op.move (Go.Operand.tmp 12), type := 51, pos := "slices.go:290", after := #[], guard := none } : Go.Oper)) (v := .slice (some ⟨g, 0, none⟩) tot c) rfl (by kernel_rfl) (by kernel_rfl) (by kernel_rfl) (fun _ _ _ h => h) (Or.inl ⟨by rfl, ?_⟩) (by assumption) ?_
  · intro wx hSw
    try dsimp only at hSw
    go_simp
    try with_reducible rfl
  try simp only [Act.put, List.setIfInBounds_toArray, List.set_cons_zero, List.set_cons_succ]
  refine wpAnyH_take (i := 1) (oi := ({ dst := some 99, op := Go.Op.move (Go.Operand.tmp 1), type := 3, pos := "slices.go:290", after := #[], guard := none } : Go.Oper)) (v := .int .i64 (i : Int)) rfl (by kernel_rfl) (by kernel_rfl) (by kernel_rfl) (fun _ _ _ h => h) (Or.inl ⟨by rfl, ?_⟩) (by assumption) ?_
  · intro wx hSw
    try dsimp only at hSw
    go_simp
    try with_reducible rfl
  try simp only [Act.put, List.setIfInBounds_toArray, List.set_cons_zero, List.set_cons_succ]
  refine wpAnyH_take (i := 2) (oi := ({ dst := some 100, op := Go.Op.move (Go.Operand.tmp 3), type := 51, pos := "slices.go:290", after := #[], guard := none } : Go.Oper)) (v := .slice (some ⟨vb, 0, none⟩) 1 1) rfl (by kernel_rfl) (by kernel_rfl) (by kernel_rfl) (fun _ _ _ h => h) (Or.inl ⟨by rfl, ?_⟩) (by assumption) ?_
  · intro wx hSw
    try dsimp only at hSw
    go_simp
    try with_reducible rfl
  try simp only [Act.put, List.setIfInBounds_toArray, List.set_cons_zero, List.set_cons_succ]
  refine wpAnyH_take (i := 3) (oi := ({ dst := some 101, op := Go.Op.call { callee := Go.Callee.builtin Go.Builtin.len, args := #[Go.Operand.tmp 100], argTypes := #[51] }, type := 3, pos := "slices.go:290", after := #[{ on := 2, ground := Go.Ground.data }], guard := none } : Go.Oper)) (v := .int .i64 1) rfl (by kernel_rfl) (by kernel_rfl) (by kernel_rfl) (fun _ _ _ h => h) (Or.inl ⟨by rfl, ?_⟩) (by assumption) ?_
  · intro wx hSw
    try dsimp only at hSw
    go_simp
    try with_reducible rfl
  try simp only [Act.put, List.setIfInBounds_toArray, List.set_cons_zero, List.set_cons_succ]
  refine wpAnyH_take (i := 4) (oi := ({ dst := some 102, op := Go.Op.binOp Go.BinOp.add 3 (Go.Operand.tmp 99) (Go.Operand.tmp 101) 3, type := 3, pos := "slices.go:290", after := #[{ on := 1, ground := Go.Ground.data }, { on := 3, ground := Go.Ground.data }], guard := none } : Go.Oper)) (v := .int .i64 ((i : Int) + 1)) rfl (by kernel_rfl) (by kernel_rfl) (by kernel_rfl) (fun _ _ _ h => h) (Or.inl ⟨by rfl, ?_⟩) (by assumption) ?_
  · intro wx hSw
    try dsimp only at hSw
    go_simp
    try with_reducible rfl
  try simp only [Act.put, List.setIfInBounds_toArray, List.set_cons_zero, List.set_cons_succ]
  refine wpAnyH_take (i := 5) (oi := ({ dst := some 103, op := Go.Op.slice 51 (Go.Operand.tmp 98) (some (Go.Operand.tmp 102)) none none, type := 51, pos := "slices.go:290", after := #[{ on := 0, ground := Go.Ground.data }, { on := 4, ground := Go.Ground.data }], guard := none } : Go.Oper)) (v := .slice (some ⟨g, (i + 1) * 2, none⟩) (tot - (i + 1)) (c - (i + 1))) rfl (by kernel_rfl) (by kernel_rfl) (by kernel_rfl) (fun _ _ _ h => h) (Or.inl ⟨by rfl, ?_⟩) (by assumption) ?_
  · intro wx hSw
    try dsimp only at hSw
    go_simp
    try with_reducible rfl
  try simp only [Act.put, List.setIfInBounds_toArray, List.set_cons_zero, List.set_cons_succ]
  refine wpAnyH_take (i := 6) (oi := ({ dst := some 104, op := Go.Op.move (Go.Operand.tmp 0), type := 51, pos := "slices.go:290", after := #[], guard := none } : Go.Oper)) (v := .slice (some ⟨g, 0, none⟩) n c) rfl (by kernel_rfl) (by kernel_rfl) (by kernel_rfl) (fun _ _ _ h => h) (Or.inl ⟨by rfl, ?_⟩) (by assumption) ?_
  · intro wx hSw
    try dsimp only at hSw
    go_simp
    try with_reducible rfl
  try simp only [Act.put, List.setIfInBounds_toArray, List.set_cons_zero, List.set_cons_succ]
  refine wpAnyH_take (i := 7) (oi := ({ dst := some 105, op := Go.Op.move (Go.Operand.tmp 2), type := 3, pos := "slices.go:290", after := #[], guard := none } : Go.Oper)) (v := .int .i64 (j : Int)) rfl (by kernel_rfl) (by kernel_rfl) (by kernel_rfl) (fun _ _ _ h => h) (Or.inl ⟨by rfl, ?_⟩) (by assumption) ?_
  · intro wx hSw
    try dsimp only at hSw
    go_simp
    try with_reducible rfl
  try simp only [Act.put, List.setIfInBounds_toArray, List.set_cons_zero, List.set_cons_succ]
  refine wpAnyH_take (i := 8) (oi := ({ dst := some 106, op := Go.Op.slice 51 (Go.Operand.tmp 104) (some (Go.Operand.tmp 105)) none none, type := 51, pos := "slices.go:290", after := #[{ on := 6, ground := Go.Ground.data }, { on := 7, ground := Go.Ground.data }], guard := none } : Go.Oper)) (v := .slice (some ⟨g, j * 2, none⟩) (n - j) (c - j)) rfl (by kernel_rfl) (by kernel_rfl) (by kernel_rfl) (fun _ _ _ h => h) (Or.inl ⟨by rfl, ?_⟩) (by assumption) ?_
  · intro wx hSw
    try dsimp only at hSw
    go_simp
    try with_reducible rfl
  try simp only [Act.put, List.setIfInBounds_toArray, List.set_cons_zero, List.set_cons_succ]
  refine wpAnyH_ready (rs := [9]) (by kernel_rfl) (by simp) ?_
  refine AllReadyH.cons (o := ({ dst := some 107, op := Go.Op.call { callee := Go.Callee.builtin Go.Builtin.copy, args := #[Go.Operand.tmp 103, Go.Operand.tmp 106], argTypes := #[51, 51] }, type := 3, pos := "slices.go:290", after := #[{ on := 5, ground := Go.Ground.data }, { on := 8, ground := Go.Ground.data }], guard := none } : Go.Oper)) rfl (fun K hK => ?_) AllReadyH.nil
  refine step_copy_runI rfl _ _ 51 51 rfl _ _ (by rfl) (by rfl) hcpB ?_
  refine hK.out _ _ trivial (fun hHeld => ?_)
  clear hK K
  try simp only [Act.put, List.setIfInBounds_toArray, List.set_cons_zero, List.set_cons_succ]
  refine wpAnyH_done (by kernel_rfl) ?_ _
  have zR : tot ≤ n := z0
  by_cases hct : c = tot
  · subst hct
    rw [if_pos rfl, Nat.sub_self, show n - c = 0 by omega] at hcl3
    go_wp2_with (first
      | (at_builtin; refine wpList_clear_eq rfl _ rfl rfl hcl3 ?_)
      | go_in)
    go_ret
    exact ⟨_, rfl, HFIN.out.1, HFIN.out.2⟩
  · rw [if_neg hct] at hcl3
    go_wp2_with (first
      | (at_builtin; refine wpList_clear_eq rfl _ rfl rfl hcl3 ?_)
      | go_in)
    go_ret
    exact ⟨_, rfl, HFIN.out.1, HFIN.out.2⟩
theorem rep_any (ps : List Pt) (p : Pt) (w : World) (v : Value) (R : Bk) (vb i j : Nat) (hr : PO w R v ps) (hV : w.heap[vb]? = some (.cells #[.int .i64 (p.1 : Int), .int .i64 (p.2 : Int)] 58 (0, 0))) (hne : ∀ k, v.ownBlock = some k → k ≠ vb) (hR : UpR R w) (hn : ps.length < 100000) (hi : i ≤ j) (hj : j ≤ ps.length) :
    Calls Try.prog 40 #[v, .int .i64 (i : Int), .int .i64 (j : Int), .slice (some ⟨vb, 0, none⟩) 1 1] w fun e w' => ∃ v', e = .returned v' ∧ PO w' R v' (repL ps i j p) ∧ Turn (fun k => v.ownBlock = some k) w w' := by
  rcases Nat.lt_or_ge i j with hlt | hge
  · obtain ⟨g, c, cur, rfl, -⟩ := hr.real (fun e => by rw [e] at hj; simp at hj; omega)
    rcases Nat.lt_or_ge j ps.length with hjl | hjg
    · refine (rep_mid ps p w g c R vb i j hr hV (fun e => hne g rfl e.symm) hn hlt hjl).mono ?_
      rintro e w' ⟨v', rfl, h1, h2⟩
      exact ⟨v', rfl, h1, h2.mono (fun k hk => by rw [hk]; rfl)⟩
    · obtain rfl : j = ps.length := by omega
      refine (rep_end ps p w g c R vb i hr hV hn hlt).mono ?_
      rintro e w' ⟨v', rfl, h1, h2⟩
      exact ⟨v', rfl, h1, h2.mono (fun k hk => by rw [hk]; rfl)⟩
  · obtain rfl : i = j := by omega
    exact rep_same ps p w v R vb i hr hV hne hR hn hj
end Go.Proofs.Ytkclookpdngkoaa.S
