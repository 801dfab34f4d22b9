/- slices.Insert of parts where there is no room. -/
import Derived.Test.YtkclookpdngkoaaDQn
namespace Go.Proofs.Ytkclookpdngkoaa.S
open Go.RowKit Go.Maps Go.Lib
set_option maxRecDepth 100000
set_option linter.unusedVariables false
set_option linter.unusedSimpArgs false

theorem bel_setRow {B g : Nat} {w0 w : World} (hb : Below B w0 w) (hBg : B ≤ g) (cs : Array Value) : Below B w0 (w.setRow g cs) :=
  ⟨hb.os, hb.tape, hb.output, by rw [setRow_size]; exact hb.size, fun k hk => by rw [setRow_other _ g k _ (by omega)]; exact hb.block k hk⟩
set_option maxHeartbeats 4000000 in
theorem insert_grow (ps : List Pt) (p : Pt) (w : World) (g c : Nat) (R : Bk) (vb i : Nat) (cur : Array Value) (hb : w.heap[g]? = some (.cells cur 58 (0, 0))) (hsz : cur.size = c * 2) (htk : cur.toList.take (ps.length * 2) = flatP ps) (hV : w.heap[vb]? = some (.cells #[.int .i64 (p.1 : Int), .int .i64 (p.2 : Int)] 58 (0, 0))) (hn : ps.length < 100000) (hi : i < ps.length) (hlc : ps.length ≤ c) (hroom : c < ps.length + 1) (hR : UpR R w) :
    Calls Try.prog 46 #[.slice (some ⟨g, 0, none⟩) ps.length c, .int .i64 (i : Int), .slice (some ⟨vb, 0, none⟩) 1 1] w fun e w' => ∃ v', e = .returned v' ∧ PO w' R v' (insL ps i p) ∧ Below w.heap.size w w' ∧ v'.ownBlock = some w.heap.size := by
  have mixed : Try.prog.follows .mixedOrders = true := by kernel_rfl
  obtain ⟨i0, hi0, hz0, hzs, hzb⟩ := info_parts infoK
  obtain ⟨n, hnn⟩ : ∃ n, n = ps.length := ⟨_, rfl⟩
  have hgw : g < w.heap.size := (Array.getElem?_eq_some_iff.1 hb).1
  have hvw : vb < w.heap.size := (Array.getElem?_eq_some_iff.1 hV).1
  have hdl : (flatP (ps.drop i)).length = (n - i) * 2 := by rw [flatP_len, List.length_drop, hnn]
  have hal : (flatP (ps.take i)).length = i * 2 := by rw [flatP_len, List.length_take]; omega
  have hA : ∀ j u, (flatP (ps.take i))[j]? = some u → w.cell? ⟨g, j, none⟩ = some u := fun j u hu => by
    have hj : j < i * 2 := by rw [← hal]; exact (List.getElem?_eq_some_iff.1 hu).1
    have h2 : (flatP ps)[j]? = some u := by
      rw [← List.take_append_drop i ps, flatP_app, List.getElem?_append_left (by rw [hal]; exact hj)]
      exact hu
    rw [← htk, List.getElem?_take_of_lt (by omega)] at h2
    simp [World.cell?, hb]
    simpa using h2
  have hB : ∀ j u, (flatP (ps.drop i))[j]? = some u → w.cell? ⟨g, i * 2 + j, none⟩ = some u := fun j u hu => by
    have hj : j < (n - i) * 2 := by rw [← hdl]; exact (List.getElem?_eq_some_iff.1 hu).1
    have h2 : (flatP ps)[i * 2 + j]? = some u := by
      rw [← List.take_append_drop i ps, flatP_app, List.getElem?_append_right (by rw [hal]; omega), hal, show i * 2 + j - i * 2 = j by omega]
      exact hu
    rw [← htk, List.getElem?_take_of_lt (by omega)] at h2
    simp [World.cell?, hb]
    simpa using h2
  have hL : ∀ j u, (enP p)[j]? = some u → w.cell? ⟨vb, j, none⟩ = some u := fun j u hu => by
    simp [World.cell?, hV]
    simpa [enP] using hu
  rw [← hnn] at hn hi hlc hroom ⊢
  have hold : (Builtin.firstCells i0.size i (.slice (some ⟨g, 0, none⟩) i c)).run Try.prog w.drew = .ok (flatP (ps.take i)).toArray w.drew := by
    rw [hzs]
    exact run_firstCells_some w.drew 2 i ⟨g, 0, none⟩ i c (flatP (ps.take i)) hal (fun j v hj => by rw [Addr.add_lit, Nat.zero_add]; exact hA j v hj)
  have hkk : (n : Int) + 1 - (i : Int) = ((n + 1 - i : Nat) : Int) := by omega
  have hik : i + (n + 1 - i) = n + 1 := by omega
  obtain ⟨G, hG⟩ : ∃ G, G = grownCap w (n + 1) c 58 := ⟨_, rfl⟩
  have hGn : n + 1 ≤ G := by rw [hG]; exact grownCap_ge w _ _ _
  have hGm : G ≤ maxLen := by rw [hG]; exact grownCap_le_maxLen w (n + 1) c 58 (by unfold maxLen; omega)
  obtain ⟨Z, hZ⟩ : ∃ Z : Array Value, Z = (.agg #[.int .i64 0, .int .i64 0] : Value).cells := ⟨_, rfl⟩
  have hZ10 : Z.size = 2 := by rw [hZ]; rfl
  obtain ⟨ROW, hROW⟩ : ∃ ROW : Array Value, ROW = (flatP (ps.take i)).toArray ++ Builtin.zeroCells Z (n + 1 - i) ++ Builtin.zeroCells Z (G - (n + 1)) := ⟨_, rfl⟩
  have hrz : ∀ ty, (Builtin.append_ #[51, 3] ty #[.slice (some ⟨g, 0, none⟩) i c, .int .i64 ((n : Int) + 1 - (i : Int))]).run Try.prog w = .ok (.slice (some ⟨w.heap.size, 0, none⟩) (n + 1) G) (w.drew.alloc (.cells ROW 58)) := fun ty => by
    have h := Lib.run_append_grow_zeros w 51 3 ty 58 i0 _ .i64 .i64 Try.underlying51 Try.underlying3 hi0 hz0 (some ⟨g, 0, none⟩) i c (flatP (ps.take i)) hold (n + 1 - i) (by omega) (by omega) (by omega) (by omega) (by rw [hzb]; omega) (by rw [hzb, hik]; exact growslice_fits hroom (by omega))
    rw [hik, ← hG, ← hZ, ← hROW] at h
    rw [hkk]
    exact h
  have zc : ∀ k, (Builtin.zeroCells Z k).size = k * 2 := fun k => by simp [Builtin.zeroCells, hZ10]
  have hRs : ROW.size = G * 2 := by
    rw [hROW, Array.size_append, Array.size_append, zc, zc, List.size_toArray, hal]
    omega
  have hRt : ROW.toList.take (i * 2) = flatP (ps.take i) := by
    rw [hROW, Array.toList_append, Array.toList_append, List.append_assoc]
    exact List.take_left' hal
  obtain ⟨W1, hW1⟩ : ∃ W1, W1 = w.drew.alloc (.cells ROW 58) := ⟨_, rfl⟩
  have hb1 : W1.heap[w.heap.size]? = some (.cells ROW 58 (0, 0)) := by rw [hW1]; exact heap_alloc_new w.drew _
  have hOb : ∀ b j v, b < w.heap.size → w.cell? ⟨b, j, none⟩ = some v → W1.cell? ⟨b, j, none⟩ = some v := fun b j v hlt h => by rw [hW1, World.cell?_alloc_past (w := w.drew) _ b j hlt]; exact h
  obtain ⟨C1, hC1⟩ : ∃ C1 : Array Value, C1 = (ROW.toList.take (i * 2) ++ (enP p) ++ ROW.toList.drop (i * 2 + (enP p).length)).toArray := ⟨_, rfl⟩
  have hC1s : C1.size = G * 2 := by rw [hC1]; simp [enP_len, hRs]; omega
  have hcpA : ∀ (W : World), (∀ k, W.heap[k]? = W1.heap[k]?) → (∀ x, W.cell? x = W1.cell? x) → ∀ ty dc, (Builtin.copy_ #[51, 51] ty #[.slice (some ⟨w.heap.size, i * 2, none⟩) (n + 1 - i) dc, .slice (some ⟨vb, 0, none⟩) 1 1]).run Try.prog W = .ok (goInt 1) (W.setRow w.heap.size C1) := fun W hWh hWc ty dc => by
    rw [hC1]
    exact run_copy_rowk W 51 51 ty 58 2 w.heap.size (i * 2) (n + 1 - i) dc ⟨vb, 0, none⟩ 1 1 1 ROW 58 (enP p) Try.underlying51 infoK2 ((hWh _).trans hb1) (by simp only [Nat.min_def]; split <;> omega) rfl
      (fun j u hu => by rw [Addr.add_lit, Nat.zero_add, hWc]; exact hOb _ _ _ hvw (hL j u hu)) (by rw [enP_len, hRs]; omega) (oneL p)
  obtain ⟨C2, hC2⟩ : ∃ C2 : Array Value, C2 = (C1.toList.take ((i + 1) * 2) ++ flatP (ps.drop i) ++ C1.toList.drop ((i + 1) * 2 + (flatP (ps.drop i)).length)).toArray := ⟨_, rfl⟩
  have hC2s : C2.size = G * 2 := by rw [hC2]; simp [hdl, hC1s]; omega
  have hcpB : ∀ (W : World), W.heap[w.heap.size]? = some (.cells C1 58 (0, 0)) → (∀ b j v, b < w.heap.size → w.cell? ⟨b, j, none⟩ = some v → W.cell? ⟨b, j, none⟩ = some v) → ∀ ty dc sc, (Builtin.copy_ #[51, 51] ty #[.slice (some ⟨w.heap.size, (i + 1) * 2, none⟩) (n - i) dc, .slice (some ⟨g, i * 2, none⟩) (n - i) sc]).run Try.prog W = .ok (goInt ((n - i : Nat) : Int)) (W.setRow w.heap.size C2) := fun W hWh hWc ty dc sc => by
    rw [hC2]
    exact run_copy_rowk W 51 51 ty 58 2 w.heap.size ((i + 1) * 2) (n - i) dc ⟨g, i * 2, none⟩ (n - i) sc (n - i) C1 58 (flatP (ps.drop i)) Try.underlying51 infoK2 hWh (by simp only [Nat.min_def]; split <;> omega) hdl
      (fun j u hu => by rw [Addr.add_lit]; exact hWc _ _ _ hgw (hB j u hu)) (by rw [hdl, hC1s]; omega) (oneF _)
  have hC2t : C2.toList.take ((n + 1) * 2) = flatP (insL ps i p) := by
    have e1 : C1.toList.take ((i + 1) * 2) = flatP (ps.take i) ++ (enP p) := by
      rw [hC1, hRt]
      simp only [List.toList_toArray]
      exact List.take_left' (by rw [List.length_append, hal, enP_len]; omega)
    rw [hC2, e1]
    simp only [List.toList_toArray]
    unfold insL
    rw [flatP_app, flatP_cons, ← List.append_assoc]
    exact List.take_left' (by rw [List.length_append, List.length_append, hal, enP_len, hdl]; omega)
  have hins : (insL ps i p).length = n + 1 := by unfold insL; rw [List.length_append, List.length_cons, List.length_take, List.length_drop]; omega
  have fin : ∀ W : World, W.heap[w.heap.size]? = some (.cells C2 58 (0, 0)) → PO W R (.slice (some ⟨w.heap.size, 0, none⟩) (n + 1) G) (insL ps i p) := fun W hW => by
    unfold PO
    show OwnP _ R 58 2 _ _ (flatP _)
    rw [hins]
    exact ⟨by rw [flatP_len, hins], Or.inr ⟨w.heap.size, G, C2, rfl, hR _ (Nat.le_refl _), hW, hGn, hGm, hC2s, hC2t⟩⟩
  have HF : Hid (∀ W : World, W.heap[w.heap.size]? = some (.cells C2 58 (0, 0)) → PO W R (.slice (some ⟨w.heap.size, 0, none⟩) (n + 1) G) (insL ps i p)) := fin
  rw [← hW1] at hrz
  have HW : Hid (W1 = w.drew.alloc (.cells ROW 58)) := hW1
  have HB1 : Hid (W1.heap[w.heap.size]? = some (.cells ROW 58 (0, 0))) := hb1
  have HOB : Hid (∀ b j v, b < w.heap.size → w.cell? ⟨b, j, none⟩ = some v → W1.cell? ⟨b, j, none⟩ = some v) := hOb
  have hG63 : G ≤ 9223372036854775807 := by unfold maxLen at hGm; omega
  clear hG fin hC2t hC2s hC2 hC1s hC1 hRt hRs hROW zc hZ10 hZ hGm hold hA hB hL hdl hal hV hb htk hsz hnn hi0 hz0 hzs hzb hik hkk hins hW1 hb1 hOb
  have hz2 : ¬ ((i : Int) = (n : Int)) := by omega
  have hz3 : (c : Int) < (n : Int) + 1 := by omega
  have hin : i ≤ n := by omega
  have hw1 : IntKind.i64.wrap ((i : Int) + 1) = (i : Int) + 1 := by rw [IntKind.wrap_i64]; omega
  have hb1 : (0 : Int) ≤ (i : Int) + 1 := by omega
  have htn : ((i : Int) + 1).toNat = i + 1 := by omega
  have hGi : ¬ (G = i) := by omega
  have hGim : ¬ (G = i + 1) := by omega
  have hci : ¬ (c = i) := by omega
  have hb3 : (i : Int) ≤ (n : Int) := by omega
  have hc63 : c ≤ 9223372036854775807 := by omega
  go_enter Try.func46, Try.ntmps46
  go_wp2_with (first
    | (at_builtin; refine Lib.wpList_append_run _ rfl _ _ _ _ rfl _ _ rfl rfl _ _ (hrz _) ?_)
    | (at_builtin; refine wpList_copy_runI _ rfl _ _ 51 51 rfl _ _ rfl rfl (hcpA _ (fun _ => rfl) (fun _ => rfl) _ _) ?_))
  have q1 : (W1.setRow w.heap.size C1).heap[w.heap.size]? = some (.cells C1 58 (0, 0)) := setRow_heap W1 w.heap.size ROW C1 58 (0, 0) HB1.out
  have q2 : ∀ b j v, b < w.heap.size → w.cell? ⟨b, j, none⟩ = some v → ((W1.setRow w.heap.size C1).drew).cell? ⟨b, j, none⟩ = some v := fun b j v hlt h => by
    show (W1.setRow w.heap.size C1).cell? ⟨b, j, none⟩ = some v
    rw [cell_setRow_other _ _ _ _ (by show b ≠ w.heap.size; omega)]
    exact HOB.out b j v hlt h
  have hcpB' := hcpB ((W1.setRow w.heap.size C1).drew) q1 q2
  clear q2 hcpB hcpA hrz
  go_region_law_o (refine step_copy_runI rfl _ _ 51 51 rfl _ _ (by simp [Act.eval, Act.put]) (by simp [Act.eval, Act.put]) (hcpB' _ _ _) ?_)
  go_wp2
  go_ret
  refine ⟨_, rfl, HF.out _ (setRow_heap _ w.heap.size C1 C2 58 (0, 0) q1), ?_, rfl⟩
  refine bel_setRow (w := (W1.setRow w.heap.size C1).drew) ?_ (Nat.le_refl _) C2
  have b1 : Below w.heap.size w W1 := by rw [HW.out]; exact bel_undrew (bel1 w.drew (.cells ROW 58))
  exact (bel_setRow b1 (Nat.le_refl _) C1).drew
end Go.Proofs.Ytkclookpdngkoaa.S
