/- slices.Insert of parts. -/
import Derived.Test.YtkclookpdngkoaaDQg
import Derived.Shelf.Spec.SlicesInsert
import Derived.Lib.AppendZerosOnto
import Derived.Maps.AppendAt
import Derived.Lib.Overlaps
namespace Go.Proofs.Ytkclookpdngkoaa.S
open Go.RowKit Go.Maps Go.Lib
set_option maxRecDepth 100000
set_option linter.unusedVariables false
set_option linter.unusedSimpArgs false

theorem run_copy_rowk {P : Program} (w : World) (dT sT ty elem : TypeId) (k g o dLen dCap : Nat) (a : Addr) (sLen sCap n : Nat) (cur : Array Value) (t : TypeId) (cs : List Value)
    (hu : P.underlying dT = some (.slice elem)) (hs : (P.info? elem).map (·.size) = some k)
    (hg : w.heap[g]? = some (.cells cur t (0, 0))) (hn : Nat.min sLen dLen = n) (hcl : cs.length = n * k)
    (hsrc : ∀ j v, cs[j]? = some v → w.cell? (a.add j) = some v) (hfit : o + cs.length ≤ cur.size) (h1 : ∀ v ∈ cs, v.oneCell' = true) :
    (Builtin.copy_ #[dT, sT] ty #[.slice (some ⟨g, o, none⟩) dLen dCap, .slice (some a) sLen sCap]).run P w =
      .ok (goInt n) (w.setRow g (cur.toList.take o ++ cs ++ cur.toList.drop (o + cs.length)).toArray) := by
  have hl := run_loadCells_list (P := P) w a cs hsrc
  have hst := run_storeCells_at P g o t cs 0 cur w hg (by simpa using hfit) h1
  cases hq : P.info? elem with
  | none => simp [hq] at hs
  | some i =>
    have hi : i.size = k := by simpa [hq] using hs
    rw [hcl] at hl
    simp [Builtin.copy_, run_underlying hu, Builtin.lenOf, Builtin.firstCells, sizeOf, typeInfo, hq, hi, hn, hl, hst]
theorem infoK : (Try.prog.info? 58).map (fun i => (i.zero, i.size, i.bytes)) = some (some (.agg #[.int .i64 0, .int .i64 0]), 2, 16) := infoP
theorem infoK2 : (Try.prog.info? 58).map (·.size) = some 2 := by kernel_rfl
theorem sizeK (w : World) : (Go.sizeOf 58).run Try.prog w = .ok 2 w := by kernel_rfl
def flatP (ps : List Pt) : List Value := ps.flatMap enP
theorem flatP_len (ps : List Pt) : (flatP ps).length = ps.length * 2 := flat_len ps
theorem enP_len (p : Pt) : (enP p).length = 2 := rfl
def insL (ps : List Pt) (i : Nat) (p : Pt) : List Pt := ps.take i ++ p :: ps.drop i
theorem flatP_app (a b : List Pt) : flatP (a ++ b) = flatP a ++ flatP b := by simp [flatP]
theorem flatP_cons (p : Pt) (b : List Pt) : flatP (p :: b) = (enP p) ++ flatP b := rfl
theorem oneL (p : Pt) : ∀ u ∈ (enP p), u.oneCell' = true := by intro u hu; simp [enP] at hu; rcases hu with rfl | rfl <;> rfl
theorem oneF (ps : List Pt) : ∀ u ∈ flatP ps, u.oneCell' = true := fun u hu => by
  unfold flatP at hu
  obtain ⟨p, -, h⟩ := List.mem_flatMap.1 hu
  exact oneL p u h
theorem mid_list (X A B C L : List Value) (hX : X = A ++ B ++ C) (hL : L.length = 2) (hC : 2 ≤ C.length) :
    ((X.take (A.length + 2) ++ B ++ X.drop (A.length + 2 + B.length)).take A.length ++ L ++ (X.take (A.length + 2) ++ B ++ X.drop (A.length + 2 + B.length)).drop (A.length + L.length)) = A ++ L ++ B ++ C.drop 2 := by
  subst hX
  have h1 : (A ++ B ++ C).take (A.length + 2) = A ++ (B ++ C).take 2 := by rw [List.append_assoc, List.take_append, List.take_of_length_le (by omega), show A.length + 2 - A.length = 2 by omega]
  have h2 : (A ++ B ++ C).drop (A.length + 2 + B.length) = C.drop 2 := by rw [List.drop_append, List.drop_eq_nil_of_le (by rw [List.length_append]; omega), List.nil_append]; first | rfl | (congr 1; first | done | omega | (simp; done) | (simp; omega))
  have h3 : ((B ++ C).take 2).length = 2 := by rw [List.length_take, List.length_append]; omega
  have h4 : ∀ D : List Value, (A ++ (B ++ C).take 2 ++ D).take A.length = A := fun D => by rw [List.append_assoc]; exact List.take_left
  have h5 : ∀ D : List Value, (A ++ (B ++ C).take 2 ++ D).drop (A.length + 2) = D := fun D => List.drop_left' (by rw [List.length_append, h3])
  rw [h1, h2, hL, List.append_assoc (A ++ List.take 2 (B ++ C)), h4, h5]
  simp
set_option maxHeartbeats 4000000 in
theorem insert_end (ps : List Pt) (p : Pt) (w : World) (v : Value) (R : Bk) (vb : Nat) (hr : PO w R v ps) (hV : w.heap[vb]? = some (.cells #[.int .i64 (p.1 : Int), .int .i64 (p.2 : Int)] 58 (0, 0))) (hR : UpR R w) (hn : ps.length < 100000) :
    Calls Try.prog 46 #[v, .int .i64 (ps.length : Int), .slice (some ⟨vb, 0, none⟩) 1 1] w fun e w' => ∃ v', e = .returned v' ∧ PO w' R v' (ps ++ [p]) ∧ Turn (fun k => v.ownBlock = some k) w w' ∧ (v'.ownBlock = v.ownBlock ∨ v'.ownBlock = some w.heap.size) := by
  obtain ⟨i0, hi, hz0, hz1, hz2⟩ := info_parts infoK
  have HI : Hid (Try.prog.info? 58 = some i0) := hi
  have HZ : Hid (i0.zero = some (.agg #[.int .i64 0, .int .i64 0]) ∧ i0.size = 2 ∧ i0.bytes = 16) := ⟨hz0, hz1, hz2⟩
  clear hi hz0 hz1 hz2
  have hcell : ∀ j u, (enP p)[j]? = some u → w.cell? ((⟨vb, 0, none⟩ : Addr).add j) = some u := fun j u hu => by
    rw [Addr.add_lit, Nat.zero_add]
    simp [World.cell?, hV]
    simpa [enP] using hu
  have HC : Hid (∀ j u, (enP p)[j]? = some u → w.cell? ((⟨vb, 0, none⟩ : Addr).add j) = some u) := hcell
  have HR : Hid (PO w R v ps) := hr
  clear hcell hV
  have fin : ∀ v' w', w'.ownsRow 0 58 2 v' (ps.length + 1) (flatP ps ++ (enP p)) → w.grownBy w' v.ownBlock → (v'.ownBlock = v.ownBlock ∨ v'.ownBlock = some w.heap.size) → PO w' R v' (ps ++ [p]) ∧ Turn (fun k => v.ownBlock = some k) w w' := fun v' w' h1 h2 h4 => by
    refine ⟨?_, Turn.of_grown h2 (fun j hj => Or.inl hj)⟩
    unfold PO
    show OwnP _ R 58 2 _ _ (flatP _)
    rw [flatP_app, List.length_append]
    exact OwnP.grow HR.out h1 h4 hR
  obtain ⟨a, c, rfl, -⟩ := hr.shape
  have hnn : ¬ (ps.length : Int) < 0 := by omega
  by_cases hcn : c = ps.length
  · subst hcn
    clear hr
    go_enter Try.func46, Try.ntmps46
    go_wp2_with (at_builtin; refine wpList_append_own_at _ rfl _ _ 51 rfl 0 58 i0 _ 2 16 Try.underlying51 HI.out HZ.out.1 HZ.out.2.1 HZ.out.2.2 rfl (by decide) _ ps.length (flatP ps) rfl HR.out.own ⟨vb, 0, none⟩ 1 1 (enP p) rfl rfl HC.out (oneL p) (by unfold maxLen; omega) (by omega) (Nat.zero_le _) ?_; intro v' w' h1 h2 h3 h4)
    go_ret
    exact ⟨v', rfl, (fin v' w' h1 h2 h4).1, (fin v' w' h1 h2 h4).2, h4⟩
  · clear hr
    have hcn' : ¬ ((c : Int) - (ps.length : Int) = 0) := by omega
    go_enter Try.func46, Try.ntmps46
    go_wp2_with (at_builtin; refine wpList_append_own_at _ rfl _ _ 51 rfl 0 58 i0 _ 2 16 Try.underlying51 HI.out HZ.out.1 HZ.out.2.1 HZ.out.2.2 rfl (by decide) _ ps.length (flatP ps) rfl HR.out.own ⟨vb, 0, none⟩ 1 1 (enP p) rfl rfl HC.out (oneL p) (by unfold maxLen; omega) (by omega) (Nat.zero_le _) ?_; intro v' w' h1 h2 h3 h4)
    go_ret
    exact ⟨v', rfl, (fin v' w' h1 h2 h4).1, (fin v' w' h1 h2 h4).2, h4⟩
set_option maxHeartbeats 4000000 in
theorem insert_room (ps : List Pt) (p : Pt) (w : World) (g c : Nat) (R : Bk) (vb i : Nat) (cur : Array Value) (hb : w.heap[g]? = some (.cells cur 58 (0, 0))) (hsz : cur.size = c * 2) (htk : cur.toList.take (ps.length * 2) = flatP ps) (hcm : c ≤ maxLen) (hV : w.heap[vb]? = some (.cells #[.int .i64 (p.1 : Int), .int .i64 (p.2 : Int)] 58 (0, 0))) (hne : vb ≠ g) (hn : ps.length < 100000) (hi : i < ps.length) (hroom : ps.length + 1 ≤ c) :
    Calls Try.prog 46 #[.slice (some ⟨g, 0, none⟩) ps.length c, .int .i64 (i : Int), .slice (some ⟨vb, 0, none⟩) 1 1] w fun e w' => e = .returned (.slice (some ⟨g, 0, none⟩) (ps.length + 1) c) ∧ ∃ cur' : Array Value, w'.heap[g]? = some (.cells cur' 58 (0, 0)) ∧ cur'.size = c * 2 ∧ cur'.toList.take ((ps.length + 1) * 2) = flatP (insL ps i p) ∧ Turn (fun k => k = g) w w' := by
  have mixed : Try.prog.follows .mixedOrders = true := by kernel_rfl
  obtain ⟨n, hnn⟩ : ∃ n, n = ps.length := ⟨_, rfl⟩
  have hsa : w.shape? vb = some (58, 2) := by simp [World.shape?, hV]
  have hsb : w.shape? g = some (58, c * 2) := by simp [World.shape?, hb, hsz]
  have hov : ∀ lb cb, (callFunc 47 #[.slice (some ⟨vb, 0, none⟩) 1 1, .slice (some ⟨g, (i + 1) * 2, none⟩) lb cb]).run Try.prog w = .ok (.value (.bool false)) w := fun lb cb => by
    rw [run_callFunc_extern Try.func47 (by kernel_rfl) (by kernel_rfl) (by kernel_rfl) (e := Extern.SlicesOverlaps.overlaps #[51, 51] #[4]) (by kernel_rfl),
      Lib.run_overlaps_apart w 51 4 58 Try.underlying51 2 sizeK ⟨vb, 0, none⟩ ⟨g, (i + 1) * 2, none⟩ 1 1 lb cb hne 58 58 2 (c * 2) hsa hsb (by omega) (by simp [World.frozen?, hV]) (by simp [World.frozen?, hV])]
    rfl
  obtain ⟨X, hX⟩ : ∃ X, X = cur.toList := ⟨_, rfl⟩
  have hdl : (flatP (ps.drop i)).length = (n - i) * 2 := by rw [flatP_len, List.length_drop, hnn]
  have hal : (flatP (ps.take i)).length = i * 2 := by rw [flatP_len, List.length_take]; omega
  have hXe : X = flatP (ps.take i) ++ flatP (ps.drop i) ++ X.drop (n * 2) := by
    rw [← flatP_app, List.take_append_drop, ← htk, ← hX, hnn, List.take_append_drop]
  have hXl : X.length = c * 2 := by rw [hX]; simpa using hsz
  obtain ⟨C1, hC1⟩ : ∃ C1 : Array Value, C1 = (cur.toList.take ((i + 1) * 2) ++ flatP (ps.drop i) ++ cur.toList.drop ((i + 1) * 2 + (flatP (ps.drop i)).length)).toArray := ⟨_, rfl⟩
  have hC1l : C1.size = c * 2 := by rw [hC1]; simp [hdl, hsz]; omega
  have hcp1 : ∀ ty dc sc, (Builtin.copy_ #[51, 51] ty #[.slice (some ⟨g, (i + 1) * 2, none⟩) (n - i) dc, .slice (some ⟨g, i * 2, none⟩) (n + 1 - i) sc]).run Try.prog w.drew = .ok (goInt ((n - i : Nat) : Int)) (w.drew.setRow g C1) := fun ty dc sc => by
    rw [hC1]
    exact run_copy_rowk w.drew 51 51 ty 58 2 g ((i + 1) * 2) (n - i) dc ⟨g, i * 2, none⟩ (n + 1 - i) sc (n - i) cur 58 (flatP (ps.drop i)) Try.underlying51 infoK2 hb (by simp only [Nat.min_def]; split <;> omega) hdl
      (fun j u hu => by
        rw [Addr.add_lit]
        have hj : j < (n - i) * 2 := by rw [← hdl]; exact (List.getElem?_eq_some_iff.1 hu).1
        have h2 : (flatP ps)[i * 2 + j]? = some u := by
          rw [← List.take_append_drop i ps, flatP_app, List.getElem?_append_right (by rw [hal]; omega), hal, show i * 2 + j - i * 2 = j by omega]
          exact hu
        rw [← htk, List.getElem?_take_of_lt (by omega)] at h2
        show w.cell? _ = _
        simp [World.cell?, hb]
        simpa using h2)
      (by rw [hdl, hsz]; omega) (oneF _)
  have hb1 : (w.drew.setRow g C1).heap[g]? = some (.cells C1 58 (0, 0)) := setRow_heap w.drew g cur C1 58 (0, 0) hb
  obtain ⟨W1, hW1⟩ : ∃ W1, W1 = w.drew.setRow g C1 := ⟨_, rfl⟩
  rw [← hW1] at hcp1 hb1
  have hV1 : W1.heap[vb]? = some (.cells #[.int .i64 (p.1 : Int), .int .i64 (p.2 : Int)] 58 (0, 0)) := by rw [hW1, setRow_other w.drew g vb C1 hne]; exact hV
  obtain ⟨C2, hC2⟩ : ∃ C2 : Array Value, C2 = (C1.toList.take (i * 2) ++ (enP p) ++ C1.toList.drop (i * 2 + (enP p).length)).toArray := ⟨_, rfl⟩
  have hC2l : C2.size = c * 2 := by rw [hC2]; simp [enP_len, hC1l]; omega
  have hcp2 : ∀ ty dc, (Builtin.copy_ #[51, 51] ty #[.slice (some ⟨g, i * 2, none⟩) (n + 1 - i) dc, .slice (some ⟨vb, 0, none⟩) 1 1]).run Try.prog W1 = .ok (goInt 1) (W1.setRow g C2) := fun ty dc => by
    rw [hC2]
    exact run_copy_rowk W1 51 51 ty 58 2 g (i * 2) (n + 1 - i) dc ⟨vb, 0, none⟩ 1 1 1 C1 58 (enP p) Try.underlying51 infoK2 hb1 (by simp only [Nat.min_def]; split <;> omega) rfl
      (fun j u hu => by
        rw [Addr.add_lit, Nat.zero_add]
        simp [World.cell?, hV1]
        simpa [enP] using hu)
      (by rw [enP_len, hC1l]; omega) (oneL p)
  have hfin : ∃ cur' : Array Value, (W1.setRow g C2).heap[g]? = some (.cells cur' 58 (0, 0)) ∧ cur'.size = c * 2 ∧ cur'.toList.take ((n + 1) * 2) = flatP (insL ps i p) ∧ Turn (fun k => k = g) w (W1.setRow g C2) := by
    refine ⟨C2, setRow_heap W1 g C1 C2 58 (0, 0) hb1, hC2l, ?_, ?_⟩
    · have hm := mid_list X (flatP (ps.take i)) (flatP (ps.drop i)) (X.drop (n * 2)) (enP p) hXe (enP_len p) (by rw [List.length_drop, hXl]; omega)
      have e1 : C2.toList = flatP (ps.take i) ++ (enP p) ++ flatP (ps.drop i) ++ (X.drop (n * 2)).drop 2 := by
        rw [← hm, hC2, hC1, hal, ← hX]
        simp only [List.toList_toArray]
        rw [show (i + 1) * 2 = i * 2 + 2 by omega]
      rw [e1]
      unfold insL
      rw [flatP_app, flatP_cons, ← List.append_assoc]
      exact List.take_left' (by rw [List.length_append, List.length_append, hal, enP_len, hdl]; omega)
    · rw [hW1]
      exact ⟨rfl, rfl, rfl, by simp, fun k hk hs => by rw [setRow_other _ g k _ hs, setRow_other _ g k _ hs]; rfl⟩
  have HF : Hid (∃ cur' : Array Value, (W1.setRow g C2).heap[g]? = some (.cells cur' 58 (0, 0)) ∧ cur'.size = c * 2 ∧ cur'.toList.take ((n + 1) * 2) = flatP (insL ps i p) ∧ Turn (fun k => k = g) w (W1.setRow g C2)) := hfin
  rw [← hnn] at hi hroom hn ⊢
  clear hfin hV1 hb1 hC1 hC2 hC1l hC2l hXe hXl hX hdl hal hsa hsb hV hb htk hsz hW1 hnn
  have hz2 : ¬ ((i : Int) = (n : Int)) := by omega
  have hin : i ≤ n := by omega
  have hw1 : IntKind.i64.wrap ((i : Int) + 1) = (i : Int) + 1 := by rw [IntKind.wrap_i64]; omega
  have hb1 : (0 : Int) ≤ (i : Int) + 1 := by omega
  have htn : ((i : Int) + 1).toNat = i + 1 := by omega
  have hb2 : ¬ (c = i + 1) := by omega
  have hb3 : (i : Int) ≤ (n : Int) + 1 := by omega
  have hb4 : ¬ (c = i) := by omega
  have hc63 : c ≤ 9223372036854775807 := by unfold maxLen at hcm; omega
  go_enter Try.func46, Try.ntmps46
  go_wp2_with (simp only [hov])
  go_region_law_o (refine step_copy_runI rfl _ _ 51 51 rfl _ _ (by simp [Act.eval, Act.put]) (by simp [Act.eval, Act.put]) (hcp1 _ _ _) ?_)
  go_wp2_with (at_builtin; refine wpList_copy_runI _ rfl _ _ 51 51 rfl _ _ rfl rfl (hcp2 _ _) ?_)
  go_ret
  exact ⟨rfl, HF.out⟩
end Go.Proofs.Ytkclookpdngkoaa.S
