/- The contract of Insert over packets. -/
import Derived.Test.YtcjhniehbafhpaaFd
import Derived.Shelf.Spec.SlicesInsert
import Derived.Lib.AppendZerosOnto
import Derived.Maps.AppendAt
import Derived.Lib.Overlaps
namespace Go.Proofs.Ytcjhniehbafhpaa
open Go.RowKit Go.Maps
set_option maxRecDepth 100000
set_option linter.unusedVariables false
set_option linter.unusedSimpArgs false

theorem infoK : (Try.prog.info? 32).map (fun i => (i.zero, i.size, i.bytes)) = some (some (.agg #[.int .i64 0, .int .i64 0, .int .i64 0, .int .i64 0, .int .i64 0, .int .i64 0, .bool false, .bool false, .string ⟨#[]⟩, .string ⟨#[]⟩]), 10, 88) := by kernel_rfl
theorem infoK2 : (Try.prog.info? 32).map (·.size) = some 10 := by kernel_rfl
theorem sizeK (w : World) : (Go.sizeOf 32).run Try.prog w = .ok 10 w := by kernel_rfl
def insL (ps : List Pk) (i : Nat) (p : Pk) : List Pk := ps.take i ++ p :: ps.drop i
theorem flatP_app (a b : List Pk) : flatP (a ++ b) = flatP a ++ flatP b := by simp [flatP]
theorem flatP_cons (p : Pk) (b : List Pk) : flatP (p :: b) = p.L ++ flatP b := rfl
theorem oneL (p : Pk) : ∀ u ∈ p.L, u.oneCell' = true := one10 _ _ _ _ _ _ _ _ _ _
theorem oneF (ps : List Pk) : ∀ u ∈ flatP ps, u.oneCell' = true := fun u hu => by
  unfold flatP at hu
  obtain ⟨p, -, h⟩ := List.mem_flatMap.1 hu
  exact oneL p u h
theorem mid_list (X A B C L : List Value) (hX : X = A ++ B ++ C) (hL : L.length = 10) (hC : 10 ≤ C.length) :
    ((X.take (A.length + 10) ++ B ++ X.drop (A.length + 10 + B.length)).take A.length ++ L ++ (X.take (A.length + 10) ++ B ++ X.drop (A.length + 10 + B.length)).drop (A.length + L.length)) = A ++ L ++ B ++ C.drop 10 := by
  subst hX
  have h1 : (A ++ B ++ C).take (A.length + 10) = A ++ (B ++ C).take 10 := by rw [List.append_assoc, List.take_append, List.take_of_length_le (by omega), show A.length + 10 - A.length = 10 by omega]
  have h2 : (A ++ B ++ C).drop (A.length + 10 + B.length) = C.drop 10 := by rw [List.drop_append, List.drop_eq_nil_of_le (by rw [List.length_append]; omega), List.nil_append]; first | rfl | (congr 1; first | done | omega | (simp; done) | (simp; omega))
  have h3 : ((B ++ C).take 10).length = 10 := by rw [List.length_take, List.length_append]; omega
  have h4 : ∀ D : List Value, (A ++ (B ++ C).take 10 ++ D).take A.length = A := fun D => by rw [List.append_assoc]; exact List.take_left
  have h5 : ∀ D : List Value, (A ++ (B ++ C).take 10 ++ D).drop (A.length + 10) = D := fun D => List.drop_left' (by rw [List.length_append, h3])
  rw [h1, h2, hL, List.append_assoc (A ++ List.take 10 (B ++ C)), h4, h5]
  simp
set_option maxHeartbeats 4000000 in
theorem insert_end (ps : List Pk) (p : Pk) (w : World) (v : Value) (R vb : Nat) (hr : RW w R v ps) (hV : w.heap[vb]? = some (.cells #[.int .i64 p.f, .int .i64 p.t, .int .i64 p.tl, .int .i64 p.pr, .int .i64 p.id, .int .i64 p.fr, .bool p.mo, .bool p.dn, .string p.op, .string p.da] 32 (0, 0))) (hR : R ≤ w.heap.size) (hn : ps.length < 1000) :
    Calls Try.prog 55 #[v, .int .i64 (ps.length : Int), .slice (some ⟨vb, 0, none⟩) 1 1] w fun e w' => ∃ v', e = .returned v' ∧ RW w' R v' (ps ++ [p]) ∧ Turn (fun k => v.ownBlock = some k) w w' ∧ (v'.ownBlock = v.ownBlock ∨ v'.ownBlock = some w.heap.size) := by
  obtain ⟨i0, hi, hz0, hz1, hz2⟩ := info_parts infoK
  have HI : Hid (Try.prog.info? 32 = some i0) := hi
  have HZ : Hid (i0.zero = some (.agg #[.int .i64 0, .int .i64 0, .int .i64 0, .int .i64 0, .int .i64 0, .int .i64 0, .bool false, .bool false, .string ⟨#[]⟩, .string ⟨#[]⟩]) ∧ i0.size = 10 ∧ i0.bytes = 88) := ⟨hz0, hz1, hz2⟩
  clear hi hz0 hz1 hz2
  have hcell : ∀ j u, p.L[j]? = some u → w.cell? ((⟨vb, 0, none⟩ : Addr).add j) = some u := fun j u hu => by
    rw [Addr.add_lit, Nat.zero_add]
    simp [World.cell?, hV]
    simpa [Pk.L] using hu
  have HC : Hid (∀ j u, p.L[j]? = some u → w.cell? ((⟨vb, 0, none⟩ : Addr).add j) = some u) := hcell
  have HR : Hid (RW w R v ps) := hr
  clear hcell hV
  have fin : ∀ v' w', w'.ownsRow R 32 10 v' (ps.length + 1) (flatP ps ++ p.L) → w.grownBy w' v.ownBlock → RW w' R v' (ps ++ [p]) ∧ Turn (fun k => v.ownBlock = some k) w w' := fun v' w' h1 h2 => by
    refine ⟨?_, Turn.of_grown h2 (fun j hj => Or.inl hj)⟩
    unfold RW
    rw [flatP_app, List.length_append]
    exact h1
  obtain ⟨a, c, rfl⟩ := hr.shape
  have hnn : ¬ (ps.length : Int) < 0 := by omega
  by_cases hcn : c = ps.length
  · subst hcn
    clear hr
    go_enter Try.func55, Try.ntmps55
    go_wp2_with (at_builtin; refine wpList_append_own_at _ rfl _ _ 36 rfl R 32 i0 _ 10 88 Try.underlying36 HI.out HZ.out.1 HZ.out.2.1 HZ.out.2.2 rfl (by decide) _ ps.length (flatP ps) rfl HR.out ⟨vb, 0, none⟩ 1 1 p.L rfl rfl HC.out (oneL p) (by unfold maxLen; omega) (by omega) hR ?_; intro v' w' h1 h2 h3 h4)
    go_ret
    exact ⟨v', rfl, (fin v' w' h1 h2).1, (fin v' w' h1 h2).2, h4⟩
  · clear hr
    have hcn' : ¬ ((c : Int) - (ps.length : Int) = 0) := by omega
    go_enter Try.func55, Try.ntmps55
    go_wp2_with (at_builtin; refine wpList_append_own_at _ rfl _ _ 36 rfl R 32 i0 _ 10 88 Try.underlying36 HI.out HZ.out.1 HZ.out.2.1 HZ.out.2.2 rfl (by decide) _ ps.length (flatP ps) rfl HR.out ⟨vb, 0, none⟩ 1 1 p.L rfl rfl HC.out (oneL p) (by unfold maxLen; omega) (by omega) hR ?_; intro v' w' h1 h2 h3 h4)
    go_ret
    exact ⟨v', rfl, (fin v' w' h1 h2).1, (fin v' w' h1 h2).2, h4⟩
set_option maxHeartbeats 4000000 in
theorem insert_room (ps : List Pk) (p : Pk) (w : World) (g c R vb i : Nat) (cur : Array Value) (hb : w.heap[g]? = some (.cells cur 32 (0, 0))) (hsz : cur.size = c * 10) (htk : cur.toList.take (ps.length * 10) = flatP ps) (hcm : c ≤ maxLen) (hV : w.heap[vb]? = some (.cells #[.int .i64 p.f, .int .i64 p.t, .int .i64 p.tl, .int .i64 p.pr, .int .i64 p.id, .int .i64 p.fr, .bool p.mo, .bool p.dn, .string p.op, .string p.da] 32 (0, 0))) (hne : vb ≠ g) (hn : ps.length < 1000) (hi : i < ps.length) (hroom : ps.length + 1 ≤ c) :
    Calls Try.prog 55 #[.slice (some ⟨g, 0, none⟩) ps.length c, .int .i64 (i : Int), .slice (some ⟨vb, 0, none⟩) 1 1] w fun e w' => e = .returned (.slice (some ⟨g, 0, none⟩) (ps.length + 1) c) ∧ ∃ cur' : Array Value, w'.heap[g]? = some (.cells cur' 32 (0, 0)) ∧ cur'.size = c * 10 ∧ cur'.toList.take ((ps.length + 1) * 10) = flatP (insL ps i p) ∧ Turn (fun k => k = g) w w' := by
  have mixed : Try.prog.follows .mixedOrders = true := by kernel_rfl
  obtain ⟨n, hnn⟩ : ∃ n, n = ps.length := ⟨_, rfl⟩
  have hsa : w.shape? vb = some (32, 10) := by simp [World.shape?, hV]
  have hsb : w.shape? g = some (32, c * 10) := by simp [World.shape?, hb, hsz]
  have hov : ∀ lb cb, (callFunc 72 #[.slice (some ⟨vb, 0, none⟩) 1 1, .slice (some ⟨g, (i + 1) * 10, none⟩) lb cb]).run Try.prog w = .ok (.value (.bool false)) w := fun lb cb => by
    rw [run_callFunc_extern Try.func72 (by kernel_rfl) (by kernel_rfl) (by kernel_rfl) (e := Extern.SlicesOverlaps.overlaps #[36, 36] #[4]) (by kernel_rfl),
      Lib.run_overlaps_apart w 36 4 32 Try.underlying36 10 sizeK ⟨vb, 0, none⟩ ⟨g, (i + 1) * 10, none⟩ 1 1 lb cb hne 32 32 10 (c * 10) hsa hsb (by omega) (by simp [World.frozen?, hV]) (by simp [World.frozen?, hV])]
    rfl
  obtain ⟨X, hX⟩ : ∃ X, X = cur.toList := ⟨_, rfl⟩
  have hdl : (flatP (ps.drop i)).length = (n - i) * 10 := by rw [flatP_len, List.length_drop, hnn]
  have hal : (flatP (ps.take i)).length = i * 10 := by rw [flatP_len, List.length_take]; omega
  have hXe : X = flatP (ps.take i) ++ flatP (ps.drop i) ++ X.drop (n * 10) := by
    rw [← flatP_app, List.take_append_drop, ← htk, ← hX, hnn, List.take_append_drop]
  have hXl : X.length = c * 10 := by rw [hX]; simpa using hsz
  obtain ⟨C1, hC1⟩ : ∃ C1 : Array Value, C1 = (cur.toList.take ((i + 1) * 10) ++ flatP (ps.drop i) ++ cur.toList.drop ((i + 1) * 10 + (flatP (ps.drop i)).length)).toArray := ⟨_, rfl⟩
  have hC1l : C1.size = c * 10 := by rw [hC1]; simp [hdl, hsz]; omega
  have hcp1 : ∀ ty dc sc, (Builtin.copy_ #[36, 36] ty #[.slice (some ⟨g, (i + 1) * 10, none⟩) (n - i) dc, .slice (some ⟨g, i * 10, none⟩) (n + 1 - i) sc]).run Try.prog w.drew = .ok (goInt ((n - i : Nat) : Int)) (w.drew.setRow g C1) := fun ty dc sc => by
    rw [hC1]
    exact run_copy_rowk w.drew 36 36 ty 32 10 g ((i + 1) * 10) (n - i) dc ⟨g, i * 10, none⟩ (n + 1 - i) sc (n - i) cur 32 (flatP (ps.drop i)) Try.underlying36 infoK2 hb (by simp only [Nat.min_def]; split <;> omega) hdl
      (fun j u hu => by
        rw [Addr.add_lit]
        have hj : j < (n - i) * 10 := by rw [← hdl]; exact (List.getElem?_eq_some_iff.1 hu).1
        have h2 : (flatP ps)[i * 10 + j]? = some u := by
          rw [← List.take_append_drop i ps, flatP_app, List.getElem?_append_right (by rw [hal]; omega), hal, show i * 10 + j - i * 10 = j by omega]
          exact hu
        rw [← htk, List.getElem?_take_of_lt (by omega)] at h2
        show w.cell? _ = _
        simp [World.cell?, hb]
        simpa using h2)
      (by rw [hdl, hsz]; omega) (oneF _)
  have hb1 : (w.drew.setRow g C1).heap[g]? = some (.cells C1 32 (0, 0)) := setRow_heap w.drew g cur C1 32 (0, 0) hb
  obtain ⟨W1, hW1⟩ : ∃ W1, W1 = w.drew.setRow g C1 := ⟨_, rfl⟩
  rw [← hW1] at hcp1 hb1
  have hV1 : W1.heap[vb]? = some (.cells #[.int .i64 p.f, .int .i64 p.t, .int .i64 p.tl, .int .i64 p.pr, .int .i64 p.id, .int .i64 p.fr, .bool p.mo, .bool p.dn, .string p.op, .string p.da] 32 (0, 0)) := by rw [hW1, setRow_other w.drew g vb C1 hne]; exact hV
  obtain ⟨C2, hC2⟩ : ∃ C2 : Array Value, C2 = (C1.toList.take (i * 10) ++ p.L ++ C1.toList.drop (i * 10 + p.L.length)).toArray := ⟨_, rfl⟩
  have hC2l : C2.size = c * 10 := by rw [hC2]; simp [Pk.L_len, hC1l]; omega
  have hcp2 : ∀ ty dc, (Builtin.copy_ #[36, 36] ty #[.slice (some ⟨g, i * 10, none⟩) (n + 1 - i) dc, .slice (some ⟨vb, 0, none⟩) 1 1]).run Try.prog W1 = .ok (goInt 1) (W1.setRow g C2) := fun ty dc => by
    rw [hC2]
    exact run_copy_rowk W1 36 36 ty 32 10 g (i * 10) (n + 1 - i) dc ⟨vb, 0, none⟩ 1 1 1 C1 32 p.L Try.underlying36 infoK2 hb1 (by simp only [Nat.min_def]; split <;> omega) rfl
      (fun j u hu => by
        rw [Addr.add_lit, Nat.zero_add]
        simp [World.cell?, hV1]
        simpa [Pk.L] using hu)
      (by rw [Pk.L_len, hC1l]; omega) (oneL p)
  have hfin : ∃ cur' : Array Value, (W1.setRow g C2).heap[g]? = some (.cells cur' 32 (0, 0)) ∧ cur'.size = c * 10 ∧ cur'.toList.take ((n + 1) * 10) = flatP (insL ps i p) ∧ Turn (fun k => k = g) w (W1.setRow g C2) := by
    refine ⟨C2, setRow_heap W1 g C1 C2 32 (0, 0) hb1, hC2l, ?_, ?_⟩
    · have hm := mid_list X (flatP (ps.take i)) (flatP (ps.drop i)) (X.drop (n * 10)) p.L hXe (Pk.L_len p) (by rw [List.length_drop, hXl]; omega)
      have e1 : C2.toList = flatP (ps.take i) ++ p.L ++ flatP (ps.drop i) ++ (X.drop (n * 10)).drop 10 := by
        rw [← hm, hC2, hC1, hal, ← hX]
        simp only [List.toList_toArray]
        rw [show (i + 1) * 10 = i * 10 + 10 by omega]
      rw [e1]
      unfold insL
      rw [flatP_app, flatP_cons, ← List.append_assoc]
      exact List.take_left' (by rw [List.length_append, List.length_append, hal, Pk.L_len, hdl]; omega)
    · rw [hW1]
      exact ⟨rfl, rfl, rfl, by simp, fun k hk hs => by rw [setRow_other _ g k _ hs, setRow_other _ g k _ hs]; rfl⟩
  have HF : Hid (∃ cur' : Array Value, (W1.setRow g C2).heap[g]? = some (.cells cur' 32 (0, 0)) ∧ cur'.size = c * 10 ∧ cur'.toList.take ((n + 1) * 10) = flatP (insL ps i p) ∧ Turn (fun k => k = g) w (W1.setRow g C2)) := hfin
  rw [← hnn] at hi hroom hn ⊢
  clear hfin hV1 hb1 hC1 hC2 hC1l hC2l hXe hXl hX hdl hal hsa hsb hV hb htk hsz hW1 hnn
  have hz2 : ¬ ((i : Int) = (n : Int)) := by omega
  have hin : i ≤ n := by omega
  have hw1 : IntKind.i64.wrap ((i : Int) + 1) = (i : Int) + 1 := by rw [IntKind.wrap_i64]; omega
  have hb1 : (0 : Int) ≤ (i : Int) + 1 := by omega
  have htn : ((i : Int) + 1).toNat = i + 1 := by omega
  have hb2 : ¬ (c = i + 1) := by omega
  have hb3 : (i : Int) ≤ (n : Int) + 1 := by omega
  have hb4 : ¬ (c = i) := by omega
  have hc63 : c ≤ 9223372036854775807 := by unfold maxLen at hcm; omega
  go_enter Try.func55, Try.ntmps55
  go_wp2_with (simp only [hov])
  go_region_law_o (refine step_copy_runI rfl _ _ 36 36 rfl _ _ (by simp [Act.eval, Act.put]) (by simp [Act.eval, Act.put]) (hcp1 _ _ _) ?_)
  go_wp2_with (at_builtin; refine wpList_copy_runI _ rfl _ _ 36 36 rfl _ _ rfl rfl (hcp2 _ _) ?_)
  go_ret
  exact ⟨rfl, HF.out⟩
end Go.Proofs.Ytcjhniehbafhpaa
