/- the texts KFg, KFh, KFi, KFj, KFk, in part, merged by program -/
import Derived.Test.YthjbmloemmggaaaGreatDoorProg
import Derived.Test.YthjbmloemmggaaaGreatDoorRows
import Derived.Shelf.Spec.SlicesInsert
import Derived.Lib.AppendZerosOnto
import Derived.Maps.AppendAt
import Derived.Lib.Overlaps
import Derived.WalkKit
import Derived.WalkSpells
import Derived.Maps.RangeWalk
import Derived.Maps.OwnSet
import Derived.Maps.Ext
import Derived.Maps.Keyed
import Derived.DeepKeys4
import Derived.WalkSmall
import Derived.Deep.Cut
import Derived.Deep.CutRange
import Derived.Deep.MidRow
import Derived.Deep.QuietTactic
import Derived.BigQuiet
import Derived.Deep.RegionWith
import Derived.OwnWalk
import Derived.Laws.CopyRow
import Derived.Laws.OwnMore
import Derived.Laws.AppendOwn
import Derived.Laws.AppendOwnNone
import Derived.Carry
import Derived.Deep.RegionHeld3
import Derived.LoopN
import Derived.Shelf.Strings.BuilderK
import Derived.Test.YthjbmloemmggaaaGreatDoorMA01
import Derived.Test.YthjbmloemmggaaaGreatDoorMA04
import Derived.Test.YthjbmloemmggaaaGreatDoorMA07
import Derived.Test.YthjbmloemmggaaaGreatDoorMA08
import Derived.Test.YthjbmloemmggaaaGreatDoorMA09
namespace Go.Proofs.YthjbmloemmggaaaGreatDoor.Ip
open Go.RowKit Go.Maps
set_option maxRecDepth 100000
set_option linter.unusedVariables false
set_option linter.unusedSimpArgs false

theorem infoK : (Tryz.prog.info? 23).map (fun i => (i.zero, i.size, i.bytes)) = some (some (.agg #[.int .i64 0, .int .i64 0, .int .i64 0, .int .i64 0, .int .i64 0, .int .i64 0, .bool false, .bool false, .string ⟨#[]⟩, .string ⟨#[]⟩]), 10, 88) := by kernel_rfl
theorem infoK2 : (Tryz.prog.info? 23).map (·.size) = some 10 := by kernel_rfl
theorem sizeK (w : World) : (Go.sizeOf 23).run Tryz.prog w = .ok 10 w := by kernel_rfl
def insL (ps : List Pk) (i : Nat) (p : Pk) : List Pk := ps.take i ++ p :: ps.drop i
theorem flatP_app (a b : List Pk) : flatP (a ++ b) = flatP a ++ flatP b := by simp [flatP]
theorem flatP_cons (p : Pk) (b : List Pk) : flatP (p :: b) = p.L ++ flatP b := rfl
theorem oneL (p : Pk) : ∀ u ∈ p.L, u.oneCell' = true := one10 _ _ _ _ _ _ _ _ _ _
theorem oneF (ps : List Pk) : ∀ u ∈ flatP ps, u.oneCell' = true := fun u hu => by
  unfold flatP at hu
  obtain ⟨p, -, h⟩ := List.mem_flatMap.1 hu
  exact oneL p u h
theorem mid_list (X A B C L : List Value) (hX : X = A ++ B ++ C) (hL : L.length = 10) (hC : 10 ≤ C.length) :
    ((X.take (A.length + 10) ++ B ++ X.drop (A.length + 10 + B.length)).take A.length ++ L ++ (X.take (A.length + 10) ++ B ++ X.drop (A.length + 10 + B.length)).drop (A.length + L.length)) = A ++ L ++ B ++ C.drop 10 := by
  subst hX
  have h1 : (A ++ B ++ C).take (A.length + 10) = A ++ (B ++ C).take 10 := by rw [List.append_assoc, List.take_append, List.take_of_length_le (by omega), show A.length + 10 - A.length = 10 by omega]
  have h2 : (A ++ B ++ C).drop (A.length + 10 + B.length) = C.drop 10 := by rw [List.drop_append, List.drop_eq_nil_of_le (by rw [List.length_append]; omega), List.nil_append]; first | rfl | (congr 1; first | done | omega | (simp; done) | (simp; omega))
  have h3 : ((B ++ C).take 10).length = 10 := by rw [List.length_take, List.length_append]; omega
  have h4 : ∀ D : List Value, (A ++ (B ++ C).take 10 ++ D).take A.length = A := fun D => by rw [List.append_assoc]; exact List.take_left
  have h5 : ∀ D : List Value, (A ++ (B ++ C).take 10 ++ D).drop (A.length + 10) = D := fun D => List.drop_left' (by rw [List.length_append, h3])
  rw [h1, h2, hL, List.append_assoc (A ++ List.take 10 (B ++ C)), h4, h5]
  simp
set_option maxHeartbeats 4000000 in
theorem insert_end (ps : List Pk) (p : Pk) (w : World) (v : Value) (R vb : Nat) (hr : RW w R v ps) (hV : w.heap[vb]? = some (.cells #[.int .i64 p.f, .int .i64 p.t, .int .i64 p.tl, .int .i64 p.pr, .int .i64 p.id, .int .i64 p.fr, .bool p.mo, .bool p.dn, .string p.op, .string p.da] 23 (0, 0))) (hR : R ≤ w.heap.size) (hn : ps.length < 1000) :
    Calls Tryz.prog 77 #[v, .int .i64 (ps.length : Int), .slice (some ⟨vb, 0, none⟩) 1 1] w fun e w' => ∃ v', e = .returned v' ∧ RW w' R v' (ps ++ [p]) ∧ Turn (fun k => v.ownBlock = some k) w w' ∧ (v'.ownBlock = v.ownBlock ∨ v'.ownBlock = some w.heap.size) := by
  obtain ⟨i0, hi, hz0, hz1, hz2⟩ := info_parts infoK
  have HI : Hid (Tryz.prog.info? 23 = some i0) := hi
  have HZ : Hid (i0.zero = some (.agg #[.int .i64 0, .int .i64 0, .int .i64 0, .int .i64 0, .int .i64 0, .int .i64 0, .bool false, .bool false, .string ⟨#[]⟩, .string ⟨#[]⟩]) ∧ i0.size = 10 ∧ i0.bytes = 88) := ⟨hz0, hz1, hz2⟩
  clear hi hz0 hz1 hz2
  have hcell : ∀ j u, p.L[j]? = some u → w.cell? ((⟨vb, 0, none⟩ : Addr).add j) = some u := fun j u hu => by
    rw [Addr.add_lit, Nat.zero_add]
    simp [World.cell?, hV]
    simpa [Pk.L] using hu
  have HC : Hid (∀ j u, p.L[j]? = some u → w.cell? ((⟨vb, 0, none⟩ : Addr).add j) = some u) := hcell
  have HR : Hid (RW w R v ps) := hr
  clear hcell hV
  have fin : ∀ v' w', w'.ownsRow R 23 10 v' (ps.length + 1) (flatP ps ++ p.L) → w.grownBy w' v.ownBlock → RW w' R v' (ps ++ [p]) ∧ Turn (fun k => v.ownBlock = some k) w w' := fun v' w' h1 h2 => by
    refine ⟨?_, Turn.of_grown h2 (fun j hj => Or.inl hj)⟩
    unfold RW
    rw [flatP_app, List.length_append]
    exact h1
  obtain ⟨a, c, rfl⟩ := hr.shape
  have hnn : ¬ (ps.length : Int) < 0 := by omega
  by_cases hcn : c = ps.length
  · subst hcn
    clear hr
    go_enter Tryz.func77, Tryz.ntmps77
    go_wp2_with (at_builtin; refine wpList_append_own_at _ rfl _ _ 26 rfl R 23 i0 _ 10 88 Tryz.underlying26 HI.out HZ.out.1 HZ.out.2.1 HZ.out.2.2 rfl (by decide) _ ps.length (flatP ps) rfl HR.out ⟨vb, 0, none⟩ 1 1 p.L rfl rfl HC.out (oneL p) (by unfold maxLen; omega) (by omega) hR ?_; intro v' w' h1 h2 h3 h4)
    go_ret
    exact ⟨v', rfl, (fin v' w' h1 h2).1, (fin v' w' h1 h2).2, h4⟩
  · clear hr
    have hcn' : ¬ ((c : Int) - (ps.length : Int) = 0) := by omega
    go_enter Tryz.func77, Tryz.ntmps77
    go_wp2_with (at_builtin; refine wpList_append_own_at _ rfl _ _ 26 rfl R 23 i0 _ 10 88 Tryz.underlying26 HI.out HZ.out.1 HZ.out.2.1 HZ.out.2.2 rfl (by decide) _ ps.length (flatP ps) rfl HR.out ⟨vb, 0, none⟩ 1 1 p.L rfl rfl HC.out (oneL p) (by unfold maxLen; omega) (by omega) hR ?_; intro v' w' h1 h2 h3 h4)
    go_ret
    exact ⟨v', rfl, (fin v' w' h1 h2).1, (fin v' w' h1 h2).2, h4⟩
set_option maxHeartbeats 4000000 in
theorem insert_room (ps : List Pk) (p : Pk) (w : World) (g c R vb i : Nat) (cur : Array Value) (hb : w.heap[g]? = some (.cells cur 23 (0, 0))) (hsz : cur.size = c * 10) (htk : cur.toList.take (ps.length * 10) = flatP ps) (hcm : c ≤ maxLen) (hV : w.heap[vb]? = some (.cells #[.int .i64 p.f, .int .i64 p.t, .int .i64 p.tl, .int .i64 p.pr, .int .i64 p.id, .int .i64 p.fr, .bool p.mo, .bool p.dn, .string p.op, .string p.da] 23 (0, 0))) (hne : vb ≠ g) (hn : ps.length < 1000) (hi : i < ps.length) (hroom : ps.length + 1 ≤ c) :
    Calls Tryz.prog 77 #[.slice (some ⟨g, 0, none⟩) ps.length c, .int .i64 (i : Int), .slice (some ⟨vb, 0, none⟩) 1 1] w fun e w' => e = .returned (.slice (some ⟨g, 0, none⟩) (ps.length + 1) c) ∧ ∃ cur' : Array Value, w'.heap[g]? = some (.cells cur' 23 (0, 0)) ∧ cur'.size = c * 10 ∧ cur'.toList.take ((ps.length + 1) * 10) = flatP (insL ps i p) ∧ Turn (fun k => k = g) w w' := by
  have mixed : Tryz.prog.follows .mixedOrders = true := by kernel_rfl
  obtain ⟨n, hnn⟩ : ∃ n, n = ps.length := ⟨_, rfl⟩
  have hsa : w.shape? vb = some (23, 10) := by simp [World.shape?, hV]
  have hsb : w.shape? g = some (23, c * 10) := by simp [World.shape?, hb, hsz]
  have hov : ∀ lb cb, (callFunc 96 #[.slice (some ⟨vb, 0, none⟩) 1 1, .slice (some ⟨g, (i + 1) * 10, none⟩) lb cb]).run Tryz.prog w = .ok (.value (.bool false)) w := fun lb cb => by
    rw [run_callFunc_extern Tryz.func96 (by kernel_rfl) (by kernel_rfl) (by kernel_rfl) (e := Extern.SlicesOverlaps.overlaps #[26, 26] #[4]) (by kernel_rfl),
      Lib.run_overlaps_apart w 26 4 23 Tryz.underlying26 10 sizeK ⟨vb, 0, none⟩ ⟨g, (i + 1) * 10, none⟩ 1 1 lb cb hne 23 23 10 (c * 10) hsa hsb (by omega) (by simp [World.frozen?, hV]) (by simp [World.frozen?, hV])]
    rfl
  obtain ⟨X, hX⟩ : ∃ X, X = cur.toList := ⟨_, rfl⟩
  have hdl : (flatP (ps.drop i)).length = (n - i) * 10 := by rw [flatP_len, List.length_drop, hnn]
  have hal : (flatP (ps.take i)).length = i * 10 := by rw [flatP_len, List.length_take]; omega
  have hXe : X = flatP (ps.take i) ++ flatP (ps.drop i) ++ X.drop (n * 10) := by
    rw [← flatP_app, List.take_append_drop, ← htk, ← hX, hnn, List.take_append_drop]
  have hXl : X.length = c * 10 := by rw [hX]; simpa using hsz
  obtain ⟨C1, hC1⟩ : ∃ C1 : Array Value, C1 = (cur.toList.take ((i + 1) * 10) ++ flatP (ps.drop i) ++ cur.toList.drop ((i + 1) * 10 + (flatP (ps.drop i)).length)).toArray := ⟨_, rfl⟩
  have hC1l : C1.size = c * 10 := by rw [hC1]; simp [hdl, hsz]; omega
  have hcp1 : ∀ ty dc sc, (Builtin.copy_ #[26, 26] ty #[.slice (some ⟨g, (i + 1) * 10, none⟩) (n - i) dc, .slice (some ⟨g, i * 10, none⟩) (n + 1 - i) sc]).run Tryz.prog w.drew = .ok (goInt ((n - i : Nat) : Int)) (w.drew.setRow g C1) := fun ty dc sc => by
    rw [hC1]
    exact run_copy_rowk w.drew 26 26 ty 23 10 g ((i + 1) * 10) (n - i) dc ⟨g, i * 10, none⟩ (n + 1 - i) sc (n - i) cur 23 (flatP (ps.drop i)) Tryz.underlying26 infoK2 hb (by simp only [Nat.min_def]; split <;> omega) hdl
      (fun j u hu => by
        rw [Addr.add_lit]
        have hj : j < (n - i) * 10 := by rw [← hdl]; exact (List.getElem?_eq_some_iff.1 hu).1
        have h2 : (flatP ps)[i * 10 + j]? = some u := by
          rw [← List.take_append_drop i ps, flatP_app, List.getElem?_append_right (by rw [hal]; omega), hal, show i * 10 + j - i * 10 = j by omega]
          exact hu
        rw [← htk, List.getElem?_take_of_lt (by omega)] at h2
        show w.cell? _ = _
        simp [World.cell?, hb]
        simpa using h2)
      (by rw [hdl, hsz]; omega) (oneF _)
  have hb1 : (w.drew.setRow g C1).heap[g]? = some (.cells C1 23 (0, 0)) := setRow_heap w.drew g cur C1 23 (0, 0) hb
  obtain ⟨W1, hW1⟩ : ∃ W1, W1 = w.drew.setRow g C1 := ⟨_, rfl⟩
  rw [← hW1] at hcp1 hb1
  have hV1 : W1.heap[vb]? = some (.cells #[.int .i64 p.f, .int .i64 p.t, .int .i64 p.tl, .int .i64 p.pr, .int .i64 p.id, .int .i64 p.fr, .bool p.mo, .bool p.dn, .string p.op, .string p.da] 23 (0, 0)) := by rw [hW1, setRow_other w.drew g vb C1 hne]; exact hV
  obtain ⟨C2, hC2⟩ : ∃ C2 : Array Value, C2 = (C1.toList.take (i * 10) ++ p.L ++ C1.toList.drop (i * 10 + p.L.length)).toArray := ⟨_, rfl⟩
  have hC2l : C2.size = c * 10 := by rw [hC2]; simp [Pk.L_len, hC1l]; omega
  have hcp2 : ∀ ty dc, (Builtin.copy_ #[26, 26] ty #[.slice (some ⟨g, i * 10, none⟩) (n + 1 - i) dc, .slice (some ⟨vb, 0, none⟩) 1 1]).run Tryz.prog W1 = .ok (goInt 1) (W1.setRow g C2) := fun ty dc => by
    rw [hC2]
    exact run_copy_rowk W1 26 26 ty 23 10 g (i * 10) (n + 1 - i) dc ⟨vb, 0, none⟩ 1 1 1 C1 23 p.L Tryz.underlying26 infoK2 hb1 (by simp only [Nat.min_def]; split <;> omega) rfl
      (fun j u hu => by
        rw [Addr.add_lit, Nat.zero_add]
        simp [World.cell?, hV1]
        simpa [Pk.L] using hu)
      (by rw [Pk.L_len, hC1l]; omega) (oneL p)
  have hfin : ∃ cur' : Array Value, (W1.setRow g C2).heap[g]? = some (.cells cur' 23 (0, 0)) ∧ cur'.size = c * 10 ∧ cur'.toList.take ((n + 1) * 10) = flatP (insL ps i p) ∧ Turn (fun k => k = g) w (W1.setRow g C2) := by
    refine ⟨C2, setRow_heap W1 g C1 C2 23 (0, 0) hb1, hC2l, ?_, ?_⟩
    · have hm := mid_list X (flatP (ps.take i)) (flatP (ps.drop i)) (X.drop (n * 10)) p.L hXe (Pk.L_len p) (by rw [List.length_drop, hXl]; omega)
      have e1 : C2.toList = flatP (ps.take i) ++ p.L ++ flatP (ps.drop i) ++ (X.drop (n * 10)).drop 10 := by
        rw [← hm, hC2, hC1, hal, ← hX]
        simp only [List.toList_toArray]
        rw [show (i + 1) * 10 = i * 10 + 10 by omega]
      rw [e1]
      unfold insL
      rw [flatP_app, flatP_cons, ← List.append_assoc]
      exact List.take_left' (by rw [List.length_append, List.length_append, hal, Pk.L_len, hdl]; omega)
    · rw [hW1]
      exact ⟨rfl, rfl, rfl, by simp, fun k hk hs => by rw [setRow_other _ g k _ hs, setRow_other _ g k _ hs]; rfl⟩
  have HF : Hid (∃ cur' : Array Value, (W1.setRow g C2).heap[g]? = some (.cells cur' 23 (0, 0)) ∧ cur'.size = c * 10 ∧ cur'.toList.take ((n + 1) * 10) = flatP (insL ps i p) ∧ Turn (fun k => k = g) w (W1.setRow g C2)) := hfin
  rw [← hnn] at hi hroom hn ⊢
  clear hfin hV1 hb1 hC1 hC2 hC1l hC2l hXe hXl hX hdl hal hsa hsb hV hb htk hsz hW1 hnn
  have hz2 : ¬ ((i : Int) = (n : Int)) := by omega
  have hin : i ≤ n := by omega
  have hw1 : IntKind.i64.wrap ((i : Int) + 1) = (i : Int) + 1 := by rw [IntKind.wrap_i64]; omega
  have hb1 : (0 : Int) ≤ (i : Int) + 1 := by omega
  have htn : ((i : Int) + 1).toNat = i + 1 := by omega
  have hb2 : ¬ (c = i + 1) := by omega
  have hb3 : (i : Int) ≤ (n : Int) + 1 := by omega
  have hb4 : ¬ (c = i) := by omega
  have hc63 : c ≤ 9223372036854775807 := by unfold maxLen at hcm; omega
  go_enter Tryz.func77, Tryz.ntmps77
  go_wp2_with (simp only [hov])
  go_region_law_o (refine step_copy_runI rfl _ _ 26 26 rfl _ _ (by simp [Act.eval, Act.put]) (by simp [Act.eval, Act.put]) (hcp1 _ _ _) ?_)
  go_wp2_with (at_builtin; refine wpList_copy_runI _ rfl _ _ 26 26 rfl _ _ rfl rfl (hcp2 _ _) ?_)
  go_ret
  exact ⟨rfl, HF.out⟩
end Go.Proofs.YthjbmloemmggaaaGreatDoor.Ip

namespace Go.Proofs.YthjbmloemmggaaaGreatDoor.Ip
open Go.RowKit Go.Maps
set_option maxRecDepth 100000
set_option linter.unusedVariables false
set_option linter.unusedSimpArgs false

theorem bel_setRow {B g : Nat} {w0 w : World} (hb : Below B w0 w) (hBg : B ≤ g) (cs : Array Value) : Below B w0 (w.setRow g cs) :=
  ⟨hb.os, hb.tape, hb.output, by rw [setRow_size]; exact hb.size, fun k hk => by rw [setRow_other _ g k _ (by omega)]; exact hb.block k hk⟩
set_option maxHeartbeats 4000000 in
theorem insert_grow (ps : List Pk) (p : Pk) (w : World) (g c R vb i : Nat) (cur : Array Value) (hb : w.heap[g]? = some (.cells cur 23 (0, 0))) (hsz : cur.size = c * 10) (htk : cur.toList.take (ps.length * 10) = flatP ps) (hV : w.heap[vb]? = some (.cells #[.int .i64 p.f, .int .i64 p.t, .int .i64 p.tl, .int .i64 p.pr, .int .i64 p.id, .int .i64 p.fr, .bool p.mo, .bool p.dn, .string p.op, .string p.da] 23 (0, 0))) (hn : ps.length < 1000) (hi : i < ps.length) (hlc : ps.length ≤ c) (hroom : c < ps.length + 1) (hR : R ≤ w.heap.size) :
    Calls Tryz.prog 77 #[.slice (some ⟨g, 0, none⟩) ps.length c, .int .i64 (i : Int), .slice (some ⟨vb, 0, none⟩) 1 1] w fun e w' => ∃ v', e = .returned v' ∧ RW w' R v' (insL ps i p) ∧ Below w.heap.size w w' ∧ v'.ownBlock = some w.heap.size := by
  have mixed : Tryz.prog.follows .mixedOrders = true := by kernel_rfl
  obtain ⟨i0, hi0, hz0, hzs, hzb⟩ := info_parts infoK
  obtain ⟨n, hnn⟩ : ∃ n, n = ps.length := ⟨_, rfl⟩
  have hgw : g < w.heap.size := (Array.getElem?_eq_some_iff.1 hb).1
  have hvw : vb < w.heap.size := (Array.getElem?_eq_some_iff.1 hV).1
  have hdl : (flatP (ps.drop i)).length = (n - i) * 10 := by rw [flatP_len, List.length_drop, hnn]
  have hal : (flatP (ps.take i)).length = i * 10 := by rw [flatP_len, List.length_take]; omega
  have hA : ∀ j u, (flatP (ps.take i))[j]? = some u → w.cell? ⟨g, j, none⟩ = some u := fun j u hu => by
    have hj : j < i * 10 := by rw [← hal]; exact (List.getElem?_eq_some_iff.1 hu).1
    have h2 : (flatP ps)[j]? = some u := by
      rw [← List.take_append_drop i ps, flatP_app, List.getElem?_append_left (by rw [hal]; exact hj)]
      exact hu
    rw [← htk, List.getElem?_take_of_lt (by omega)] at h2
    simp [World.cell?, hb]
    simpa using h2
  have hB : ∀ j u, (flatP (ps.drop i))[j]? = some u → w.cell? ⟨g, i * 10 + j, none⟩ = some u := fun j u hu => by
    have hj : j < (n - i) * 10 := by rw [← hdl]; exact (List.getElem?_eq_some_iff.1 hu).1
    have h2 : (flatP ps)[i * 10 + j]? = some u := by
      rw [← List.take_append_drop i ps, flatP_app, List.getElem?_append_right (by rw [hal]; omega), hal, show i * 10 + j - i * 10 = j by omega]
      exact hu
    rw [← htk, List.getElem?_take_of_lt (by omega)] at h2
    simp [World.cell?, hb]
    simpa using h2
  have hL : ∀ j u, p.L[j]? = some u → w.cell? ⟨vb, j, none⟩ = some u := fun j u hu => by
    simp [World.cell?, hV]
    simpa [Pk.L] using hu
  rw [← hnn] at hn hi hlc hroom ⊢
  have hold : (Builtin.firstCells i0.size i (.slice (some ⟨g, 0, none⟩) i c)).run Tryz.prog w.drew = .ok (flatP (ps.take i)).toArray w.drew := by
    rw [hzs]
    exact run_firstCells_some w.drew 10 i ⟨g, 0, none⟩ i c (flatP (ps.take i)) hal (fun j v hj => by rw [Addr.add_lit, Nat.zero_add]; exact hA j v hj)
  have hkk : (n : Int) + 1 - (i : Int) = ((n + 1 - i : Nat) : Int) := by omega
  have hik : i + (n + 1 - i) = n + 1 := by omega
  obtain ⟨G, hG⟩ : ∃ G, G = grownCap w (n + 1) c 23 := ⟨_, rfl⟩
  have hGn : n + 1 ≤ G := by rw [hG]; exact grownCap_ge w _ _ _
  have hGm : G ≤ maxLen := by rw [hG]; exact grownCap_le_maxLen w (n + 1) c 23 (by unfold maxLen; omega)
  obtain ⟨Z, hZ⟩ : ∃ Z : Array Value, Z = (.agg #[.int .i64 0, .int .i64 0, .int .i64 0, .int .i64 0, .int .i64 0, .int .i64 0, .bool false, .bool false, .string ⟨#[]⟩, .string ⟨#[]⟩] : Value).cells := ⟨_, rfl⟩
  have hZ10 : Z.size = 10 := by rw [hZ]; rfl
  obtain ⟨ROW, hROW⟩ : ∃ ROW : Array Value, ROW = (flatP (ps.take i)).toArray ++ Builtin.zeroCells Z (n + 1 - i) ++ Builtin.zeroCells Z (G - (n + 1)) := ⟨_, rfl⟩
  have hrz : ∀ ty, (Builtin.append_ #[26, 3] ty #[.slice (some ⟨g, 0, none⟩) i c, .int .i64 ((n : Int) + 1 - (i : Int))]).run Tryz.prog w = .ok (.slice (some ⟨w.heap.size, 0, none⟩) (n + 1) G) (w.drew.alloc (.cells ROW 23)) := fun ty => by
    have h := Lib.run_append_grow_zeros w 26 3 ty 23 i0 _ .i64 .i64 Tryz.underlying26 Tryz.underlying3 hi0 hz0 (some ⟨g, 0, none⟩) i c (flatP (ps.take i)) hold (n + 1 - i) (by omega) (by omega) (by omega) (by omega) (by rw [hzb]; omega) (by rw [hzb, hik]; exact growslice_fits hroom (by omega))
    rw [hik, ← hG, ← hZ, ← hROW] at h
    rw [hkk]
    exact h
  have zc : ∀ k, (Builtin.zeroCells Z k).size = k * 10 := fun k => by simp [Builtin.zeroCells, hZ10]
  have hRs : ROW.size = G * 10 := by
    rw [hROW, Array.size_append, Array.size_append, zc, zc, List.size_toArray, hal]
    omega
  have hRt : ROW.toList.take (i * 10) = flatP (ps.take i) := by
    rw [hROW, Array.toList_append, Array.toList_append, List.append_assoc]
    exact List.take_left' hal
  obtain ⟨W1, hW1⟩ : ∃ W1, W1 = w.drew.alloc (.cells ROW 23) := ⟨_, rfl⟩
  have hb1 : W1.heap[w.heap.size]? = some (.cells ROW 23 (0, 0)) := by rw [hW1]; exact heap_alloc_new w.drew _
  have hOb : ∀ b j v, b < w.heap.size → w.cell? ⟨b, j, none⟩ = some v → W1.cell? ⟨b, j, none⟩ = some v := fun b j v hlt h => by rw [hW1, World.cell?_alloc_past (w := w.drew) _ b j hlt]; exact h
  obtain ⟨C1, hC1⟩ : ∃ C1 : Array Value, C1 = (ROW.toList.take (i * 10) ++ p.L ++ ROW.toList.drop (i * 10 + p.L.length)).toArray := ⟨_, rfl⟩
  have hC1s : C1.size = G * 10 := by rw [hC1]; simp [Pk.L_len, hRs]; omega
  have hcpA : ∀ (W : World), (∀ k, W.heap[k]? = W1.heap[k]?) → (∀ x, W.cell? x = W1.cell? x) → ∀ ty dc, (Builtin.copy_ #[26, 26] ty #[.slice (some ⟨w.heap.size, i * 10, none⟩) (n + 1 - i) dc, .slice (some ⟨vb, 0, none⟩) 1 1]).run Tryz.prog W = .ok (goInt 1) (W.setRow w.heap.size C1) := fun W hWh hWc ty dc => by
    rw [hC1]
    exact run_copy_rowk W 26 26 ty 23 10 w.heap.size (i * 10) (n + 1 - i) dc ⟨vb, 0, none⟩ 1 1 1 ROW 23 p.L Tryz.underlying26 infoK2 ((hWh _).trans hb1) (by simp only [Nat.min_def]; split <;> omega) rfl
      (fun j u hu => by rw [Addr.add_lit, Nat.zero_add, hWc]; exact hOb _ _ _ hvw (hL j u hu)) (by rw [Pk.L_len, hRs]; omega) (oneL p)
  obtain ⟨C2, hC2⟩ : ∃ C2 : Array Value, C2 = (C1.toList.take ((i + 1) * 10) ++ flatP (ps.drop i) ++ C1.toList.drop ((i + 1) * 10 + (flatP (ps.drop i)).length)).toArray := ⟨_, rfl⟩
  have hC2s : C2.size = G * 10 := by rw [hC2]; simp [hdl, hC1s]; omega
  have hcpB : ∀ (W : World), W.heap[w.heap.size]? = some (.cells C1 23 (0, 0)) → (∀ b j v, b < w.heap.size → w.cell? ⟨b, j, none⟩ = some v → W.cell? ⟨b, j, none⟩ = some v) → ∀ ty dc sc, (Builtin.copy_ #[26, 26] ty #[.slice (some ⟨w.heap.size, (i + 1) * 10, none⟩) (n - i) dc, .slice (some ⟨g, i * 10, none⟩) (n - i) sc]).run Tryz.prog W = .ok (goInt ((n - i : Nat) : Int)) (W.setRow w.heap.size C2) := fun W hWh hWc ty dc sc => by
    rw [hC2]
    exact run_copy_rowk W 26 26 ty 23 10 w.heap.size ((i + 1) * 10) (n - i) dc ⟨g, i * 10, none⟩ (n - i) sc (n - i) C1 23 (flatP (ps.drop i)) Tryz.underlying26 infoK2 hWh (by simp only [Nat.min_def]; split <;> omega) hdl
      (fun j u hu => by rw [Addr.add_lit]; exact hWc _ _ _ hgw (hB j u hu)) (by rw [hdl, hC1s]; omega) (oneF _)
  have hC2t : C2.toList.take ((n + 1) * 10) = flatP (insL ps i p) := by
    have e1 : C1.toList.take ((i + 1) * 10) = flatP (ps.take i) ++ p.L := by
      rw [hC1, hRt]
      simp only [List.toList_toArray]
      exact List.take_left' (by rw [List.length_append, hal, Pk.L_len]; omega)
    rw [hC2, e1]
    simp only [List.toList_toArray]
    unfold insL
    rw [flatP_app, flatP_cons, ← List.append_assoc]
    exact List.take_left' (by rw [List.length_append, List.length_append, hal, Pk.L_len, hdl]; omega)
  have hins : (insL ps i p).length = n + 1 := by unfold insL; rw [List.length_append, List.length_cons, List.length_take, List.length_drop]; omega
  have fin : ∀ W : World, W.heap[w.heap.size]? = some (.cells C2 23 (0, 0)) → RW W R (.slice (some ⟨w.heap.size, 0, none⟩) (n + 1) G) (insL ps i p) := fun W hW => by
    unfold RW
    rw [hins]
    exact ⟨by rw [flatP_len, hins], Or.inr ⟨w.heap.size, G, C2, rfl, hR, hW, hGn, hGm, hC2s, hC2t⟩⟩
  have HF : Hid (∀ W : World, W.heap[w.heap.size]? = some (.cells C2 23 (0, 0)) → RW W R (.slice (some ⟨w.heap.size, 0, none⟩) (n + 1) G) (insL ps i p)) := fin
  rw [← hW1] at hrz
  have HW : Hid (W1 = w.drew.alloc (.cells ROW 23)) := hW1
  have HB1 : Hid (W1.heap[w.heap.size]? = some (.cells ROW 23 (0, 0))) := hb1
  have HOB : Hid (∀ b j v, b < w.heap.size → w.cell? ⟨b, j, none⟩ = some v → W1.cell? ⟨b, j, none⟩ = some v) := hOb
  have hG63 : G ≤ 9223372036854775807 := by unfold maxLen at hGm; omega
  clear hG fin hC2t hC2s hC2 hC1s hC1 hRt hRs hROW zc hZ10 hZ hGm hold hA hB hL hdl hal hV hb htk hsz hnn hi0 hz0 hzs hzb hik hkk hins hW1 hb1 hOb
  have hz2 : ¬ ((i : Int) = (n : Int)) := by omega
  have hz3 : (c : Int) < (n : Int) + 1 := by omega
  have hin : i ≤ n := by omega
  have hw1 : IntKind.i64.wrap ((i : Int) + 1) = (i : Int) + 1 := by rw [IntKind.wrap_i64]; omega
  have hb1 : (0 : Int) ≤ (i : Int) + 1 := by omega
  have htn : ((i : Int) + 1).toNat = i + 1 := by omega
  have hGi : ¬ (G = i) := by omega
  have hGim : ¬ (G = i + 1) := by omega
  have hci : ¬ (c = i) := by omega
  have hb3 : (i : Int) ≤ (n : Int) := by omega
  have hc63 : c ≤ 9223372036854775807 := by omega
  go_enter Tryz.func77, Tryz.ntmps77
  go_wp2_with (first
    | (at_builtin; refine Lib.wpList_append_run _ rfl _ _ _ _ rfl _ _ rfl rfl _ _ (hrz _) ?_)
    | (at_builtin; refine wpList_copy_runI _ rfl _ _ 26 26 rfl _ _ rfl rfl (hcpA _ (fun _ => rfl) (fun _ => rfl) _ _) ?_))
  have q1 : (W1.setRow w.heap.size C1).heap[w.heap.size]? = some (.cells C1 23 (0, 0)) := setRow_heap W1 w.heap.size ROW C1 23 (0, 0) HB1.out
  have q2 : ∀ b j v, b < w.heap.size → w.cell? ⟨b, j, none⟩ = some v → ((W1.setRow w.heap.size C1).drew).cell? ⟨b, j, none⟩ = some v := fun b j v hlt h => by
    show (W1.setRow w.heap.size C1).cell? ⟨b, j, none⟩ = some v
    rw [cell_setRow_other _ _ _ _ (by show b ≠ w.heap.size; omega)]
    exact HOB.out b j v hlt h
  have hcpB' := hcpB ((W1.setRow w.heap.size C1).drew) q1 q2
  clear q2 hcpB hcpA hrz
  go_region_law_o (refine step_copy_runI rfl _ _ 26 26 rfl _ _ (by simp [Act.eval, Act.put]) (by simp [Act.eval, Act.put]) (hcpB' _ _ _) ?_)
  go_wp2
  go_ret
  refine ⟨_, rfl, HF.out _ (setRow_heap _ w.heap.size C1 C2 23 (0, 0) q1), ?_, rfl⟩
  refine bel_setRow (w := (W1.setRow w.heap.size C1).drew) ?_ (Nat.le_refl _) C2
  have b1 : Below w.heap.size w W1 := by rw [HW.out]; exact bel_undrew (bel1 w.drew (.cells ROW 23))
  exact (bel_setRow b1 (Nat.le_refl _) C1).drew
end Go.Proofs.YthjbmloemmggaaaGreatDoor.Ip

namespace Go.Proofs.YthjbmloemmggaaaGreatDoor.Ip
open Go.RowKit Go.Maps
set_option maxRecDepth 100000
set_option linter.unusedVariables false
set_option linter.unusedSimpArgs false

theorem at_there {W : World} {b : Nat} {vs : Array Value} (h : At W b vs) : W.there b 0 vs.size := fun j hj => by
  obtain ⟨c, f⟩ := h.2 j vs[j] (Array.getElem?_eq_getElem hj)
  rw [Nat.zero_add]
  exact ⟨by rw [c]; rfl, f⟩
theorem size_setCells (b : Nat) : ∀ (vs : List Value) (o : Nat) (w : World), (w.setCells b o vs).heap.size = w.heap.size
  | [], _, _ => rfl
  | v :: vs, o, w => by rw [World.setCells, size_setCells b vs (o + 1) _, World.size_setCell]
theorem turn_setCells (b : Nat) : ∀ (vs : List Value) (o : Nat) (w : World), Turn (fun k => k = b) w (w.setCells b o vs)
  | [], _, _ => Turn.refl _
  | v :: vs, o, w => by
    rw [World.setCells]
    exact (turn_set w b o v).trans (turn_setCells b vs (o + 1) _)
theorem at_whole {W : World} {b : Nat} {old vs : Array Value} (h : At W b old) (hs : old.size = vs.size) : At (W.setCells b 0 vs.toList) b vs := by
  refine ⟨by rw [size_setCells]; exact h.1, fun i v hi => ⟨?_, ?_⟩⟩
  · have hr := World.rangeAt_setCells_same W b 0 vs.toList (by rw [show vs.toList.length = old.size by rw [hs]; simp]; exact at_there h)
    have := hr i v (by simpa using hi)
    rwa [Nat.zero_add] at this
  · rw [World.frozen?_setCells]
    have hlt : i < old.size := by rw [hs]; exact (Array.getElem?_eq_some_iff.1 hi).1
    exact (h.2 i old[i] (Array.getElem?_eq_getElem hlt)).2
theorem wpList_store_at {ops : Array Oper} {rest : List Oper} {op : Oper} {a : Act} {Q : Exit → Act → World → Prop} (hgd : op.guard = none) (ty : TypeId) (x y : Operand) (ho : op.op = .store ty x y) (w : World) (b : Nat) (old vs : Array Value) (hx : a.eval x = .pointer (some ⟨b, 0, none⟩)) (hy : a.eval y = .agg vs) (hA : At w b old) (hzs : old.size = vs.size) (hi : (Tryz.prog.info? ty).map (·.size) = some vs.size) (h1 : vs.all (·.oneCell') = true)
    (h : ∀ w', At w' b vs → Turn (fun k => k = b) w w' → wpList Tryz.prog ops Q rest (a.put op.dst undef) w') : wpList Tryz.prog ops Q (op :: rest) a w := by
  refine wpList_store_mid hgd ty x y ho b 0 vs hx hy (by rw [← hzs]; exact at_there hA) hi h1 ?_
  exact h _ (at_whole hA hzs) (turn_setCells b _ _ _)
theorem wpList_load_at {ops : Array Oper} {rest : List Oper} {op : Oper} {a : Act} {Q : Exit → Act → World → Prop} (hgd : op.guard = none) (ty : TypeId) (x : Operand) (ho : op.op = .load ty x) (w : World) (b : Nat) (vs : Array Value) (fs : Array Field) (hx : a.eval x = .pointer (some ⟨b, 0, none⟩)) (hA : At w b vs) (hu : Tryz.prog.underlying ty = some (.struct fs)) (hi : (Tryz.prog.info? ty).map (·.size) = some vs.size)
    (h : wpList Tryz.prog ops Q rest (a.put op.dst (.agg vs)) w) : wpList Tryz.prog ops Q (op :: rest) a w := by
  refine wpList_load_mid hgd ty x ho b 0 hx vs.toList _ (fun j u hu => ?_) hu rfl (by rw [hi]; simp) ?_
  · rw [Nat.zero_add]
    exact (hA.2 j u (by simpa using hu)).1
  · simpa using h
theorem insert_any (ps : List Pk) (p : Pk) (w : World) (v : Value) (R vb i : Nat) (hr : RW w R v ps) (hV : w.heap[vb]? = some (.cells #[.int .i64 p.f, .int .i64 p.t, .int .i64 p.tl, .int .i64 p.pr, .int .i64 p.id, .int .i64 p.fr, .bool p.mo, .bool p.dn, .string p.op, .string p.da] 23 (0, 0))) (hne : ∀ k, v.ownBlock = some k → k ≠ vb) (hR : R ≤ w.heap.size) (hn : ps.length < 1000) (hi : i ≤ ps.length) :
    Calls Tryz.prog 77 #[v, .int .i64 (i : Int), .slice (some ⟨vb, 0, none⟩) 1 1] w fun e w' => ∃ v', e = .returned v' ∧ RW w' R v' (insL ps i p) ∧ Turn (fun k => v.ownBlock = some k) w w' ∧ (v'.ownBlock = v.ownBlock ∨ v'.ownBlock = some w.heap.size) := by
  rcases Nat.lt_or_ge i ps.length with hlt | hge
  · obtain ⟨g, c, cur, rfl, hg, hb, h1, h2, h3, h4⟩ := hr.real (fun e => by rw [e] at hlt; cases hlt)
    have hgv : vb ≠ g := fun e => hne g (by simp [Value.ownBlock]) e.symm
    by_cases hroom : ps.length + 1 ≤ c
    · refine (insert_room ps p w g c R vb i cur hb h3 h4 h2 hV hgv hn hlt hroom).mono ?_
      rintro e w' ⟨rfl, cur', k1, k2, k3, k4⟩
      refine ⟨_, rfl, ?_, k4.mono (fun k hk => by subst hk; simp [Value.ownBlock]), Or.inl rfl⟩
      have hins : (insL ps i p).length = ps.length + 1 := by unfold insL; rw [List.length_append, List.length_cons, List.length_take, List.length_drop]; omega
      unfold RW
      rw [hins]
      exact ⟨by rw [flatP_len, hins], Or.inr ⟨g, c, cur', rfl, hg, k1, hroom, h2, k2, k3⟩⟩
    · refine (insert_grow ps p w g c R vb i cur hb h3 h4 hV hn hlt h1 (by omega) hR).mono ?_
      rintro e w' ⟨v', rfl, k1, k2, k3⟩
      exact ⟨v', rfl, k1, Turn.of_below k2, Or.inr k3⟩
  · obtain rfl : i = ps.length := by omega
    refine (insert_end ps p w v R vb hr hV hR hn).mono ?_
    rintro e w' ⟨v', rfl, k1, k2, k3⟩
    refine ⟨v', rfl, ?_, k2, k3⟩
    unfold insL
    rw [List.take_length, List.drop_length]
    exact k1
theorem infoX : (Tryz.prog.info? 115).map (·.size) = some 3 := by kernel_rfl
def WP (ps : List Pk) (p : Pk) (at_ tu : Int) (v : Value) (R : Nat) (w : World) (e : Ending) (w' : World) : Prop := ∃ (v' : Value) (i : Nat), e = .returned (.agg #[.int .i64 at_, .int .i64 tu, v']) ∧ i ≤ ps.length ∧ Cutp ps p.fr i i ∧ RW w' R v' (insL ps i p) ∧ Turn (fun k => v.ownBlock = some k) w w' ∧ (v'.ownBlock = v.ownBlock ∨ ∀ k, v'.ownBlock = some k → w.heap.size ≤ k)
set_option maxHeartbeats 4000000 in
theorem with_any (p : Pk) (ps : List Pk) (at_ tu : Int) (v : Value) (R : Nat) (w : World) (hr : RW w R v ps) (hn : ps.length < 100) (h : p.Fine) (hk : ∀ q ∈ ps, q.Fine) (hs : ps.Pairwise (fun a b => a.fr ≤ b.fr)) (hR : R ≤ w.heap.size) :
    Calls Tryz.prog 56 #[.agg #[.int .i64 at_, .int .i64 tu, v], .agg #[.int .i64 p.f, .int .i64 p.t, .int .i64 p.tl, .int .i64 p.pr, .int .i64 p.id, .int .i64 p.fr, .bool p.mo, .bool p.dn, .string p.op, .string p.da]] w fun e w' => WP ps p at_ tu v R w e w' := by
  have hX := ((At.box w #[.int .i64 at_, .int .i64 tu, v] 115).later (bel1 _ (.cells #[.int .i64 p.f, .int .i64 p.t, .int .i64 p.tl, .int .i64 p.pr, .int .i64 p.id, .int .i64 p.fr, .bool p.mo, .bool p.dn, .string p.op, .string p.da] 23))).later (bel1 _ (.cells #[.int .i64 0, .int .i64 0, .slice none 0 0] 115))
  have hB := (At.box2 w (.cells #[.int .i64 at_, .int .i64 tu, v] 115) #[.int .i64 p.f, .int .i64 p.t, .int .i64 p.tl, .int .i64 p.pr, .int .i64 p.id, .int .i64 p.fr, .bool p.mo, .bool p.dn, .string p.op, .string p.da] 23).later (bel1 _ (.cells #[.int .i64 0, .int .i64 0, .slice none 0 0] 115))
  have hZ : At (((w.alloc (.cells #[.int .i64 at_, .int .i64 tu, v] 115)).alloc (.cells #[.int .i64 p.f, .int .i64 p.t, .int .i64 p.tl, .int .i64 p.pr, .int .i64 p.id, .int .i64 p.fr, .bool p.mo, .bool p.dn, .string p.op, .string p.da] 23)).alloc (.cells #[.int .i64 0, .int .i64 0, .slice none 0 0] 115)) (w.heap.size + 1 + 1) #[.int .i64 0, .int .i64 0, .slice none 0 0] := by
    have := At.box ((w.alloc (.cells #[.int .i64 at_, .int .i64 tu, v] 115)).alloc (.cells #[.int .i64 p.f, .int .i64 p.t, .int .i64 p.tl, .int .i64 p.pr, .int .i64 p.id, .int .i64 p.fr, .bool p.mo, .bool p.dn, .string p.op, .string p.da] 23)) #[.int .i64 0, .int .i64 0, .slice none 0 0] 115
    rwa [World.size_alloc, World.size_alloc] at this
  have hl := bt (bt (bel1 w (.cells #[.int .i64 at_, .int .i64 tu, v] 115)) (bel1 _ (.cells #[.int .i64 p.f, .int .i64 p.t, .int .i64 p.tl, .int .i64 p.pr, .int .i64 p.id, .int .i64 p.fr, .bool p.mo, .bool p.dn, .string p.op, .string p.da] 23))) (bel1 _ (.cells #[.int .i64 0, .int .i64 0, .slice none 0 0] 115))
  have hr0 := hr.later hl
  have hlt := hr.lt
  clear hr
  go_enter Tryz.func56, Tryz.ntmps56
  go_upto_region 1 with fail
  generalize ((w.alloc (.cells #[.int .i64 at_, .int .i64 tu, v] 115)).alloc (.cells #[.int .i64 p.f, .int .i64 p.t, .int .i64 p.tl, .int .i64 p.pr, .int .i64 p.id, .int .i64 p.fr, .bool p.mo, .bool p.dn, .string p.op, .string p.da] 23)).alloc (.cells #[.int .i64 0, .int .i64 0, .slice none 0 0] 115) = W0 at *
  have x2 := (hX.2 2 _ rfl).1
  have p5 := (hB.2 5 _ rfl).1
  go_wp2_with fail
  refine (search_any ps p.fr W0 v R hr0 (by omega) hk h.f0 h.f1 hs).mono ?_
  rintro e w1 ⟨⟨i, b, hi, rfl, hc⟩, l1⟩
  have hs1 : w.heap.size + 2 < w1.heap.size := Nat.lt_of_lt_of_le hZ.1 l1.size
  have HC : Hid (Cutp ps p.fr i i) := hc
  clear hc x2 p5
  replace hX := hX.later l1
  replace hB := hB.later l1
  replace hZ := hZ.later l1
  replace hl := bt hl l1
  have hr1 := hr0.later l1
  clear hr0 l1
  have x2 := (hX.2 2 _ rfl).1
  go_upto_region 2 with fail
  have hq := bel1 w1 (.cells #[.int .i64 p.f, .int .i64 p.t, .int .i64 p.tl, .int .i64 p.pr, .int .i64 p.id, .int .i64 p.fr, .bool p.mo, .bool p.dn, .string p.op, .string p.da] 23)
  have hV : (w1.alloc (.cells #[.int .i64 p.f, .int .i64 p.t, .int .i64 p.tl, .int .i64 p.pr, .int .i64 p.id, .int .i64 p.fr, .bool p.mo, .bool p.dn, .string p.op, .string p.da] 23)).heap[w1.heap.size]? = some (.cells #[.int .i64 p.f, .int .i64 p.t, .int .i64 p.tl, .int .i64 p.pr, .int .i64 p.id, .int .i64 p.fr, .bool p.mo, .bool p.dn, .string p.op, .string p.da] 23 (0, 0)) := heap_alloc_new w1 _
  have hne : ∀ k, v.ownBlock = some k → k ≠ w1.heap.size := fun k hk => by have := hr1.lt k hk; omega
  have hcon := insert_any ps p (w1.alloc (.cells #[.int .i64 p.f, .int .i64 p.t, .int .i64 p.tl, .int .i64 p.pr, .int .i64 p.id, .int .i64 p.fr, .bool p.mo, .bool p.dn, .string p.op, .string p.da] 23)) v R w1.heap.size i (hr1.later hq) hV hne (Nat.le_trans (Nat.le_trans hR hl.size) hq.size) (by omega) hi
  go_wp2_with (first | (refine wpList_load_at rfl 23 _ rfl _ (w.heap.size + 1) #[.int .i64 p.f, .int .i64 p.t, .int .i64 p.tl, .int .i64 p.pr, .int .i64 p.id, .int .i64 p.fr, .bool p.mo, .bool p.dn, .string p.op, .string p.da] _ rfl hB Tryz.underlying23 (by kernel_rfl) ?_) | fail)
  refine hcon.mono ?_
  rintro e w2 ⟨v', rfl, hr2, ht2, hloc⟩
  obtain ⟨a', c', rfl⟩ := hr2.shape
  generalize hm : (insL ps i p).length = m' at *
  clear hm
  clear hcon hV x2
  have hnX : ¬ (v.ownBlock = some w.heap.size) := fun e => by have := hlt _ e; omega
  have hnZ : ¬ (v.ownBlock = some (w.heap.size + 1 + 1)) := fun e => by have := hlt _ e; omega
  replace hX := (hX.later hq).turn ht2 hnX
  replace hZ := (hZ.later hq).turn ht2 hnZ
  have htt : Turn (fun k => v.ownBlock = some k) w w2 := (Turn.of_below (bt hl hq)).trans ht2
  have hlocs : ∀ k, (Value.slice a' m' c').ownBlock = some k → k ≠ w.heap.size ∧ k ≠ w.heap.size + 1 + 1 ∧ (v.ownBlock = some k ∨ w.heap.size ≤ k) := fun k hk => by
    rcases hloc with e | e
    · rw [e] at hk
      have := hlt k hk
      exact ⟨by omega, by omega, Or.inl hk⟩
    · rw [e, World.size_alloc] at hk
      injection hk with hk
      exact ⟨by omega, by omega, Or.inr (by omega)⟩
  have HL : Hid ((Value.slice a' m' c').ownBlock = v.ownBlock ∨ ∀ k, (Value.slice a' m' c').ownBlock = some k → w.heap.size ≤ k) := by
    rcases hloc with e | e
    · exact Or.inl e
    · refine Or.inr (fun k hk => ?_)
      rw [e, World.size_alloc] at hk
      injection hk with hk
      omega
  have hone : (#[.int .i64 at_, .int .i64 tu, (.slice a' m' c')] : Array Value).all (·.oneCell') = true := by simp [Value.oneCell']
  obtain ⟨f2a, f2b⟩ := hX.2 2 _ rfl
  have hX3 : At (w2.setCell ⟨w.heap.size, 2, none⟩ (.slice a' m' c')) w.heap.size #[.int .i64 at_, .int .i64 tu, (.slice a' m' c')] := hX.set 2 (.slice a' m' c')
  have ht3 := turn_set w2 w.heap.size 2 (.slice a' m' c')
  have hZ3 := hZ.turn ht3 (by omega)
  have hr3 := hr2.turn ht3 (fun k hk e => (hlocs k hk).1 e)
  have htt3 : Turn (fun k => v.ownBlock = some k) w (w2.setCell ⟨w.heap.size, 2, none⟩ (.slice a' m' c')) := htt.step ht3 (fun j hj => Or.inr (by omega))
  clear hX hZ hr2 htt ht2 hloc hlt hB hr1 hnX hnZ
  go_upto_region 3 with fail
  generalize w2.setCell ⟨w.heap.size, 2, none⟩ (.slice a' m' c') = w3 at *
  go_wp2_with (first | (refine wpList_load_at rfl 115 _ rfl _ w.heap.size #[.int .i64 at_, .int .i64 tu, (.slice a' m' c')] _ rfl hX3 Tryz.underlying115 infoX ?_) | (refine wpList_store_at rfl 115 _ _ rfl _ (w.heap.size + 1 + 1) #[.int .i64 0, .int .i64 0, .slice none 0 0] #[.int .i64 at_, .int .i64 tu, (.slice a' m' c')] rfl rfl hZ3 rfl infoX hone ?_; intro w4 hZ4 ht4))
  have r0 := (hZ4.2 0 _ rfl).1
  have r1 := (hZ4.2 1 _ rfl).1
  have r2 := (hZ4.2 2 _ rfl).1
  exact bodyPost_ret (v := .agg #[.int .i64 at_, .int .i64 tu, (.slice a' m' c')]) (by simp [results, Tryz.results56, go_sem, r0, r1, r2]) rfl ⟨_, i, rfl, hi, HC.out, hr3.turn ht4 (fun k hk e => (hlocs k hk).2.1 e), htt3.step ht4 (fun j hj => Or.inr (by omega)), HL.out⟩
end Go.Proofs.YthjbmloemmggaaaGreatDoor.Ip

namespace Go.Proofs.YthjbmloemmggaaaGreatDoor.Ip
open Go.RowKit Go.Maps
set_option maxRecDepth 100000
set_option linter.unusedVariables false
set_option linter.unusedSimpArgs false

def gapless : Int → List Pk → Bool
  | _, [] => true
  | a, q :: r => decide (q.st = a) && gapless q.en r
theorem gapless_cons (a : Int) (q : Pk) (r : List Pk) : gapless a (q :: r) = (decide (q.fr * 8 = a) && gapless (q.fr * 8 + (q.da.size : Int)) r) := rfl
def lastB (ps : List Pk) : Bool := match ps.getLast? with | some q => !q.mo | none => false
def completeB (ps : List Pk) : Bool := gapless 0 ps && lastB ps
theorem oneQ (q : Pk) : (#[.int .i64 q.f, .int .i64 q.t, .int .i64 q.tl, .int .i64 q.pr, .int .i64 q.id, .int .i64 q.fr, .bool q.mo, .bool q.dn, .string q.op, .string q.da] : Array Value).all (·.oneCell') = true := by simp [Value.oneCell']
set_option maxHeartbeats 4000000 in
theorem complete_any (ps : List Pk) (at_ tu : Int) (v : Value) (R : Nat) (w : World) (hr : RW w R v ps) (hn : ps.length < 100) (h0 : ps ≠ []) (hk : ∀ q ∈ ps, q.Fine) :
    Calls Tryz.prog 57 #[.agg #[.int .i64 at_, .int .i64 tu, v]] w fun e w' => e = .returned (.bool (completeB ps)) ∧ Below w.heap.size w w' := by
  have hX := At.box w #[.int .i64 at_, .int .i64 tu, v] 115
  have hl := bel1 w (.cells #[.int .i64 at_, .int .i64 tu, v] 115)
  have hr0 := hr.later hl
  obtain ⟨g, c, cur, rfl, -⟩ := hr.real h0
  have HK : Hid (∀ q ∈ ps, q.Fine) := hk
  have H0 : Hid (ps ≠ []) := h0
  clear hr hk h0
  go_enter Tryz.func57, Tryz.ntmps57
  go_upto_region 1 with fail
  generalize w.alloc (.cells #[.int .i64 at_, .int .i64 tu, .slice (some ⟨g, 0, none⟩) ps.length c] 115) = W0 at *
  have x2 := (hX.2 2 _ rfl).1
  go_wp2
  go_loopw [3, 9] (fun s3 s9 W => ∃ (j : Nat) (a : Int), j ≤ ps.length ∧ (0 ≤ a ∧ a ≤ 200000) ∧ s3 = .int .i64 a ∧ s9 = .int .i64 (j : Int) ∧ Below W0.heap.size W0 W ∧ Hid (gapless 0 ps = gapless a (ps.drop j))) (fun _ s9 _ => ps.length - (intOf s9).toNat)
  case atStart => exact ⟨0, 0, Nat.zero_le _, by decide, rfl, rfl, Below.refl _ _, rfl⟩
  case round =>
    obtain ⟨j, a, hj, ⟨ha0, ha1⟩, rfl, rfl, hb, HG⟩ := hrel
    by_cases hlt : j < ps.length
    · obtain ⟨q, he⟩ : ∃ q, ps[j]? = some q := ⟨_, List.getElem?_eq_getElem hlt⟩
      have hcl := (hr0.later hb).cells he
      have hrg : wr.rangeAt g (j * 10) [.int .i64 q.f, .int .i64 q.t, .int .i64 q.tl, .int .i64 q.pr, .int .i64 q.id, .int .i64 q.fr, .bool q.mo, .bool q.dn, .string q.op, .string q.da] := fun i u hu => hcl i u hu
      have hq := HK.out q (List.mem_of_getElem? he)
      have hdr : ps.drop j = q :: ps.drop (j + 1) := by
        obtain ⟨h1, h2⟩ := List.getElem?_eq_some_iff.1 he
        rw [← h2]
        exact List.drop_eq_getElem_cons h1
      have HD : Hid (ps.drop j = q :: ps.drop (j + 1)) := hdr
      have hlt' : (j : Int) < (ps.length : Int) := by omega
      have hone := oneQ q
      clear hcl he hdr x2
      go_upto_region 5 with (first
        | (refine wpList_load_mid rfl 23 _ rfl g (j * 10) (by first | rfl | simp) _ _ hrg Tryz.underlying23 rfl (by kernel_rfl) ?_)
        | (refine wpList_store_at rfl 23 _ _ rfl _ wr.heap.size #[.int .i64 0, .int .i64 0, .int .i64 0, .int .i64 0, .int .i64 0, .int .i64 0, .bool false, .bool false, .string ⟨#[]⟩, .string ⟨#[]⟩] #[.int .i64 q.f, .int .i64 q.t, .int .i64 q.tl, .int .i64 q.pr, .int .i64 q.id, .int .i64 q.fr, .bool q.mo, .bool q.dn, .string q.op, .string q.da] rfl rfl (At.box wr #[.int .i64 0, .int .i64 0, .int .i64 0, .int .i64 0, .int .i64 0, .int .i64 0, .bool false, .bool false, .string ⟨#[]⟩, .string ⟨#[]⟩] 23) rfl (by kernel_rfl) hone ?_; intro w1 hB1 ht1)
        | go_in)
      have q1 : Below wr.heap.size wr w1 := (bel1 wr (.cells #[.int .i64 0, .int .i64 0, .int .i64 0, .int .i64 0, .int .i64 0, .int .i64 0, .bool false, .bool false, .string ⟨#[]⟩, .string ⟨#[]⟩] 23)).trans (ht1.below (bel1 wr (.cells #[.int .i64 0, .int .i64 0, .int .i64 0, .int .i64 0, .int .i64 0, .int .i64 0, .bool false, .bool false, .string ⟨#[]⟩, .string ⟨#[]⟩] 23)).size (fun k hk e => by omega))
      replace hb := bt hb q1
      have q0 := hq.f0
      have q1' := hq.f1
      have q2 := hq.dl
      go_wp2_with (first | (refine wpList_load_at rfl 23 _ rfl _ wr.heap.size #[.int .i64 q.f, .int .i64 q.t, .int .i64 q.tl, .int .i64 q.pr, .int .i64 q.id, .int .i64 q.fr, .bool q.mo, .bool q.dn, .string q.op, .string q.da] _ rfl hB1 Tryz.underlying23 (by kernel_rfl) ?_) | fail)
      refine (start_any q _ hq).mono ?_
      rintro e w2 ⟨rfl, l2⟩
      by_cases hst : q.fr * 8 = a
      · have hst' : (q.fr * 8 != a) = false := by simp [hst]
        have HS : Hid (q.fr * 8 = a) := hst
        clear hst
        have hB2 := hB1.later l2
        go_wp2_with (first | (refine wpList_load_at rfl 23 _ rfl _ wr.heap.size #[.int .i64 q.f, .int .i64 q.t, .int .i64 q.tl, .int .i64 q.pr, .int .i64 q.id, .int .i64 q.fr, .bool q.mo, .bool q.dn, .string q.op, .string q.da] _ rfl hB2 Tryz.underlying23 (by kernel_rfl) ?_) | fail)
        refine (end_any q _ hq).mono ?_
        rintro e w3 ⟨rfl, l3⟩
        clear hrg hB1 hB2 hone q1 ht1
        go_wp2
        go_roundw
        case rel => exact ⟨j + 1, q.fr * 8 + (q.da.size : Int), by omega, by omega, rfl, by simp, bt (bt hb l2) l3, by have h1 := HG.out; rw [HD.out, gapless_cons, decide_eq_true HS.out, Bool.true_and] at h1; exact h1⟩
        case measure => simp [intOf]; omega
      · have hst' : (q.fr * 8 != a) = true := by simp [hst]
        have HS : Hid (¬ q.fr * 8 = a) := hst
        clear hst hrg hB1 hone q1 ht1
        go_wp2
        go_ret
        refine ⟨?_, bt hl (bt hb l2)⟩
        have h1 := HG.out
        rw [HD.out, gapless_cons, decide_eq_false HS.out, Bool.false_and] at h1
        unfold completeB
        rw [h1]
        rfl
    · have hje : j = ps.length := by omega
      subst hje
      have hl0 : 0 < ps.length := List.length_pos_iff.2 H0.out
      obtain ⟨q, he⟩ : ∃ q, ps[ps.length - 1]? = some q := ⟨_, List.getElem?_eq_getElem (by omega)⟩
      have hcl := ((hr0.later hb).cells he) 6 _ rfl
      have x2' := ((hX.later hb).2 2 _ rfl).1
      have HLq : Hid (lastB ps = !q.mo) := by
        show lastB ps = _
        unfold lastB
        rw [List.getLast?_eq_getElem?, he]
      have HG' : Hid (gapless 0 ps = true) := by
        have := HG.out
        rw [List.drop_length] at this
        exact this
      have hi0 : (0 : Int) ≤ (ps.length : Int) - 1 := by omega
      have hi1 : (ps.length : Int) - 1 < (ps.length : Int) := by omega
      have hi2 : ((ps.length : Int) - 1).toNat = ps.length - 1 := by omega
      clear x2 he
      go_wp2
      go_ret
      refine ⟨?_, bt hl hb⟩
      unfold completeB
      rw [HG'.out, HLq.out]
      rfl
end Go.Proofs.YthjbmloemmggaaaGreatDoor.Ip

namespace Go.Proofs.YthjbmloemmggaaaGreatDoor.Ip
open Go.Shelf Go.RowKit
set_option maxRecDepth 100000
set_option linter.unusedVariables false
set_option linter.unusedSimpArgs false

def Tryz.renB : Go.Shelf.Ren := ⟨fun | 166 => 79 | 240 => 98 | 276 => 113 | 169 => 80 | n => n, fun | 0 => 0 | 3 => 3 | 4 => 4 | 5 => 5 | 9 => 9 | 20 => 20 | 37 => 123 | 70 => 143 | 72 => 145 | 75 => 58 | 76 => 146 | 80 => 148 | 127 => 162 | 164 => 176 | n => n, fun n => n⟩
theorem Tryz.lays166 : Go.Proofs.Lays.n166 Tryz.prog Tryz.renB := {
  mixed := by kernel_rfl
  f166 := Tryz.func79.trans (congrArg some (by kernel_rfl))
  f240 := Tryz.func98.trans (congrArg some (by kernel_rfl))
  f276 := Tryz.func113.trans (congrArg some (by kernel_rfl))
  t0 := Tryz.underlying0
  a0 := Tryz.isAgg0
  z0 := Tryz.sizeOf0
  v0 := Tryz.zeroValue0
  t3 := Tryz.underlying3
  a3 := Tryz.isAgg3
  z3 := Tryz.sizeOf3
  v3 := Tryz.zeroValue3
  t4 := Tryz.underlying4
  a4 := Tryz.isAgg4
  z4 := Tryz.sizeOf4
  v4 := Tryz.zeroValue4
  t9 := Tryz.underlying9
  a9 := Tryz.isAgg9
  z9 := Tryz.sizeOf9
  v9 := Tryz.zeroValue9
  t20 := Tryz.underlying20
  a20 := Tryz.isAgg20
  z20 := Tryz.sizeOf20
  v20 := Tryz.zeroValue20
  t37 := Tryz.underlying123
  a37 := Tryz.isAgg123
  z37 := Tryz.sizeOf123
  v37 := Tryz.zeroValue123
  t70 := Tryz.underlying143
  a70 := Tryz.isAgg143
  z70 := Tryz.sizeOf143
  v70 := Tryz.zeroValue143
  t72 := Tryz.underlying145
  a72 := Tryz.isAgg145
  z72 := Tryz.sizeOf145
  v72 := Tryz.zeroValue145
  t75 := Tryz.underlying58
  a75 := Tryz.isAgg58
  z75 := Tryz.sizeOf58
  v75 := Tryz.zeroValue58
  t164 := Tryz.underlying176
  a164 := Tryz.isAgg176
  z164 := Tryz.sizeOf176
  v164 := Tryz.zeroValue176 }
theorem Tryz.lays169 : Go.Proofs.Lays.n169 Tryz.prog Tryz.renB := {
  mixed := by kernel_rfl
  f169 := Tryz.func80.trans (congrArg some (by kernel_rfl))
  t0 := Tryz.underlying0
  a0 := Tryz.isAgg0
  z0 := Tryz.sizeOf0
  v0 := Tryz.zeroValue0
  t3 := Tryz.underlying3
  a3 := Tryz.isAgg3
  z3 := Tryz.sizeOf3
  v3 := Tryz.zeroValue3
  t9 := Tryz.underlying9
  a9 := Tryz.isAgg9
  z9 := Tryz.sizeOf9
  v9 := Tryz.zeroValue9
  t37 := Tryz.underlying123
  a37 := Tryz.isAgg123
  z37 := Tryz.sizeOf123
  v37 := Tryz.zeroValue123
  t70 := Tryz.underlying143
  a70 := Tryz.isAgg143
  z70 := Tryz.sizeOf143
  v70 := Tryz.zeroValue143
  t72 := Tryz.underlying145
  a72 := Tryz.isAgg145
  z72 := Tryz.sizeOf145
  v72 := Tryz.zeroValue145
  t127 := Tryz.underlying162
  a127 := Tryz.isAgg162
  z127 := Tryz.sizeOf162
  v127 := Tryz.zeroValue162 }
theorem Tryz.extraB : Go.Proofs.Builder.Extra Tryz.prog Tryz.renB where
  sizeBuilder := by kernel_rfl
  liesBuilder := by kernel_rfl
  t5 := Tryz.underlying5
  a5 := Tryz.isAgg5
  z5 := Tryz.sizeOf5
  v5 := Tryz.zeroValue5
  infoByte := by kernel_rfl
  cellsByte := by kernel_rfl
  sizeByte := by kernel_rfl
  neB5 := by decide
theorem write_any (B b : Nat) (bs : List Value) (s : ByteArray) (w : World) (h : Lib.IsBuilderF 145 5 B b bs w) (hlen : bs.length + s.size ≤ 140737488355328) (hBw : B ≤ w.heap.size) :
    Calls Tryz.prog 79 #[.pointer (some ⟨b, 0, none⟩), .string s] w fun e w' => e = .returned (.tuple #[.int .i64 s.size, .nilIface]) ∧ Lib.IsBuilderF 145 5 B b (bs ++ Lib.strCells s) w' ∧ Below B w w' :=
  (Any.Builder_WriteString_k Tryz.lays166 Tryz.extraB B b bs s w h hlen hBw).mono (fun e w' ⟨h1, h2, h3, _⟩ => ⟨h1, Or.inr h2, h3⟩)
theorem string_any (B b : Nat) (l : List UInt8) (w : World) (h : Lib.IsBuilderF 145 5 B b (Lib.byteCells l) w) (hBw : B ≤ w.heap.size) :
    Calls Tryz.prog 80 #[.pointer (some ⟨b, 0, none⟩)] w fun e w' => e = .returned (.string ⟨l.toArray⟩) ∧ Below B w w' ∧ Lib.OthersKept 5 (some b) w w' :=
  (Any.Builder_String_any_k Tryz.lays169 Tryz.extraB B b l w h hBw).mono (fun e w' ⟨h1, _, h3, h4⟩ => ⟨h1, h3, h4⟩)
end Go.Proofs.YthjbmloemmggaaaGreatDoor.Ip
