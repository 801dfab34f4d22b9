/- the texts Fh, Fi, Fj, Fk, Fl, Fm, in part, merged by program -/
import Derived.Test.YtcjhniehbafhpaaProg
import Derived.Test.YtcjhniehbafhpaaRows
import Derived.WalkKit
import Derived.WalkSpells
import Derived.Laws.OwnMore
import Derived.Maps.RangeWalk
import Derived.Maps.OwnSet
import Derived.Maps.Ext
import Derived.Maps.Keyed
import Derived.DeepKeys4
import Derived.WalkSmall
import Derived.Deep.Cut
import Derived.Deep.CutRange
import Derived.Deep.MidRow
import Derived.Deep.QuietTactic
import Derived.BigQuiet
import Derived.Deep.RegionWith
import Derived.OwnWalk
import Derived.Laws.CopyRow
import Derived.OrdersHeld
import Derived.Shelf.Spec.SlicesInsert
import Derived.Lib.AppendZerosOnto
import Derived.Maps.AppendAt
import Derived.Lib.Overlaps
import Derived.Laws.AppendOwn
import Derived.Laws.AppendOwnNone
import Derived.Carry
import Derived.Deep.RegionHeld3
import Derived.LoopN
import Derived.Shelf.Strings.BuilderK
import Derived.Test.YtcjhniehbafhpaaMA01
import Derived.Test.YtcjhniehbafhpaaMA02
import Derived.Test.YtcjhniehbafhpaaMA03
import Derived.Test.YtcjhniehbafhpaaMA04
import Derived.Test.YtcjhniehbafhpaaMA05
namespace Go.Proofs.Ytcjhniehbafhpaa
open Go.RowKit Go.Maps
set_option maxRecDepth 100000
set_option linter.unusedVariables false
set_option linter.unusedSimpArgs false

theorem bel_setRow {B g : Nat} {w0 w : World} (hb : Below B w0 w) (hBg : B ≤ g) (cs : Array Value) : Below B w0 (w.setRow g cs) :=
  ⟨hb.os, hb.tape, hb.output, by rw [setRow_size]; exact hb.size, fun k hk => by rw [setRow_other _ g k _ (by omega)]; exact hb.block k hk⟩
set_option maxHeartbeats 4000000 in
theorem insert_grow (ps : List Pk) (p : Pk) (w : World) (g c R vb i : Nat) (cur : Array Value) (hb : w.heap[g]? = some (.cells cur 32 (0, 0))) (hsz : cur.size = c * 10) (htk : cur.toList.take (ps.length * 10) = flatP ps) (hV : w.heap[vb]? = some (.cells #[.int .i64 p.f, .int .i64 p.t, .int .i64 p.tl, .int .i64 p.pr, .int .i64 p.id, .int .i64 p.fr, .bool p.mo, .bool p.dn, .string p.op, .string p.da] 32 (0, 0))) (hn : ps.length < 1000) (hi : i < ps.length) (hlc : ps.length ≤ c) (hroom : c < ps.length + 1) (hR : R ≤ w.heap.size) :
    Calls Try.prog 55 #[.slice (some ⟨g, 0, none⟩) ps.length c, .int .i64 (i : Int), .slice (some ⟨vb, 0, none⟩) 1 1] w fun e w' => ∃ v', e = .returned v' ∧ RW w' R v' (insL ps i p) ∧ Below w.heap.size w w' ∧ v'.ownBlock = some w.heap.size := by
  have mixed : Try.prog.follows .mixedOrders = true := by kernel_rfl
  obtain ⟨i0, hi0, hz0, hzs, hzb⟩ := info_parts infoK
  obtain ⟨n, hnn⟩ : ∃ n, n = ps.length := ⟨_, rfl⟩
  have hgw : g < w.heap.size := (Array.getElem?_eq_some_iff.1 hb).1
  have hvw : vb < w.heap.size := (Array.getElem?_eq_some_iff.1 hV).1
  have hdl : (flatP (ps.drop i)).length = (n - i) * 10 := by rw [flatP_len, List.length_drop, hnn]
  have hal : (flatP (ps.take i)).length = i * 10 := by rw [flatP_len, List.length_take]; omega
  have hA : ∀ j u, (flatP (ps.take i))[j]? = some u → w.cell? ⟨g, j, none⟩ = some u := fun j u hu => by
    have hj : j < i * 10 := by rw [← hal]; exact (List.getElem?_eq_some_iff.1 hu).1
    have h2 : (flatP ps)[j]? = some u := by
      rw [← List.take_append_drop i ps, flatP_app, List.getElem?_append_left (by rw [hal]; exact hj)]
      exact hu
    rw [← htk, List.getElem?_take_of_lt (by omega)] at h2
    simp [World.cell?, hb]
    simpa using h2
  have hB : ∀ j u, (flatP (ps.drop i))[j]? = some u → w.cell? ⟨g, i * 10 + j, none⟩ = some u := fun j u hu => by
    have hj : j < (n - i) * 10 := by rw [← hdl]; exact (List.getElem?_eq_some_iff.1 hu).1
    have h2 : (flatP ps)[i * 10 + j]? = some u := by
      rw [← List.take_append_drop i ps, flatP_app, List.getElem?_append_right (by rw [hal]; omega), hal, show i * 10 + j - i * 10 = j by omega]
      exact hu
    rw [← htk, List.getElem?_take_of_lt (by omega)] at h2
    simp [World.cell?, hb]
    simpa using h2
  have hL : ∀ j u, p.L[j]? = some u → w.cell? ⟨vb, j, none⟩ = some u := fun j u hu => by
    simp [World.cell?, hV]
    simpa [Pk.L] using hu
  rw [← hnn] at hn hi hlc hroom ⊢
  have hold : (Builtin.firstCells i0.size i (.slice (some ⟨g, 0, none⟩) i c)).run Try.prog w.drew = .ok (flatP (ps.take i)).toArray w.drew := by
    rw [hzs]
    exact run_firstCells_some w.drew 10 i ⟨g, 0, none⟩ i c (flatP (ps.take i)) hal (fun j v hj => by rw [Addr.add_lit, Nat.zero_add]; exact hA j v hj)
  have hkk : (n : Int) + 1 - (i : Int) = ((n + 1 - i : Nat) : Int) := by omega
  have hik : i + (n + 1 - i) = n + 1 := by omega
  obtain ⟨G, hG⟩ : ∃ G, G = grownCap w (n + 1) c 32 := ⟨_, rfl⟩
  have hGn : n + 1 ≤ G := by rw [hG]; exact grownCap_ge w _ _ _
  have hGm : G ≤ maxLen := by rw [hG]; exact grownCap_le_maxLen w (n + 1) c 32 (by unfold maxLen; omega)
  obtain ⟨Z, hZ⟩ : ∃ Z : Array Value, Z = (.agg #[.int .i64 0, .int .i64 0, .int .i64 0, .int .i64 0, .int .i64 0, .int .i64 0, .bool false, .bool false, .string ⟨#[]⟩, .string ⟨#[]⟩] : Value).cells := ⟨_, rfl⟩
  have hZ10 : Z.size = 10 := by rw [hZ]; rfl
  obtain ⟨ROW, hROW⟩ : ∃ ROW : Array Value, ROW = (flatP (ps.take i)).toArray ++ Builtin.zeroCells Z (n + 1 - i) ++ Builtin.zeroCells Z (G - (n + 1)) := ⟨_, rfl⟩
  have hrz : ∀ ty, (Builtin.append_ #[36, 3] ty #[.slice (some ⟨g, 0, none⟩) i c, .int .i64 ((n : Int) + 1 - (i : Int))]).run Try.prog w = .ok (.slice (some ⟨w.heap.size, 0, none⟩) (n + 1) G) (w.drew.alloc (.cells ROW 32)) := fun ty => by
    have h := Lib.run_append_grow_zeros w 36 3 ty 32 i0 _ .i64 .i64 Try.underlying36 Try.underlying3 hi0 hz0 (some ⟨g, 0, none⟩) i c (flatP (ps.take i)) hold (n + 1 - i) (by omega) (by omega) (by omega) (by omega) (by rw [hzb]; omega) (by rw [hzb, hik]; exact growslice_fits hroom (by omega))
    rw [hik, ← hG, ← hZ, ← hROW] at h
    rw [hkk]
    exact h
  have zc : ∀ k, (Builtin.zeroCells Z k).size = k * 10 := fun k => by simp [Builtin.zeroCells, hZ10]
  have hRs : ROW.size = G * 10 := by
    rw [hROW, Array.size_append, Array.size_append, zc, zc, List.size_toArray, hal]
    omega
  have hRt : ROW.toList.take (i * 10) = flatP (ps.take i) := by
    rw [hROW, Array.toList_append, Array.toList_append, List.append_assoc]
    exact List.take_left' hal
  obtain ⟨W1, hW1⟩ : ∃ W1, W1 = w.drew.alloc (.cells ROW 32) := ⟨_, rfl⟩
  have hb1 : W1.heap[w.heap.size]? = some (.cells ROW 32 (0, 0)) := by rw [hW1]; exact heap_alloc_new w.drew _
  have hOb : ∀ b j v, b < w.heap.size → w.cell? ⟨b, j, none⟩ = some v → W1.cell? ⟨b, j, none⟩ = some v := fun b j v hlt h => by rw [hW1, World.cell?_alloc_past (w := w.drew) _ b j hlt]; exact h
  obtain ⟨C1, hC1⟩ : ∃ C1 : Array Value, C1 = (ROW.toList.take (i * 10) ++ p.L ++ ROW.toList.drop (i * 10 + p.L.length)).toArray := ⟨_, rfl⟩
  have hC1s : C1.size = G * 10 := by rw [hC1]; simp [Pk.L_len, hRs]; omega
  have hcpA : ∀ (W : World), (∀ k, W.heap[k]? = W1.heap[k]?) → (∀ x, W.cell? x = W1.cell? x) → ∀ ty dc, (Builtin.copy_ #[36, 36] ty #[.slice (some ⟨w.heap.size, i * 10, none⟩) (n + 1 - i) dc, .slice (some ⟨vb, 0, none⟩) 1 1]).run Try.prog W = .ok (goInt 1) (W.setRow w.heap.size C1) := fun W hWh hWc ty dc => by
    rw [hC1]
    exact run_copy_rowk W 36 36 ty 32 10 w.heap.size (i * 10) (n + 1 - i) dc ⟨vb, 0, none⟩ 1 1 1 ROW 32 p.L Try.underlying36 infoK2 ((hWh _).trans hb1) (by simp only [Nat.min_def]; split <;> omega) rfl
      (fun j u hu => by rw [Addr.add_lit, Nat.zero_add, hWc]; exact hOb _ _ _ hvw (hL j u hu)) (by rw [Pk.L_len, hRs]; omega) (oneL p)
  obtain ⟨C2, hC2⟩ : ∃ C2 : Array Value, C2 = (C1.toList.take ((i + 1) * 10) ++ flatP (ps.drop i) ++ C1.toList.drop ((i + 1) * 10 + (flatP (ps.drop i)).length)).toArray := ⟨_, rfl⟩
  have hC2s : C2.size = G * 10 := by rw [hC2]; simp [hdl, hC1s]; omega
  have hcpB : ∀ (W : World), W.heap[w.heap.size]? = some (.cells C1 32 (0, 0)) → (∀ b j v, b < w.heap.size → w.cell? ⟨b, j, none⟩ = some v → W.cell? ⟨b, j, none⟩ = some v) → ∀ ty dc sc, (Builtin.copy_ #[36, 36] ty #[.slice (some ⟨w.heap.size, (i + 1) * 10, none⟩) (n - i) dc, .slice (some ⟨g, i * 10, none⟩) (n - i) sc]).run Try.prog W = .ok (goInt ((n - i : Nat) : Int)) (W.setRow w.heap.size C2) := fun W hWh hWc ty dc sc => by
    rw [hC2]
    exact run_copy_rowk W 36 36 ty 32 10 w.heap.size ((i + 1) * 10) (n - i) dc ⟨g, i * 10, none⟩ (n - i) sc (n - i) C1 32 (flatP (ps.drop i)) Try.underlying36 infoK2 hWh (by simp only [Nat.min_def]; split <;> omega) hdl
      (fun j u hu => by rw [Addr.add_lit]; exact hWc _ _ _ hgw (hB j u hu)) (by rw [hdl, hC1s]; omega) (oneF _)
  have hC2t : C2.toList.take ((n + 1) * 10) = flatP (insL ps i p) := by
    have e1 : C1.toList.take ((i + 1) * 10) = flatP (ps.take i) ++ p.L := by
      rw [hC1, hRt]
      simp only [List.toList_toArray]
      exact List.take_left' (by rw [List.length_append, hal, Pk.L_len]; omega)
    rw [hC2, e1]
    simp only [List.toList_toArray]
    unfold insL
    rw [flatP_app, flatP_cons, ← List.append_assoc]
    exact List.take_left' (by rw [List.length_append, List.length_append, hal, Pk.L_len, hdl]; omega)
  have hins : (insL ps i p).length = n + 1 := by unfold insL; rw [List.length_append, List.length_cons, List.length_take, List.length_drop]; omega
  have fin : ∀ W : World, W.heap[w.heap.size]? = some (.cells C2 32 (0, 0)) → RW W R (.slice (some ⟨w.heap.size, 0, none⟩) (n + 1) G) (insL ps i p) := fun W hW => by
    unfold RW
    rw [hins]
    exact ⟨by rw [flatP_len, hins], Or.inr ⟨w.heap.size, G, C2, rfl, hR, hW, hGn, hGm, hC2s, hC2t⟩⟩
  have HF : Hid (∀ W : World, W.heap[w.heap.size]? = some (.cells C2 32 (0, 0)) → RW W R (.slice (some ⟨w.heap.size, 0, none⟩) (n + 1) G) (insL ps i p)) := fin
  rw [← hW1] at hrz
  have HW : Hid (W1 = w.drew.alloc (.cells ROW 32)) := hW1
  have HB1 : Hid (W1.heap[w.heap.size]? = some (.cells ROW 32 (0, 0))) := hb1
  have HOB : Hid (∀ b j v, b < w.heap.size → w.cell? ⟨b, j, none⟩ = some v → W1.cell? ⟨b, j, none⟩ = some v) := hOb
  have hG63 : G ≤ 9223372036854775807 := by unfold maxLen at hGm; omega
  clear hG fin hC2t hC2s hC2 hC1s hC1 hRt hRs hROW zc hZ10 hZ hGm hold hA hB hL hdl hal hV hb htk hsz hnn hi0 hz0 hzs hzb hik hkk hins hW1 hb1 hOb
  have hz2 : ¬ ((i : Int) = (n : Int)) := by omega
  have hz3 : (c : Int) < (n : Int) + 1 := by omega
  have hin : i ≤ n := by omega
  have hw1 : IntKind.i64.wrap ((i : Int) + 1) = (i : Int) + 1 := by rw [IntKind.wrap_i64]; omega
  have hb1 : (0 : Int) ≤ (i : Int) + 1 := by omega
  have htn : ((i : Int) + 1).toNat = i + 1 := by omega
  have hGi : ¬ (G = i) := by omega
  have hGim : ¬ (G = i + 1) := by omega
  have hci : ¬ (c = i) := by omega
  have hb3 : (i : Int) ≤ (n : Int) := by omega
  have hc63 : c ≤ 9223372036854775807 := by omega
  go_enter Try.func55, Try.ntmps55
  go_wp2_with (first
    | (at_builtin; refine Lib.wpList_append_run _ rfl _ _ _ _ rfl _ _ rfl rfl _ _ (hrz _) ?_)
    | (at_builtin; refine wpList_copy_runI _ rfl _ _ 36 36 rfl _ _ rfl rfl (hcpA _ (fun _ => rfl) (fun _ => rfl) _ _) ?_))
  have q1 : (W1.setRow w.heap.size C1).heap[w.heap.size]? = some (.cells C1 32 (0, 0)) := setRow_heap W1 w.heap.size ROW C1 32 (0, 0) HB1.out
  have q2 : ∀ b j v, b < w.heap.size → w.cell? ⟨b, j, none⟩ = some v → ((W1.setRow w.heap.size C1).drew).cell? ⟨b, j, none⟩ = some v := fun b j v hlt h => by
    show (W1.setRow w.heap.size C1).cell? ⟨b, j, none⟩ = some v
    rw [cell_setRow_other _ _ _ _ (by show b ≠ w.heap.size; omega)]
    exact HOB.out b j v hlt h
  have hcpB' := hcpB ((W1.setRow w.heap.size C1).drew) q1 q2
  clear q2 hcpB hcpA hrz
  go_region_law_o (refine step_copy_runI rfl _ _ 36 36 rfl _ _ (by simp [Act.eval, Act.put]) (by simp [Act.eval, Act.put]) (hcpB' _ _ _) ?_)
  go_wp2
  go_ret
  refine ⟨_, rfl, HF.out _ (setRow_heap _ w.heap.size C1 C2 32 (0, 0) q1), ?_, rfl⟩
  refine bel_setRow (w := (W1.setRow w.heap.size C1).drew) ?_ (Nat.le_refl _) C2
  have b1 : Below w.heap.size w W1 := by rw [HW.out]; exact bel_undrew (bel1 w.drew (.cells ROW 32))
  exact (bel_setRow b1 (Nat.le_refl _) C1).drew
end Go.Proofs.Ytcjhniehbafhpaa

namespace Go.Proofs.Ytcjhniehbafhpaa
open Go.RowKit Go.Maps
set_option maxRecDepth 100000
set_option linter.unusedVariables false
set_option linter.unusedSimpArgs false

theorem at_there {W : World} {b : Nat} {vs : Array Value} (h : At W b vs) : W.there b 0 vs.size := fun j hj => by
  obtain ⟨c, f⟩ := h.2 j vs[j] (Array.getElem?_eq_getElem hj)
  rw [Nat.zero_add]
  exact ⟨by rw [c]; rfl, f⟩
theorem size_setCells (b : Nat) : ∀ (vs : List Value) (o : Nat) (w : World), (w.setCells b o vs).heap.size = w.heap.size
  | [], _, _ => rfl
  | v :: vs, o, w => by rw [World.setCells, size_setCells b vs (o + 1) _, World.size_setCell]
theorem turn_setCells (b : Nat) : ∀ (vs : List Value) (o : Nat) (w : World), Turn (fun k => k = b) w (w.setCells b o vs)
  | [], _, _ => Turn.refl _
  | v :: vs, o, w => by
    rw [World.setCells]
    exact (turn_set w b o v).trans (turn_setCells b vs (o + 1) _)
theorem at_whole {W : World} {b : Nat} {old vs : Array Value} (h : At W b old) (hs : old.size = vs.size) : At (W.setCells b 0 vs.toList) b vs := by
  refine ⟨by rw [size_setCells]; exact h.1, fun i v hi => ⟨?_, ?_⟩⟩
  · have hr := World.rangeAt_setCells_same W b 0 vs.toList (by rw [show vs.toList.length = old.size by rw [hs]; simp]; exact at_there h)
    have := hr i v (by simpa using hi)
    rwa [Nat.zero_add] at this
  · rw [World.frozen?_setCells]
    have hlt : i < old.size := by rw [hs]; exact (Array.getElem?_eq_some_iff.1 hi).1
    exact (h.2 i old[i] (Array.getElem?_eq_getElem hlt)).2
theorem wpList_store_at {ops : Array Oper} {rest : List Oper} {op : Oper} {a : Act} {Q : Exit → Act → World → Prop} (hgd : op.guard = none) (ty : TypeId) (x y : Operand) (ho : op.op = .store ty x y) (w : World) (b : Nat) (old vs : Array Value) (hx : a.eval x = .pointer (some ⟨b, 0, none⟩)) (hy : a.eval y = .agg vs) (hA : At w b old) (hzs : old.size = vs.size) (hi : (Try.prog.info? ty).map (·.size) = some vs.size) (h1 : vs.all (·.oneCell') = true)
    (h : ∀ w', At w' b vs → Turn (fun k => k = b) w w' → wpList Try.prog ops Q rest (a.put op.dst undef) w') : wpList Try.prog ops Q (op :: rest) a w := by
  refine wpList_store_mid hgd ty x y ho b 0 vs hx hy (by rw [← hzs]; exact at_there hA) hi h1 ?_
  exact h _ (at_whole hA hzs) (turn_setCells b _ _ _)
theorem wpList_load_at {ops : Array Oper} {rest : List Oper} {op : Oper} {a : Act} {Q : Exit → Act → World → Prop} (hgd : op.guard = none) (ty : TypeId) (x : Operand) (ho : op.op = .load ty x) (w : World) (b : Nat) (vs : Array Value) (fs : Array Field) (hx : a.eval x = .pointer (some ⟨b, 0, none⟩)) (hA : At w b vs) (hu : Try.prog.underlying ty = some (.struct fs)) (hi : (Try.prog.info? ty).map (·.size) = some vs.size)
    (h : wpList Try.prog ops Q rest (a.put op.dst (.agg vs)) w) : wpList Try.prog ops Q (op :: rest) a w := by
  refine wpList_load_mid hgd ty x ho b 0 hx vs.toList _ (fun j u hu => ?_) hu rfl (by rw [hi]; simp) ?_
  · rw [Nat.zero_add]
    exact (hA.2 j u (by simpa using hu)).1
  · simpa using h
theorem insert_any (ps : List Pk) (p : Pk) (w : World) (v : Value) (R vb i : Nat) (hr : RW w R v ps) (hV : w.heap[vb]? = some (.cells #[.int .i64 p.f, .int .i64 p.t, .int .i64 p.tl, .int .i64 p.pr, .int .i64 p.id, .int .i64 p.fr, .bool p.mo, .bool p.dn, .string p.op, .string p.da] 32 (0, 0))) (hne : ∀ k, v.ownBlock = some k → k ≠ vb) (hR : R ≤ w.heap.size) (hn : ps.length < 1000) (hi : i ≤ ps.length) :
    Calls Try.prog 55 #[v, .int .i64 (i : Int), .slice (some ⟨vb, 0, none⟩) 1 1] w fun e w' => ∃ v', e = .returned v' ∧ RW w' R v' (insL ps i p) ∧ Turn (fun k => v.ownBlock = some k) w w' ∧ (v'.ownBlock = v.ownBlock ∨ v'.ownBlock = some w.heap.size) := by
  rcases Nat.lt_or_ge i ps.length with hlt | hge
  · obtain ⟨g, c, cur, rfl, hg, hb, h1, h2, h3, h4⟩ := hr.real (fun e => by rw [e] at hlt; cases hlt)
    have hgv : vb ≠ g := fun e => hne g (by simp [Value.ownBlock]) e.symm
    by_cases hroom : ps.length + 1 ≤ c
    · refine (insert_room ps p w g c R vb i cur hb h3 h4 h2 hV hgv hn hlt hroom).mono ?_
      rintro e w' ⟨rfl, cur', k1, k2, k3, k4⟩
      refine ⟨_, rfl, ?_, k4.mono (fun k hk => by subst hk; simp [Value.ownBlock]), Or.inl rfl⟩
      have hins : (insL ps i p).length = ps.length + 1 := by unfold insL; rw [List.length_append, List.length_cons, List.length_take, List.length_drop]; omega
      unfold RW
      rw [hins]
      exact ⟨by rw [flatP_len, hins], Or.inr ⟨g, c, cur', rfl, hg, k1, hroom, h2, k2, k3⟩⟩
    · refine (insert_grow ps p w g c R vb i cur hb h3 h4 hV hn hlt h1 (by omega) hR).mono ?_
      rintro e w' ⟨v', rfl, k1, k2, k3⟩
      exact ⟨v', rfl, k1, Turn.of_below k2, Or.inr k3⟩
  · obtain rfl : i = ps.length := by omega
    refine (insert_end ps p w v R vb hr hV hR hn).mono ?_
    rintro e w' ⟨v', rfl, k1, k2, k3⟩
    refine ⟨v', rfl, ?_, k2, k3⟩
    unfold insL
    rw [List.take_length, List.drop_length]
    exact k1
theorem infoX : (Try.prog.info? 61).map (·.size) = some 3 := by kernel_rfl
def WP (ps : List Pk) (p : Pk) (at_ tu : Int) (v : Value) (R : Nat) (w : World) (e : Ending) (w' : World) : Prop := ∃ (v' : Value) (i : Nat), e = .returned (.agg #[.int .i64 at_, .int .i64 tu, v']) ∧ i ≤ ps.length ∧ Cutp ps p.fr i i ∧ RW w' R v' (insL ps i p) ∧ Turn (fun k => v.ownBlock = some k) w w' ∧ (v'.ownBlock = v.ownBlock ∨ ∀ k, v'.ownBlock = some k → w.heap.size ≤ k)
set_option maxHeartbeats 4000000 in
theorem with_any (p : Pk) (ps : List Pk) (at_ tu : Int) (v : Value) (R : Nat) (w : World) (hr : RW w R v ps) (hn : ps.length < 100) (h : p.Fine) (hk : ∀ q ∈ ps, q.Fine) (hs : ps.Pairwise (fun a b => a.fr ≤ b.fr)) (hR : R ≤ w.heap.size) :
    Calls Try.prog 38 #[.agg #[.int .i64 at_, .int .i64 tu, v], .agg #[.int .i64 p.f, .int .i64 p.t, .int .i64 p.tl, .int .i64 p.pr, .int .i64 p.id, .int .i64 p.fr, .bool p.mo, .bool p.dn, .string p.op, .string p.da]] w fun e w' => WP ps p at_ tu v R w e w' := by
  have hX := ((At.box w #[.int .i64 at_, .int .i64 tu, v] 61).later (bel1 _ (.cells #[.int .i64 p.f, .int .i64 p.t, .int .i64 p.tl, .int .i64 p.pr, .int .i64 p.id, .int .i64 p.fr, .bool p.mo, .bool p.dn, .string p.op, .string p.da] 32))).later (bel1 _ (.cells #[.int .i64 0, .int .i64 0, .slice none 0 0] 61))
  have hB := (At.box2 w (.cells #[.int .i64 at_, .int .i64 tu, v] 61) #[.int .i64 p.f, .int .i64 p.t, .int .i64 p.tl, .int .i64 p.pr, .int .i64 p.id, .int .i64 p.fr, .bool p.mo, .bool p.dn, .string p.op, .string p.da] 32).later (bel1 _ (.cells #[.int .i64 0, .int .i64 0, .slice none 0 0] 61))
  have hZ : At (((w.alloc (.cells #[.int .i64 at_, .int .i64 tu, v] 61)).alloc (.cells #[.int .i64 p.f, .int .i64 p.t, .int .i64 p.tl, .int .i64 p.pr, .int .i64 p.id, .int .i64 p.fr, .bool p.mo, .bool p.dn, .string p.op, .string p.da] 32)).alloc (.cells #[.int .i64 0, .int .i64 0, .slice none 0 0] 61)) (w.heap.size + 1 + 1) #[.int .i64 0, .int .i64 0, .slice none 0 0] := by
    have := At.box ((w.alloc (.cells #[.int .i64 at_, .int .i64 tu, v] 61)).alloc (.cells #[.int .i64 p.f, .int .i64 p.t, .int .i64 p.tl, .int .i64 p.pr, .int .i64 p.id, .int .i64 p.fr, .bool p.mo, .bool p.dn, .string p.op, .string p.da] 32)) #[.int .i64 0, .int .i64 0, .slice none 0 0] 61
    rwa [World.size_alloc, World.size_alloc] at this
  have hl := bt (bt (bel1 w (.cells #[.int .i64 at_, .int .i64 tu, v] 61)) (bel1 _ (.cells #[.int .i64 p.f, .int .i64 p.t, .int .i64 p.tl, .int .i64 p.pr, .int .i64 p.id, .int .i64 p.fr, .bool p.mo, .bool p.dn, .string p.op, .string p.da] 32))) (bel1 _ (.cells #[.int .i64 0, .int .i64 0, .slice none 0 0] 61))
  have hr0 := hr.later hl
  have hlt := hr.lt
  clear hr
  go_enter Try.func38, Try.ntmps38
  go_upto_region 1 with fail
  generalize ((w.alloc (.cells #[.int .i64 at_, .int .i64 tu, v] 61)).alloc (.cells #[.int .i64 p.f, .int .i64 p.t, .int .i64 p.tl, .int .i64 p.pr, .int .i64 p.id, .int .i64 p.fr, .bool p.mo, .bool p.dn, .string p.op, .string p.da] 32)).alloc (.cells #[.int .i64 0, .int .i64 0, .slice none 0 0] 61) = W0 at *
  have x2 := (hX.2 2 _ rfl).1
  have p5 := (hB.2 5 _ rfl).1
  go_wp2_with fail
  refine (search_any ps p.fr W0 v R hr0 (by omega) hk h.f0 h.f1 hs).mono ?_
  rintro e w1 ⟨⟨i, b, hi, rfl, hc⟩, l1⟩
  have hs1 : w.heap.size + 2 < w1.heap.size := Nat.lt_of_lt_of_le hZ.1 l1.size
  have HC : Hid (Cutp ps p.fr i i) := hc
  clear hc x2 p5
  replace hX := hX.later l1
  replace hB := hB.later l1
  replace hZ := hZ.later l1
  replace hl := bt hl l1
  have hr1 := hr0.later l1
  clear hr0 l1
  have x2 := (hX.2 2 _ rfl).1
  go_upto_region 2 with fail
  have hq := bel1 w1 (.cells #[.int .i64 p.f, .int .i64 p.t, .int .i64 p.tl, .int .i64 p.pr, .int .i64 p.id, .int .i64 p.fr, .bool p.mo, .bool p.dn, .string p.op, .string p.da] 32)
  have hV : (w1.alloc (.cells #[.int .i64 p.f, .int .i64 p.t, .int .i64 p.tl, .int .i64 p.pr, .int .i64 p.id, .int .i64 p.fr, .bool p.mo, .bool p.dn, .string p.op, .string p.da] 32)).heap[w1.heap.size]? = some (.cells #[.int .i64 p.f, .int .i64 p.t, .int .i64 p.tl, .int .i64 p.pr, .int .i64 p.id, .int .i64 p.fr, .bool p.mo, .bool p.dn, .string p.op, .string p.da] 32 (0, 0)) := heap_alloc_new w1 _
  have hne : ∀ k, v.ownBlock = some k → k ≠ w1.heap.size := fun k hk => by have := hr1.lt k hk; omega
  have hcon := insert_any ps p (w1.alloc (.cells #[.int .i64 p.f, .int .i64 p.t, .int .i64 p.tl, .int .i64 p.pr, .int .i64 p.id, .int .i64 p.fr, .bool p.mo, .bool p.dn, .string p.op, .string p.da] 32)) v R w1.heap.size i (hr1.later hq) hV hne (Nat.le_trans (Nat.le_trans hR hl.size) hq.size) (by omega) hi
  go_wp2_with (first | (refine wpList_load_at rfl 32 _ rfl _ (w.heap.size + 1) #[.int .i64 p.f, .int .i64 p.t, .int .i64 p.tl, .int .i64 p.pr, .int .i64 p.id, .int .i64 p.fr, .bool p.mo, .bool p.dn, .string p.op, .string p.da] _ rfl hB Try.underlying32 (by kernel_rfl) ?_) | fail)
  refine hcon.mono ?_
  rintro e w2 ⟨v', rfl, hr2, ht2, hloc⟩
  obtain ⟨a', c', rfl⟩ := hr2.shape
  generalize hm : (insL ps i p).length = m' at *
  clear hm
  clear hcon hV x2
  have hnX : ¬ (v.ownBlock = some w.heap.size) := fun e => by have := hlt _ e; omega
  have hnZ : ¬ (v.ownBlock = some (w.heap.size + 1 + 1)) := fun e => by have := hlt _ e; omega
  replace hX := (hX.later hq).turn ht2 hnX
  replace hZ := (hZ.later hq).turn ht2 hnZ
  have htt : Turn (fun k => v.ownBlock = some k) w w2 := (Turn.of_below (bt hl hq)).trans ht2
  have hlocs : ∀ k, (Value.slice a' m' c').ownBlock = some k → k ≠ w.heap.size ∧ k ≠ w.heap.size + 1 + 1 ∧ (v.ownBlock = some k ∨ w.heap.size ≤ k) := fun k hk => by
    rcases hloc with e | e
    · rw [e] at hk
      have := hlt k hk
      exact ⟨by omega, by omega, Or.inl hk⟩
    · rw [e, World.size_alloc] at hk
      injection hk with hk
      exact ⟨by omega, by omega, Or.inr (by omega)⟩
  have HL : Hid ((Value.slice a' m' c').ownBlock = v.ownBlock ∨ ∀ k, (Value.slice a' m' c').ownBlock = some k → w.heap.size ≤ k) := by
    rcases hloc with e | e
    · exact Or.inl e
    · refine Or.inr (fun k hk => ?_)
      rw [e, World.size_alloc] at hk
      injection hk with hk
      omega
  have hone : (#[.int .i64 at_, .int .i64 tu, (.slice a' m' c')] : Array Value).all (·.oneCell') = true := by simp [Value.oneCell']
  obtain ⟨f2a, f2b⟩ := hX.2 2 _ rfl
  have hX3 : At (w2.setCell ⟨w.heap.size, 2, none⟩ (.slice a' m' c')) w.heap.size #[.int .i64 at_, .int .i64 tu, (.slice a' m' c')] := hX.set 2 (.slice a' m' c')
  have ht3 := turn_set w2 w.heap.size 2 (.slice a' m' c')
  have hZ3 := hZ.turn ht3 (by omega)
  have hr3 := hr2.turn ht3 (fun k hk e => (hlocs k hk).1 e)
  have htt3 : Turn (fun k => v.ownBlock = some k) w (w2.setCell ⟨w.heap.size, 2, none⟩ (.slice a' m' c')) := htt.step ht3 (fun j hj => Or.inr (by omega))
  clear hX hZ hr2 htt ht2 hloc hlt hB hr1 hnX hnZ
  go_upto_region 3 with fail
  generalize w2.setCell ⟨w.heap.size, 2, none⟩ (.slice a' m' c') = w3 at *
  go_wp2_with (first | (refine wpList_load_at rfl 61 _ rfl _ w.heap.size #[.int .i64 at_, .int .i64 tu, (.slice a' m' c')] _ rfl hX3 Try.underlying61 infoX ?_) | (refine wpList_store_at rfl 61 _ _ rfl _ (w.heap.size + 1 + 1) #[.int .i64 0, .int .i64 0, .slice none 0 0] #[.int .i64 at_, .int .i64 tu, (.slice a' m' c')] rfl rfl hZ3 rfl infoX hone ?_; intro w4 hZ4 ht4))
  have r0 := (hZ4.2 0 _ rfl).1
  have r1 := (hZ4.2 1 _ rfl).1
  have r2 := (hZ4.2 2 _ rfl).1
  exact bodyPost_ret (v := .agg #[.int .i64 at_, .int .i64 tu, (.slice a' m' c')]) (by simp [results, Try.results38, go_sem, r0, r1, r2]) rfl ⟨_, i, rfl, hi, HC.out, hr3.turn ht4 (fun k hk e => (hlocs k hk).2.1 e), htt3.step ht4 (fun j hj => Or.inr (by omega)), HL.out⟩
end Go.Proofs.Ytcjhniehbafhpaa

namespace Go.Proofs.Ytcjhniehbafhpaa
open Go.RowKit Go.Maps
set_option maxRecDepth 100000
set_option linter.unusedVariables false
set_option linter.unusedSimpArgs false

def gapless : Int → List Pk → Bool
  | _, [] => true
  | a, q :: r => decide (q.st = a) && gapless q.en r
theorem gapless_cons (a : Int) (q : Pk) (r : List Pk) : gapless a (q :: r) = (decide (q.fr * 8 = a) && gapless (q.fr * 8 + (q.da.size : Int)) r) := rfl
def lastB (ps : List Pk) : Bool := match ps.getLast? with | some q => !q.mo | none => false
def completeB (ps : List Pk) : Bool := gapless 0 ps && lastB ps
theorem oneQ (q : Pk) : (#[.int .i64 q.f, .int .i64 q.t, .int .i64 q.tl, .int .i64 q.pr, .int .i64 q.id, .int .i64 q.fr, .bool q.mo, .bool q.dn, .string q.op, .string q.da] : Array Value).all (·.oneCell') = true := by simp [Value.oneCell']
set_option maxHeartbeats 4000000 in
theorem complete_any (ps : List Pk) (at_ tu : Int) (v : Value) (R : Nat) (w : World) (hr : RW w R v ps) (hn : ps.length < 100) (h0 : ps ≠ []) (hk : ∀ q ∈ ps, q.Fine) :
    Calls Try.prog 39 #[.agg #[.int .i64 at_, .int .i64 tu, v]] w fun e w' => e = .returned (.bool (completeB ps)) ∧ Below w.heap.size w w' := by
  have hX := At.box w #[.int .i64 at_, .int .i64 tu, v] 61
  have hl := bel1 w (.cells #[.int .i64 at_, .int .i64 tu, v] 61)
  have hr0 := hr.later hl
  obtain ⟨g, c, cur, rfl, -⟩ := hr.real h0
  have HK : Hid (∀ q ∈ ps, q.Fine) := hk
  have H0 : Hid (ps ≠ []) := h0
  clear hr hk h0
  go_enter Try.func39, Try.ntmps39
  go_upto_region 1 with fail
  generalize w.alloc (.cells #[.int .i64 at_, .int .i64 tu, .slice (some ⟨g, 0, none⟩) ps.length c] 61) = W0 at *
  have x2 := (hX.2 2 _ rfl).1
  go_wp2
  go_loopw [3, 9] (fun s3 s9 W => ∃ (j : Nat) (a : Int), j ≤ ps.length ∧ (0 ≤ a ∧ a ≤ 200000) ∧ s3 = .int .i64 a ∧ s9 = .int .i64 (j : Int) ∧ Below W0.heap.size W0 W ∧ Hid (gapless 0 ps = gapless a (ps.drop j))) (fun _ s9 _ => ps.length - (intOf s9).toNat)
  case atStart => exact ⟨0, 0, Nat.zero_le _, by decide, rfl, rfl, Below.refl _ _, rfl⟩
  case round =>
    obtain ⟨j, a, hj, ⟨ha0, ha1⟩, rfl, rfl, hb, HG⟩ := hrel
    by_cases hlt : j < ps.length
    · obtain ⟨q, he⟩ : ∃ q, ps[j]? = some q := ⟨_, List.getElem?_eq_getElem hlt⟩
      have hcl := (hr0.later hb).cells he
      have hrg : wr.rangeAt g (j * 10) [.int .i64 q.f, .int .i64 q.t, .int .i64 q.tl, .int .i64 q.pr, .int .i64 q.id, .int .i64 q.fr, .bool q.mo, .bool q.dn, .string q.op, .string q.da] := fun i u hu => hcl i u hu
      have hq := HK.out q (List.mem_of_getElem? he)
      have hdr : ps.drop j = q :: ps.drop (j + 1) := by
        obtain ⟨h1, h2⟩ := List.getElem?_eq_some_iff.1 he
        rw [← h2]
        exact List.drop_eq_getElem_cons h1
      have HD : Hid (ps.drop j = q :: ps.drop (j + 1)) := hdr
      have hlt' : (j : Int) < (ps.length : Int) := by omega
      have hone := oneQ q
      clear hcl he hdr x2
      go_upto_region 5 with (first
        | (refine wpList_load_mid rfl 32 _ rfl g (j * 10) (by first | rfl | simp) _ _ hrg Try.underlying32 rfl (by kernel_rfl) ?_)
        | (refine wpList_store_at rfl 32 _ _ rfl _ wr.heap.size #[.int .i64 0, .int .i64 0, .int .i64 0, .int .i64 0, .int .i64 0, .int .i64 0, .bool false, .bool false, .string ⟨#[]⟩, .string ⟨#[]⟩] #[.int .i64 q.f, .int .i64 q.t, .int .i64 q.tl, .int .i64 q.pr, .int .i64 q.id, .int .i64 q.fr, .bool q.mo, .bool q.dn, .string q.op, .string q.da] rfl rfl (At.box wr #[.int .i64 0, .int .i64 0, .int .i64 0, .int .i64 0, .int .i64 0, .int .i64 0, .bool false, .bool false, .string ⟨#[]⟩, .string ⟨#[]⟩] 32) rfl (by kernel_rfl) hone ?_; intro w1 hB1 ht1)
        | go_in)
      have q1 : Below wr.heap.size wr w1 := (bel1 wr (.cells #[.int .i64 0, .int .i64 0, .int .i64 0, .int .i64 0, .int .i64 0, .int .i64 0, .bool false, .bool false, .string ⟨#[]⟩, .string ⟨#[]⟩] 32)).trans (ht1.below (bel1 wr (.cells #[.int .i64 0, .int .i64 0, .int .i64 0, .int .i64 0, .int .i64 0, .int .i64 0, .bool false, .bool false, .string ⟨#[]⟩, .string ⟨#[]⟩] 32)).size (fun k hk e => by omega))
      replace hb := bt hb q1
      have q0 := hq.f0
      have q1' := hq.f1
      have q2 := hq.dl
      go_wp2_with (first | (refine wpList_load_at rfl 32 _ rfl _ wr.heap.size #[.int .i64 q.f, .int .i64 q.t, .int .i64 q.tl, .int .i64 q.pr, .int .i64 q.id, .int .i64 q.fr, .bool q.mo, .bool q.dn, .string q.op, .string q.da] _ rfl hB1 Try.underlying32 (by kernel_rfl) ?_) | fail)
      refine (start_any q _ hq).mono ?_
      rintro e w2 ⟨rfl, l2⟩
      by_cases hst : q.fr * 8 = a
      · have hst' : (q.fr * 8 != a) = false := by simp [hst]
        have HS : Hid (q.fr * 8 = a) := hst
        clear hst
        have hB2 := hB1.later l2
        go_wp2_with (first | (refine wpList_load_at rfl 32 _ rfl _ wr.heap.size #[.int .i64 q.f, .int .i64 q.t, .int .i64 q.tl, .int .i64 q.pr, .int .i64 q.id, .int .i64 q.fr, .bool q.mo, .bool q.dn, .string q.op, .string q.da] _ rfl hB2 Try.underlying32 (by kernel_rfl) ?_) | fail)
        refine (end_any q _ hq).mono ?_
        rintro e w3 ⟨rfl, l3⟩
        clear hrg hB1 hB2 hone q1 ht1
        go_wp2
        go_roundw
        case rel => exact ⟨j + 1, q.fr * 8 + (q.da.size : Int), by omega, by omega, rfl, by simp, bt (bt hb l2) l3, by have h1 := HG.out; rw [HD.out, gapless_cons, decide_eq_true HS.out, Bool.true_and] at h1; exact h1⟩
        case measure => simp [intOf]; omega
      · have hst' : (q.fr * 8 != a) = true := by simp [hst]
        have HS : Hid (¬ q.fr * 8 = a) := hst
        clear hst hrg hB1 hone q1 ht1
        go_wp2
        go_ret
        refine ⟨?_, bt hl (bt hb l2)⟩
        have h1 := HG.out
        rw [HD.out, gapless_cons, decide_eq_false HS.out, Bool.false_and] at h1
        unfold completeB
        rw [h1]
        rfl
    · have hje : j = ps.length := by omega
      subst hje
      have hl0 : 0 < ps.length := List.length_pos_iff.2 H0.out
      obtain ⟨q, he⟩ : ∃ q, ps[ps.length - 1]? = some q := ⟨_, List.getElem?_eq_getElem (by omega)⟩
      have hcl := ((hr0.later hb).cells he) 6 _ rfl
      have x2' := ((hX.later hb).2 2 _ rfl).1
      have HLq : Hid (lastB ps = !q.mo) := by
        show lastB ps = _
        unfold lastB
        rw [List.getLast?_eq_getElem?, he]
      have HG' : Hid (gapless 0 ps = true) := by
        have := HG.out
        rw [List.drop_length] at this
        exact this
      have hi0 : (0 : Int) ≤ (ps.length : Int) - 1 := by omega
      have hi1 : (ps.length : Int) - 1 < (ps.length : Int) := by omega
      have hi2 : ((ps.length : Int) - 1).toNat = ps.length - 1 := by omega
      clear x2 he
      go_wp2
      go_ret
      refine ⟨?_, bt hl hb⟩
      unfold completeB
      rw [HG'.out, HLq.out]
      rfl
end Go.Proofs.Ytcjhniehbafhpaa

namespace Go.Proofs.Ytcjhniehbafhpaa
open Go.Shelf Go.RowKit
set_option maxRecDepth 100000
set_option linter.unusedVariables false
set_option linter.unusedSimpArgs false

def Try.renB : Go.Shelf.Ren := ⟨fun | 166 => 57 | 240 => 74 | 276 => 81 | 169 => 58 | n => n, fun | 0 => 0 | 3 => 3 | 4 => 4 | 5 => 5 | 9 => 9 | 20 => 20 | 37 => 95 | 70 => 94 | 72 => 97 | 75 => 99 | 76 => 100 | 80 => 102 | 127 => 117 | 164 => 124 | n => n, fun n => n⟩
theorem Try.lays166 : Go.Proofs.Lays.n166 Try.prog Try.renB := {
  mixed := by kernel_rfl
  f166 := Try.func57.trans (congrArg some (by kernel_rfl))
  f240 := Try.func74.trans (congrArg some (by kernel_rfl))
  f276 := Try.func81.trans (congrArg some (by kernel_rfl))
  t0 := Try.underlying0
  a0 := Try.isAgg0
  z0 := Try.sizeOf0
  v0 := Try.zeroValue0
  t3 := Try.underlying3
  a3 := Try.isAgg3
  z3 := Try.sizeOf3
  v3 := Try.zeroValue3
  t4 := Try.underlying4
  a4 := Try.isAgg4
  z4 := Try.sizeOf4
  v4 := Try.zeroValue4
  t9 := Try.underlying9
  a9 := Try.isAgg9
  z9 := Try.sizeOf9
  v9 := Try.zeroValue9
  t20 := Try.underlying20
  a20 := Try.isAgg20
  z20 := Try.sizeOf20
  v20 := Try.zeroValue20
  t37 := Try.underlying95
  a37 := Try.isAgg95
  z37 := Try.sizeOf95
  v37 := Try.zeroValue95
  t70 := Try.underlying94
  a70 := Try.isAgg94
  z70 := Try.sizeOf94
  v70 := Try.zeroValue94
  t72 := Try.underlying97
  a72 := Try.isAgg97
  z72 := Try.sizeOf97
  v72 := Try.zeroValue97
  t75 := Try.underlying99
  a75 := Try.isAgg99
  z75 := Try.sizeOf99
  v75 := Try.zeroValue99
  t164 := Try.underlying124
  a164 := Try.isAgg124
  z164 := Try.sizeOf124
  v164 := Try.zeroValue124 }
theorem Try.lays169 : Go.Proofs.Lays.n169 Try.prog Try.renB := {
  mixed := by kernel_rfl
  f169 := Try.func58.trans (congrArg some (by kernel_rfl))
  t0 := Try.underlying0
  a0 := Try.isAgg0
  z0 := Try.sizeOf0
  v0 := Try.zeroValue0
  t3 := Try.underlying3
  a3 := Try.isAgg3
  z3 := Try.sizeOf3
  v3 := Try.zeroValue3
  t9 := Try.underlying9
  a9 := Try.isAgg9
  z9 := Try.sizeOf9
  v9 := Try.zeroValue9
  t37 := Try.underlying95
  a37 := Try.isAgg95
  z37 := Try.sizeOf95
  v37 := Try.zeroValue95
  t70 := Try.underlying94
  a70 := Try.isAgg94
  z70 := Try.sizeOf94
  v70 := Try.zeroValue94
  t72 := Try.underlying97
  a72 := Try.isAgg97
  z72 := Try.sizeOf97
  v72 := Try.zeroValue97
  t127 := Try.underlying117
  a127 := Try.isAgg117
  z127 := Try.sizeOf117
  v127 := Try.zeroValue117 }
theorem Try.extraB : Go.Proofs.Builder.Extra Try.prog Try.renB where
  sizeBuilder := by kernel_rfl
  liesBuilder := by kernel_rfl
  t5 := Try.underlying5
  a5 := Try.isAgg5
  z5 := Try.sizeOf5
  v5 := Try.zeroValue5
  infoByte := by kernel_rfl
  cellsByte := by kernel_rfl
  sizeByte := by kernel_rfl
  neB5 := by decide
theorem write_any (B b : Nat) (bs : List Value) (s : ByteArray) (w : World) (h : Lib.IsBuilderF 97 5 B b bs w) (hlen : bs.length + s.size ≤ 140737488355328) (hBw : B ≤ w.heap.size) :
    Calls Try.prog 57 #[.pointer (some ⟨b, 0, none⟩), .string s] w fun e w' => e = .returned (.tuple #[.int .i64 s.size, .nilIface]) ∧ Lib.IsBuilderF 97 5 B b (bs ++ Lib.strCells s) w' ∧ Below B w w' :=
  (Any.Builder_WriteString_k Try.lays166 Try.extraB B b bs s w h hlen hBw).mono (fun e w' ⟨h1, h2, h3, _⟩ => ⟨h1, Or.inr h2, h3⟩)
theorem string_any (B b : Nat) (l : List UInt8) (w : World) (h : Lib.IsBuilderF 97 5 B b (Lib.byteCells l) w) (hBw : B ≤ w.heap.size) :
    Calls Try.prog 58 #[.pointer (some ⟨b, 0, none⟩)] w fun e w' => e = .returned (.string ⟨l.toArray⟩) ∧ Below B w w' ∧ Lib.OthersKept 5 (some b) w w' :=
  (Any.Builder_String_any_k Try.lays169 Try.extraB B b l w h hBw).mono (fun e w' ⟨h1, _, h3, h4⟩ => ⟨h1, h3, h4⟩)
end Go.Proofs.Ytcjhniehbafhpaa

namespace Go.Proofs.Ytcjhniehbafhpaa
open Go.RowKit Go.Maps
set_option maxRecDepth 100000
set_option linter.unusedVariables false
set_option linter.unusedSimpArgs false

def catL (ps : List Pk) : List UInt8 := ps.flatMap (fun q => q.da.data.toList)
theorem isB_later {T e : TypeId} {B b : Nat} {bs : List Value} {w x : World} (h : Lib.IsBuilderF T e B b bs w) (hb : Below w.heap.size w x) : Lib.IsBuilderF T e B b bs x := by
  have go : ∀ p, Lib.BuilderAtF T e B b p bs w → Lib.BuilderAtF T e B b p bs x := fun p h => by
    obtain ⟨hB, v, hh, ⟨hl, hown⟩, hne⟩ := h
    refine ⟨hB, v, (hb.block b (Array.getElem?_eq_some_iff.1 hh).1).trans hh, ⟨hl, ?_⟩, hne⟩
    rcases hown with h | ⟨g, cap, cur, fz, e1, e2, e3, e4⟩
    · exact Or.inl h
    · exact Or.inr ⟨g, cap, cur, fz, e1, e2, (hb.block g (Array.getElem?_eq_some_iff.1 e3).1).trans e3, e4⟩
  rcases h with h | h
  · exact Or.inl (go _ h)
  · exact Or.inr (go _ h)
theorem cells_setCells (b : Nat) (t : TypeId) (f : Nat × Nat) : ∀ (vs : List Value) (o : Nat) (w : World) (c : Array Value), w.heap[b]? = some (.cells c t f) → ∃ c' : Array Value, c'.size = c.size ∧ (w.setCells b o vs).heap[b]? = some (.cells c' t f)
  | [], _, _, c, h => ⟨c, rfl, h⟩
  | v :: vs, o, w, c, h => by
    rw [World.setCells, setCell_eq_setRow w b o c t f v h]
    obtain ⟨c', h1, h2⟩ := cells_setCells b t f vs (o + 1) _ (c.setIfInBounds o v) (setRow_heap w b c _ t f h)
    exact ⟨c', by rw [h1]; simp, h2⟩
theorem box_form {W : World} {b : Nat} {c vs : Array Value} {t : TypeId} {f : Nat × Nat} (hA : At W b vs) (h : W.heap[b]? = some (.cells c t f)) (hs : c.size = vs.size) : W.heap[b]? = some (.cells vs t f) := by
  have : c = vs := by
    apply Array.ext hs
    intro i h1 h2
    have := (hA.2 i vs[i] (Array.getElem?_eq_getElem h2)).1
    simp [World.cell?, h] at this
    rw [Array.getElem?_eq_getElem h1] at this
    injection this
  rw [← this]
  exact h
theorem wpList_store_box {ops : Array Oper} {rest : List Oper} {op : Oper} {a : Act} {Q : Exit → Act → World → Prop} (hgd : op.guard = none) (ty : TypeId) (x y : Operand) (ho : op.op = .store ty x y) (w : World) (b : Nat) (old vs : Array Value) (t : TypeId) (hx : a.eval x = .pointer (some ⟨b, 0, none⟩)) (hy : a.eval y = .agg vs) (hA : At w b old) (hH : w.heap[b]? = some (.cells old t (0, 0))) (hzs : old.size = vs.size) (hi : (Try.prog.info? ty).map (·.size) = some vs.size) (h1 : vs.all (·.oneCell') = true)
    (h : ∀ w', At w' b vs → w'.heap[b]? = some (.cells vs t (0, 0)) → Turn (fun k => k = b) w w' → wpList Try.prog ops Q rest (a.put op.dst undef) w') : wpList Try.prog ops Q (op :: rest) a w := by
  refine wpList_store_mid hgd ty x y ho b 0 vs hx hy (by rw [← hzs]; exact at_there hA) hi h1 ?_
  obtain ⟨c', k1, k2⟩ := cells_setCells b t (0, 0) vs.toList 0 w old hH
  exact h _ (at_whole hA hzs) (box_form (at_whole hA hzs) k2 (by rw [k1]; exact hzs)) (turn_setCells b _ _ _)
theorem turn_ge {B : Nat} {w w' : World} (h : Below B w w') : Turn (fun k => B ≤ k) w w' := ⟨h.os, h.tape, h.output, h.size, fun k _ hs => h.block k (by omega)⟩
theorem catL_take {ps : List Pk} {j : Nat} {q : Pk} (he : ps[j]? = some q) : catL (ps.take (j + 1)) = catL (ps.take j) ++ q.da.data.toList := by
  unfold catL
  rw [List.take_add_one, he, List.flatMap_append]
  simp
set_option maxHeartbeats 4000000 in
theorem whole_any (ps : List Pk) (q0 : Pk) (at_ tu : Int) (v : Value) (R : Nat) (w : World) (hr : RW w R v ps) (hn : ps.length < 100) (h0 : ps[0]? = some q0) (hk : ∀ q ∈ ps, q.Fine) :
    Calls Try.prog 40 #[.agg #[.int .i64 at_, .int .i64 tu, v]] w fun e w' => e = .returned (.agg #[.int .i64 q0.f, .int .i64 q0.t, .int .i64 q0.tl, .int .i64 q0.pr, .int .i64 q0.id, .int .i64 q0.fr, .bool false, .bool q0.dn, .string q0.op, .string ⟨(catL ps).toArray⟩]) ∧ Below w.heap.size w w' := by
  have hne : ps ≠ [] := fun e => by rw [e] at h0; cases h0
  obtain ⟨g, c, cur, rfl, -⟩ := hr.real hne
  have hX := ((At.box w #[.int .i64 at_, .int .i64 tu, .slice (some ⟨g, 0, none⟩) ps.length c] 61).later (bel1 _ (.cells #[.int .i64 0, .int .i64 0, .int .i64 0, .int .i64 0, .int .i64 0, .int .i64 0, .bool false, .bool false, .string ⟨#[]⟩, .string ⟨#[]⟩] 32))).later (bel1 _ (.cells #[.pointer none, .slice none 0 0] 97))
  have hZ := (At.box2 w (.cells #[.int .i64 at_, .int .i64 tu, .slice (some ⟨g, 0, none⟩) ps.length c] 61) #[.int .i64 0, .int .i64 0, .int .i64 0, .int .i64 0, .int .i64 0, .int .i64 0, .bool false, .bool false, .string ⟨#[]⟩, .string ⟨#[]⟩] 32).later (bel1 _ (.cells #[.pointer none, .slice none 0 0] 97))
  have hl := bt (bt (bel1 w (.cells #[.int .i64 at_, .int .i64 tu, .slice (some ⟨g, 0, none⟩) ps.length c] 61)) (bel1 _ (.cells #[.int .i64 0, .int .i64 0, .int .i64 0, .int .i64 0, .int .i64 0, .int .i64 0, .bool false, .bool false, .string ⟨#[]⟩, .string ⟨#[]⟩] 32))) (bel1 _ (.cells #[.pointer none, .slice none 0 0] 97))
  have hB0 : Lib.IsBuilderF 97 5 (w.heap.size + 1 + 1) (w.heap.size + 1 + 1) (Lib.byteCells []) (((w.alloc (.cells #[.int .i64 at_, .int .i64 tu, .slice (some ⟨g, 0, none⟩) ps.length c] 61)).alloc (.cells #[.int .i64 0, .int .i64 0, .int .i64 0, .int .i64 0, .int .i64 0, .int .i64 0, .bool false, .bool false, .string ⟨#[]⟩, .string ⟨#[]⟩] 32)).alloc (.cells #[.pointer none, .slice none 0 0] 97)) := by
    have := Lib.IsBuilderF.of (Lib.fresh_isBuilder 97 5 ((w.alloc (.cells #[.int .i64 at_, .int .i64 tu, .slice (some ⟨g, 0, none⟩) ps.length c] 61)).alloc (.cells #[.int .i64 0, .int .i64 0, .int .i64 0, .int .i64 0, .int .i64 0, .int .i64 0, .bool false, .bool false, .string ⟨#[]⟩, .string ⟨#[]⟩] 32)))
    rw [World.size_alloc, World.size_alloc] at this
    exact this
  have hs0 : w.heap.size + 1 + 1 < (((w.alloc (.cells #[.int .i64 at_, .int .i64 tu, .slice (some ⟨g, 0, none⟩) ps.length c] 61)).alloc (.cells #[.int .i64 0, .int .i64 0, .int .i64 0, .int .i64 0, .int .i64 0, .int .i64 0, .bool false, .bool false, .string ⟨#[]⟩, .string ⟨#[]⟩] 32)).alloc (.cells #[.pointer none, .slice none 0 0] 97)).heap.size := by simp
  have hr0 := hr.later hl
  have hgl : g < w.heap.size := hr.lt g (by simp [Value.ownBlock])
  have HK : Hid (∀ q ∈ ps, q.Fine) := hk
  have H0 : Hid (ps[0]? = some q0) := h0
  clear hr hk h0 hne
  obtain ⟨B, hB⟩ : ∃ B, B = w.heap.size + 1 + 1 := ⟨_, rfl⟩
  rw [← hB] at hB0 hs0
  go_enter Try.func40, Try.ntmps40
  go_upto_region 2 with fail
  generalize ((w.alloc (.cells #[.int .i64 at_, .int .i64 tu, .slice (some ⟨g, 0, none⟩) ps.length c] 61)).alloc (.cells #[.int .i64 0, .int .i64 0, .int .i64 0, .int .i64 0, .int .i64 0, .int .i64 0, .bool false, .bool false, .string ⟨#[]⟩, .string ⟨#[]⟩] 32)).alloc (.cells #[.pointer none, .slice none 0 0] 97) = W0 at *
  rw [← hB]
  have hwB : w.heap.size + 1 < B := by omega
  clear hB
  have x2 := (hX.2 2 _ rfl).1
  go_wp2
  go_loopw [10] (fun s10 W => ∃ j : Nat, j ≤ ps.length ∧ s10 = .int .i64 (j : Int) ∧ Lib.IsBuilderF 97 5 B B (Lib.byteCells (catL (ps.take j))) W ∧ Below B W0 W ∧ (catL (ps.take j)).length ≤ 65535 * j) (fun s10 _ => ps.length - (intOf s10).toNat)
  case atStart => exact ⟨0, Nat.zero_le _, rfl, hB0, Below.refl _ _, Nat.le_refl _⟩
  case round =>
    clear hB0
    obtain ⟨j, hj, rfl, hB, hb, hln⟩ := hrel
    have hBw : B < wr.heap.size := Nat.lt_of_lt_of_le hs0 hb.size
    have hrw := hr0.turn (turn_ge hb) (fun k hk e => by simp [Value.ownBlock] at hk; omega)
    by_cases hlt : j < ps.length
    · obtain ⟨q, he⟩ : ∃ q, ps[j]? = some q := ⟨_, List.getElem?_eq_getElem hlt⟩
      have hrg : wr.rangeAt g (j * 10) [.int .i64 q.f, .int .i64 q.t, .int .i64 q.tl, .int .i64 q.pr, .int .i64 q.id, .int .i64 q.fr, .bool q.mo, .bool q.dn, .string q.op, .string q.da] := fun i u hu => hrw.cells he i u hu
      have hq := HK.out q (List.mem_of_getElem? he)
      have hcat := catL_take he
      have HCT : Hid (catL (ps.take (j + 1)) = catL (ps.take j) ++ q.da.data.toList) := hcat
      have hlt' : (j : Int) < (ps.length : Int) := by omega
      have hone := oneQ q
      have hdl := hq.dl
      clear he hcat x2
      go_upto_region 5 with (first
        | (refine wpList_load_mid rfl 32 _ rfl g (j * 10) (by first | rfl | simp) _ _ hrg Try.underlying32 rfl (by kernel_rfl) ?_)
        | (refine wpList_store_at rfl 32 _ _ rfl _ wr.heap.size #[.int .i64 0, .int .i64 0, .int .i64 0, .int .i64 0, .int .i64 0, .int .i64 0, .bool false, .bool false, .string ⟨#[]⟩, .string ⟨#[]⟩] #[.int .i64 q.f, .int .i64 q.t, .int .i64 q.tl, .int .i64 q.pr, .int .i64 q.id, .int .i64 q.fr, .bool q.mo, .bool q.dn, .string q.op, .string q.da] rfl rfl (At.box wr #[.int .i64 0, .int .i64 0, .int .i64 0, .int .i64 0, .int .i64 0, .int .i64 0, .bool false, .bool false, .string ⟨#[]⟩, .string ⟨#[]⟩] 32) rfl (by kernel_rfl) hone ?_; intro w1 hB1 ht1)
        | go_in)
      have q1 : Below wr.heap.size wr w1 := (bel1 wr (.cells #[.int .i64 0, .int .i64 0, .int .i64 0, .int .i64 0, .int .i64 0, .int .i64 0, .bool false, .bool false, .string ⟨#[]⟩, .string ⟨#[]⟩] 32)).trans (ht1.below (bel1 wr (.cells #[.int .i64 0, .int .i64 0, .int .i64 0, .int .i64 0, .int .i64 0, .int .i64 0, .bool false, .bool false, .string ⟨#[]⟩, .string ⟨#[]⟩] 32)).size (fun k hk e => by omega))
      have r9 := (hB1.2 9 _ rfl).1
      have hB2 := isB_later hB q1
      have hbl : (Lib.byteCells (catL (ps.take j))).length + q.da.size ≤ 140737488355328 := by rw [Lib.byteCells_length]; omega
      have hcon := write_any B B (Lib.byteCells (catL (ps.take j))) q.da w1 hB2 hbl (by have := q1.size; omega)
      clear hrg hone ht1 hB1 hB hB2 hrw
      go_wp2_with fail
      refine hcon.mono ?_
      rintro e w2 ⟨rfl, hB3, l2⟩
      clear hcon r9
      go_wp2
      go_roundw
      case rel => exact ⟨j + 1, by omega, by simp, by rw [HCT.out, Lib.byteCells_append, ← Lib.strCells_eq]; exact hB3, (hb.trans (q1.mono (by omega))).trans l2, by rw [HCT.out, List.length_append, ← Lib.size_eq]; omega⟩
      case measure => simp [intOf]; omega
    · have hje : j = ps.length := by omega
      subst hje
      have hrg : wr.rangeAt g 0 [.int .i64 q0.f, .int .i64 q0.t, .int .i64 q0.tl, .int .i64 q0.pr, .int .i64 q0.id, .int .i64 q0.fr, .bool q0.mo, .bool q0.dn, .string q0.op, .string q0.da] := fun i u hu => by have := hrw.cells H0.out i u hu; rwa [Nat.zero_mul] at this
      have x2' := ((hX.turn (turn_ge hb) (by omega)).2 2 _ rfl).1
      have hone := oneQ q0
      have hl0 : (0 : Int) < (ps.length : Int) := by have := (List.getElem?_eq_some_iff.1 H0.out).1; omega
      rw [List.take_length] at hB
      clear x2
      go_upto_region 8 with (first
        | (refine wpList_load_mid rfl 32 _ rfl g 0 (by first | rfl | simp) _ _ hrg Try.underlying32 rfl (by kernel_rfl) ?_)
        | (refine wpList_store_box rfl 32 _ _ rfl _ wr.heap.size #[.int .i64 0, .int .i64 0, .int .i64 0, .int .i64 0, .int .i64 0, .int .i64 0, .bool false, .bool false, .string ⟨#[]⟩, .string ⟨#[]⟩] #[.int .i64 q0.f, .int .i64 q0.t, .int .i64 q0.tl, .int .i64 q0.pr, .int .i64 q0.id, .int .i64 q0.fr, .bool q0.mo, .bool q0.dn, .string q0.op, .string q0.da] 32 rfl rfl (At.box wr #[.int .i64 0, .int .i64 0, .int .i64 0, .int .i64 0, .int .i64 0, .int .i64 0, .bool false, .bool false, .string ⟨#[]⟩, .string ⟨#[]⟩] 32) (heap_alloc_new wr _) rfl (by kernel_rfl) hone ?_; intro w1 hB1 hH1 ht1)
        | go_in)
      have q1 : Below wr.heap.size wr w1 := (bel1 wr (.cells #[.int .i64 0, .int .i64 0, .int .i64 0, .int .i64 0, .int .i64 0, .int .i64 0, .bool false, .bool false, .string ⟨#[]⟩, .string ⟨#[]⟩] 32)).trans (ht1.below (bel1 wr (.cells #[.int .i64 0, .int .i64 0, .int .i64 0, .int .i64 0, .int .i64 0, .int .i64 0, .bool false, .bool false, .string ⟨#[]⟩, .string ⟨#[]⟩] 32)).size (fun k hk e => by omega))
      have hcon := string_any B B (catL ps) w1 (isB_later hB q1) (by have := q1.size; omega)
      clear hrg hone hB hrw
      go_wp2_with fail
      refine hcon.mono ?_
      rintro e w2 ⟨rfl, l2, hok⟩
      have hH2 := hok _ _ hH1 (by intro e; injection e with e; omega) (fun c fz e => by injection e with e1 e2; exact absurd e2 (by decide))
      have hA2 : At w2 wr.heap.size #[.int .i64 q0.f, .int .i64 q0.t, .int .i64 q0.tl, .int .i64 q0.pr, .int .i64 q0.id, .int .i64 q0.fr, .bool q0.mo, .bool q0.dn, .string q0.op, .string q0.da] := by
        refine ⟨(Array.getElem?_eq_some_iff.1 hH2).1, fun i u hu => ⟨?_, ?_⟩⟩
        · simp [World.cell?, hH2]; simpa using hu
        · simp [World.frozen?, hH2]
      have hbb : Below B W0 w2 := (hb.trans (q1.mono (by omega))).trans l2
      have hZ2 := hZ.turn (turn_ge hbb) (by omega)
      obtain ⟨a6, b6⟩ : w2.cell? ⟨wr.heap.size, 6, none⟩ = some (.bool q0.mo) ∧ w2.frozen? ⟨wr.heap.size, 6, none⟩ = false := hA2.2 6 _ rfl
      have hA3 := hA2.set 6 (.bool false)
      obtain ⟨a9, b9⟩ : (w2.setCell ⟨wr.heap.size, 6, none⟩ (.bool false)).cell? ⟨wr.heap.size, 9, none⟩ = some (.string q0.da) ∧ (w2.setCell ⟨wr.heap.size, 6, none⟩ (.bool false)).frozen? ⟨wr.heap.size, 9, none⟩ = false := hA3.2 9 _ rfl
      have hA4 : At ((w2.setCell ⟨wr.heap.size, 6, none⟩ (.bool false)).setCell ⟨wr.heap.size, 9, none⟩ (.string ⟨(catL ps).toArray⟩)) wr.heap.size #[.int .i64 q0.f, .int .i64 q0.t, .int .i64 q0.tl, .int .i64 q0.pr, .int .i64 q0.id, .int .i64 q0.fr, .bool false, .bool q0.dn, .string q0.op, .string ⟨(catL ps).toArray⟩] := hA3.set 9 (.string ⟨(catL ps).toArray⟩)
      have t3 := (turn_set w2 wr.heap.size 6 (.bool false)).trans (turn_set (w2.setCell ⟨wr.heap.size, 6, none⟩ (.bool false)) wr.heap.size 9 (.string ⟨(catL ps).toArray⟩))
      have hZ4 := hZ2.turn t3 (by omega)
      have hb4 : Below w.heap.size w ((w2.setCell ⟨wr.heap.size, 6, none⟩ (.bool false)).setCell ⟨wr.heap.size, 9, none⟩ (.string ⟨(catL ps).toArray⟩)) := (hl.trans (hbb.mono (by omega))).trans (t3.below (by have := hl.size; have := hbb.size; omega) (fun k hk e => by have := hb.size; omega))
      clear hcon hA2 hA3 hZ2 hbb hH2 hok l2 hH1 hB1 ht1 q1 x2' t3
      go_upto_region 9 with fail
      generalize (w2.setCell ⟨wr.heap.size, 6, none⟩ (.bool false)).setCell ⟨wr.heap.size, 9, none⟩ (.string ⟨(catL ps).toArray⟩) = w4 at *
      have hone2 : (#[.int .i64 q0.f, .int .i64 q0.t, .int .i64 q0.tl, .int .i64 q0.pr, .int .i64 q0.id, .int .i64 q0.fr, .bool false, .bool q0.dn, .string q0.op, .string ⟨(catL ps).toArray⟩] : Array Value).all (·.oneCell') = true := by simp [Value.oneCell']
      go_wp2_with (first
        | (refine wpList_load_at rfl 32 _ rfl _ wr.heap.size #[.int .i64 q0.f, .int .i64 q0.t, .int .i64 q0.tl, .int .i64 q0.pr, .int .i64 q0.id, .int .i64 q0.fr, .bool false, .bool q0.dn, .string q0.op, .string ⟨(catL ps).toArray⟩] _ rfl hA4 Try.underlying32 (by kernel_rfl) ?_)
        | (refine wpList_store_at rfl 32 _ _ rfl _ (w.heap.size + 1) #[.int .i64 0, .int .i64 0, .int .i64 0, .int .i64 0, .int .i64 0, .int .i64 0, .bool false, .bool false, .string ⟨#[]⟩, .string ⟨#[]⟩] #[.int .i64 q0.f, .int .i64 q0.t, .int .i64 q0.tl, .int .i64 q0.pr, .int .i64 q0.id, .int .i64 q0.fr, .bool false, .bool q0.dn, .string q0.op, .string ⟨(catL ps).toArray⟩] rfl rfl hZ4 rfl (by kernel_rfl) hone2 ?_; intro w5 hZ5 ht5))
      have r0 := (hZ5.2 0 _ rfl).1
      have r1 := (hZ5.2 1 _ rfl).1
      have r2 := (hZ5.2 2 _ rfl).1
      have r3 := (hZ5.2 3 _ rfl).1
      have r4 := (hZ5.2 4 _ rfl).1
      have r5 := (hZ5.2 5 _ rfl).1
      have r6 := (hZ5.2 6 _ rfl).1
      have r7 := (hZ5.2 7 _ rfl).1
      have r8 := (hZ5.2 8 _ rfl).1
      have r9 := (hZ5.2 9 _ rfl).1
      exact bodyPost_ret (v := .agg #[.int .i64 q0.f, .int .i64 q0.t, .int .i64 q0.tl, .int .i64 q0.pr, .int .i64 q0.id, .int .i64 q0.fr, .bool false, .bool q0.dn, .string q0.op, .string ⟨(catL ps).toArray⟩]) (by simp [results, Try.results40, go_sem, r0, r1, r2, r3, r4, r5, r6, r7, r8, r9]) rfl ⟨rfl, hb4.trans (ht5.below hb4.size (fun k hk e => by omega))⟩
end Go.Proofs.Ytcjhniehbafhpaa

namespace Go.Proofs.Ytcjhniehbafhpaa
open Go.RowKit Go.Maps
set_option maxRecDepth 100000
set_option linter.unusedVariables false
set_option linter.unusedSimpArgs false

structure Pile where
  m : Mk
  at_ : Int
  tu : Int
  v : Value
  ps : List Pk
def Pile.en (x : Pile) : En := (x.m, .agg #[.int .i64 x.at_, .int .i64 x.tu, x.v])
structure Pile.Ok (w : World) (R : Nat) (x : Pile) : Prop where
  row : RW w R x.v x.ps
  fine : ∀ q ∈ x.ps, q.Fine
  rise : x.ps.Pairwise (fun a b => a.fr ≤ b.fr)
  len : x.ps.length ≤ 64
def apart (x y : Pile) : Prop := ∀ k, x.v.ownBlock = some k → y.v.ownBlock ≠ some k
structure BX (w : World) (R B M : Nat) (ro pa la tu : Int) (l : List Pile) : Prop where
  box : At w B #[.int .i64 ro, .int .i64 pa, .int .i64 la, .int .i64 tu, .map (some M)]
  map : GM w M (l.map Pile.en)
  ok : ∀ x ∈ l, x.Ok w R
  far : l.Pairwise apart
  bR : B < R
  mR : M < R
  rw' : R ≤ w.heap.size
  ne : B ≠ M
def FL (B M : Nat) (l : List Pile) (k : Nat) : Prop := k = B ∨ k = M ∨ ∃ x ∈ l, x.v.ownBlock = some k
theorem apart_symm {x y : Pile} (h : apart x y) : apart y x := fun k hy hx => h k hx hy
theorem Pile.Ok.turn {S : Nat → Prop} {w w' : World} {R : Nat} {x : Pile} (h : x.Ok w R) (ht : Turn S w w') (hS : ∀ k, x.v.ownBlock = some k → ¬ S k) : x.Ok w' R := ⟨h.row.turn ht hS, h.fine, h.rise, h.len⟩
theorem BX.later {w w' : World} {R B M : Nat} {ro pa la tu : Int} {l : List Pile} (h : BX w R B M ro pa la tu l) (hb : Below w.heap.size w w') : BX w' R B M ro pa la tu l :=
  ⟨h.box.later hb, h.map.later hb, fun x hx => (h.ok x hx).turn (S := fun _ => False) (Turn.of_below hb) (fun _ _ h => h), h.far, h.bR, h.mR, Nat.le_trans h.rw' hb.size, h.ne⟩
theorem BX.turn {S : Nat → Prop} {w w' : World} {R B M : Nat} {ro pa la tu : Int} {l : List Pile} (h : BX w R B M ro pa la tu l) (ht : Turn S w w') (hB : ¬ S B) (hM : ¬ S M) (hS : ∀ x ∈ l, ∀ k, x.v.ownBlock = some k → ¬ S k) : BX w' R B M ro pa la tu l :=
  ⟨h.box.turn ht hB, h.map.turn ht hM, fun x hx => (h.ok x hx).turn ht (hS x hx), h.far, h.bR, h.mR, Nat.le_trans h.rw' ht.size, h.ne⟩
def mk (p : Pk) : Mk := ⟨p.f, p.t, p.pr, p.id⟩
theorem new_t (ro pa : Int) (w : World) (h1 : 1 ≤ ro) (h2 : ro ≤ 64) (h3 : 1 ≤ pa) (h4 : pa ≤ 1048576) :
    Calls Try.prog 7 #[.int .i64 ro, .int .i64 pa] w fun e w' => e = .returned (.tuple #[.pointer (some ⟨w.heap.size + 1, 0, none⟩), .int .i64 0]) ∧ At w' (w.heap.size + 1) #[.int .i64 ro, .int .i64 pa, .int .i64 0, .int .i64 0, .map (some w.heap.size)] ∧ GM w' w.heap.size [] ∧ Below w.heap.size w w' := by
  have hmm := @run_makeMap Try.prog
  have n1 : ¬ ro < 1 := by omega
  have n2 : ¬ 64 < ro := by omega
  have n3 : ¬ pa < 1 := by omega
  have n4 : ¬ 1048576 < pa := by omega
  have hA := At.box2 w (.map #[] 0) #[.int .i64 ro, .int .i64 pa, .int .i64 0, .int .i64 0, .map (some w.heap.size)] 56
  have hG := (GM.made w).later (bel1 _ (.cells #[.int .i64 ro, .int .i64 pa, .int .i64 0, .int .i64 0, .map (some w.heap.size)] 56))
  have hl := bt (bel1 w (.map #[] 0)) (bel1 _ (.cells #[.int .i64 ro, .int .i64 pa, .int .i64 0, .int .i64 0, .map (some w.heap.size)] 56))
  go_enter Try.func7, Try.ntmps7
  go_wp2
  go_ret2
  exact ⟨rfl, hA, hG, hl⟩
theorem len_any {w : World} {R B M : Nat} {ro pa la tu : Int} {l : List Pile} (h : BX w R B M ro pa la tu l) : Calls Try.prog 15 #[.pointer (some ⟨B, 0, none⟩)] w fun e w' => e = .returned (.int .i64 (l.length : Int)) ∧ w' = w := by
  have c4 := (h.box.2 4 _ rfl).1
  have hln := h.map.len 3
  rw [List.length_map] at hln
  go_enter Try.func15, Try.ntmps15
  go_wp2
  go_ret
  exact ⟨rfl, rfl⟩
theorem move_any {w : World} {R B M : Nat} {ro pa la tu : Int} {l : List Pile} (h : BX w R B M ro pa la tu l) (now : Int) (h1 : la ≤ now) (h2 : now ≤ 1099511627776) :
    Calls Try.prog 18 #[.pointer (some ⟨B, 0, none⟩), .int .i64 now] w fun e w' => e = .returned (.bool true) ∧ BX w' R B M ro pa now tu l ∧ Turn (fun k => k = B) w w' := by
  obtain ⟨c2, f2⟩ := h.box.2 2 _ rfl
  have n1 : ¬ now < la := by omega
  have n2 : ¬ 1099511627776 < now := by omega
  have ht := turn_set w B 2 (.int .i64 now)
  have hA : At (w.setCell ⟨B, 2, none⟩ (.int .i64 now)) B #[.int .i64 ro, .int .i64 pa, .int .i64 now, .int .i64 tu, .map (some M)] := h.box.set 2 (.int .i64 now)
  have HF : Hid (BX (w.setCell ⟨B, 2, none⟩ (.int .i64 now)) R B M ro pa now tu l ∧ Turn (fun k => k = B) w (w.setCell ⟨B, 2, none⟩ (.int .i64 now))) :=
    ⟨⟨hA, h.map.turn ht (fun e => h.ne e.symm), fun x hx => (h.ok x hx).turn ht (fun k hk e => by have := (h.ok x hx).row.ge k hk; have := h.bR; omega), h.far, h.bR, h.mR, Nat.le_trans h.rw' ht.size, h.ne⟩, ht⟩
  clear h ht hA
  go_enter Try.func18, Try.ntmps18
  go_wp2
  go_ret
  exact ⟨rfl, HF.out⟩
end Go.Proofs.Ytcjhniehbafhpaa
