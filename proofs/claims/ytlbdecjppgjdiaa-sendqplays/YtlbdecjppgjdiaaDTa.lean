/- Rows of bools; the document's queue. -/
import Derived.Test.YtlbdecjppgjdiaaDQc
import Derived.Lib.AppendZerosOnto
import Derived.Laws.OwnMore
import Derived.Maps.AppendAt
namespace Go.Proofs.Ytlbdecjppgjdiaa
open Go.RowKit Go.Maps Go.Lib
set_option maxRecDepth 100000
set_option linter.unusedVariables false
set_option linter.unusedSimpArgs false


def GO (w : World) (base : Bk) (v : Value) (G : List Bool) : Prop := OwnP w base 4 1 v G.length (G.map Value.bool)
theorem GO.nil (w : World) (base : Bk) : GO w base (.slice none 0 0) [] := OwnP.nil _ _ _ _
theorem info4 : (Try.prog.info? 4).map (fun i => (i.zero, i.size, i.bytes)) = some (some (.bool false), 1, 1) := by kernel_rfl
theorem bool_one (G : List Bool) : ∀ u ∈ G.map Value.bool, u.oneCell' = true := fun u hu => by obtain ⟨b, -, rfl⟩ := List.mem_map.1 hu; rfl
theorem GO.shape {w : World} {base : Bk} {v : Value} {G : List Bool} (h : GO w base v G) : ∃ a c, v = .slice a G.length c ∧ (a = none → G = []) ∧ G.length ≤ c ∧ (a = none → c = 0) := by
  rcases h.2 with ⟨rfl, h0⟩ | ⟨g, cap, cur, rfl, hg, hb, h1, h2⟩
  · rw [h0]; exact ⟨none, 0, rfl, fun _ => List.length_eq_zero_iff.1 h0, Nat.le_refl _, fun _ => rfl⟩
  · exact ⟨some ⟨g, 0, none⟩, cap, rfl, (fun e => by cases e), h1, (fun e => by cases e)⟩
theorem GO.real {w : World} {base : Bk} {v : Value} {G : List Bool} (h : GO w base v G) (hn : G ≠ []) : ∃ g c, v = .slice (some ⟨g, 0, none⟩) G.length c ∧ base g ∧ G.length ≤ c ∧ ∀ j b, G[j]? = some b → w.cell? ⟨g, j, none⟩ = some (.bool b) ∧ w.frozen? ⟨g, j, none⟩ = false := by
  rcases h.2 with ⟨-, h0⟩ | ⟨g, cap, cur, rfl, hg, hb, h1, h2, h3, h4⟩
  · exact absurd (List.length_eq_zero_iff.1 h0) hn
  · refine ⟨g, cap, rfl, hg, h1, fun j b hj => ⟨?_, ?_⟩⟩
    · have := h.cells (g := g) rfl j (.bool b) (by rw [List.getElem?_map, hj]; rfl)
      rw [Addr.add_mid] at this
      simpa using this
    · simp [World.frozen?, hb]
theorem GO.cell {w : World} {base : Bk} {g n c : Nat} {G : List Bool} (h : GO w base (.slice (some ⟨g, 0, none⟩) n c) G) {j : Nat} {b : Bool} (hj : G[j]? = some b) : w.cell? ⟨g, j, none⟩ = some (.bool b) := by
  have := h.cells (g := g) rfl j (.bool b) (by rw [List.getElem?_map, hj]; rfl)
  rw [Addr.add_mid] at this
  simpa using this
/-- A slice of bools that is read. -/
def GRd (w : World) (v : Value) (G : List Bool) : Prop := ∃ a c, v = .slice a G.length c ∧ (a = none → c = 0) ∧ ∀ j b, G[j]? = some b → ∃ x, a = some x ∧ w.cell? (x.add j) = some (.bool b)
theorem GO.rd {w : World} {base : Bk} {v : Value} {G : List Bool} (h : GO w base v G) : GRd w v G := by
  obtain ⟨a, c, rfl, h0, h1, h2⟩ := h.shape
  refine ⟨a, c, rfl, h2, fun j b hj => ?_⟩
  rcases h.2 with ⟨e, e0⟩ | ⟨g, cap, cur, hv, -⟩
  · rw [List.length_eq_zero_iff.1 e0] at hj; cases hj
  · cases hv
    refine ⟨_, rfl, ?_⟩
    rw [Addr.add_mid, Nat.zero_add]
    exact h.cell hj
/-- append([]bool{}, l...). -/
theorem clone_run {w : World} {v : Value} {G : List Bool} (hr : GRd (w.alloc (.cells #[] 4)) v G) (hl : G.length ≤ 100000) (ty : TypeId) :
    ∃ v' w', (Builtin.append_ #[43, 43] ty #[.slice (some ⟨w.heap.size, 0, none⟩) 0 0, v]).run Try.prog (w.alloc (.cells #[] 4)) = .ok v' w' ∧ GO w' (fun k => w.heap.size ≤ k) v' G ∧ Below w.heap.size w w' ∧ v' ≠ .slice none 0 0 := by
  obtain ⟨i0, hi, hz0, hz1, hz2⟩ := info_parts info4
  have hown : (w.alloc (.cells #[] 4)).ownsRow w.heap.size 4 1 (.slice (some ⟨w.heap.size, 0, none⟩) 0 0) 0 [] := World.ownsRow_made w #[] 0 (Nat.le_refl _) (Nat.zero_le _) rfl
  obtain ⟨a, c, rfl, h0, h1⟩ := hr
  cases a with
  | none =>
    obtain rfl := h0 rfl
    have hG : G = [] := by
      cases G with
      | nil => rfl
      | cons b r => obtain ⟨x, hx, -⟩ := h1 0 b rfl; cases hx
    subst hG
    exact ⟨_, _, run_append_owned_none (P := Try.prog) (w := w.alloc (.cells #[] 4)) w.heap.size 43 ty 4 i0 1 Try.underlying43 hi _ 0 [] hown, OwnP.of_ge hown (fun k h => h), bel1 _ _, (fun e => by cases e)⟩
  | some x =>
    obtain ⟨v', w', e1, e2, e3, e4, -⟩ := run_append_own_at (P := Try.prog) (w.alloc (.cells #[] 4)) w.heap.size 43 ty 4 i0 _ 1 1 Try.underlying43 hi hz0 hz1 hz2 rfl (by decide) _ 0 [] hown x G.length c (G.map Value.bool) (by rw [List.length_map, Nat.mul_one]) (fun j u hu => by
      rw [List.getElem?_map] at hu
      obtain ⟨b, hb, rfl⟩ := Option.map_eq_some_iff.1 hu
      obtain ⟨y, hy, hc⟩ := h1 j b hb
      cases hy
      exact hc) (bool_one G) (by unfold maxLen; omega) (by omega) (by simp)
    refine ⟨v', w', e1, ?_, ((Below.refl _ w).alloc (Nat.le_refl _) _).grown e3 (by simp) (by intro k hk; simp [Value.ownBlock] at hk; omega), fun e => by have := (e4.1 e).1; cases this⟩
    rw [Nat.zero_add, List.nil_append] at e2
    exact OwnP.of_ge e2 (fun k h => h)
theorem zeros_is (m : Nat) : (Builtin.zeroCells (Value.bool false).cells m).toList = (List.replicate m false).map Value.bool := by
  show ((Array.range (m * 1)).map fun i => (#[Value.bool false] : Array Value)[i % 1]!).toList = _
  rw [Nat.mul_one, List.map_replicate]
  apply List.ext_getElem
  · simp
  · intro i h1 h2
    simp [Nat.mod_one]
/-- append(l, make([]bool, m)...). -/
theorem zeros_run {w : World} {B : Bk} {v : Value} {G : List Bool} (h : GO w B v G) (hB : UpR B w) (m : Nat) (hm : m ≤ 100000) (hl : G.length ≤ 100000) (hnn : v ≠ .slice none 0 0) (ty : TypeId) :
    ∃ v' w', (Builtin.append_ #[43, 3] ty #[v, .int .i64 (m : Int)]).run Try.prog w = .ok v' w' ∧ GO w' B v' (G ++ List.replicate m false) ∧ w.grownBy w' v.ownBlock := by
  obtain ⟨i0, hi, hz0, hz1, hz2⟩ := info_parts info4
  rcases h.2 with ⟨e, -⟩ | ⟨g, cap, cur, rfl, hg, hb, h1, h2, h3, h4⟩
  · exact absurd e hnn
  rw [Nat.mul_one] at h3 h4
  have hw : IntKind.i64.wrap (m : Int) = m := by rw [IntKind.wrap_i64]; omega
  have h48i : ¬ (281474976710656 < (m : Int)) := by omega
  have hlen : (G ++ List.replicate m false).length = G.length + m := by simp
  by_cases hroom : G.length + m ≤ cap
  · have hzl : (Builtin.zeroCells (Value.bool false).cells m).toList.length = m := by rw [zeros_is]; simp
    have hst := run_storeCells_at Try.prog g G.length 4 (Builtin.zeroCells (Value.bool false).cells m).toList 0 cur w hb (by rw [hzl, h3]; omega) (by rw [zeros_is]; exact bool_one _)
    rw [hzl, Nat.add_zero] at hst
    refine ⟨.slice (some ⟨g, 0, none⟩) (G.length + m) cap, w.setRow g (cur.toList.take G.length ++ (Builtin.zeroCells (Value.bool false).cells m).toList ++ cur.toList.drop (G.length + m)).toArray, ?_, ?_, ⟨rfl, rfl, rfl, by simp, fun k _ hk => setRow_other w g k _ (fun e => hk (by rw [e]; rfl))⟩⟩
    · rcases Nat.eq_zero_or_pos m with rfl | hm0
      · have e0 : (cur.toList.take G.length ++ (Builtin.zeroCells (Value.bool false).cells 0).toList ++ cur.toList.drop (G.length + 0)).toArray = cur := by simp [Builtin.zeroCells]
        rw [e0, setRow_self w g cur 4 (0, 0) hb]
        simp [Builtin.append_, run_underlying Try.underlying43, run_underlying Try.underlying3, sizeOf, typeInfo, zeroValue, hi, hz0, hz1, hz2, asInt, asIntOf, IntKind.wrap_i64, h1, storeCells]
      · have hm1 : m ≠ 0 := by omega
        have hadd : (⟨g, 0, none⟩ : Addr).add G.length = ⟨g, G.length, none⟩ := by rw [Addr.add_mid, Nat.zero_add]
        have hneg : ¬ ((m : Int) < 0) := by omega
        simp [Builtin.append_, run_underlying Try.underlying43, run_underlying Try.underlying3, sizeOf, typeInfo, zeroValue, hi, hz0, hz1, hz2, asInt, asIntOf, hw, hneg, hm1, h48i, hroom, hst, hadd]
    · have hcl : (cur.toList.take G.length).length = G.length := by rw [List.length_take, Array.length_toList (xs := cur), h3]; exact Nat.min_eq_left h1
      refine ⟨by rw [List.length_map, Nat.mul_one], Or.inr ⟨g, cap, _, by rw [hlen], hg, setRow_heap w g cur _ 4 (0, 0) hb, by rw [hlen]; exact hroom, h2, ?_, ?_⟩⟩
      · simp [hzl, h3]; omega
      · rw [hlen, Nat.mul_one]
        show List.take _ (cur.toList.take G.length ++ _ ++ _) = _
        rw [List.take_append_of_le_length (by rw [List.length_append, hcl, hzl]; omega), List.take_of_length_le (by rw [List.length_append, hcl, hzl]; omega), h4, zeros_is, List.map_append]
  · have hm0 : 0 < m := by omega
    have hold : (Builtin.firstCells i0.size G.length (.slice (some ⟨g, 0, none⟩) G.length cap)).run Try.prog w.drew = .ok (G.map Value.bool).toArray w.drew := by
      rw [hz1]
      exact run_firstCells_some w.drew 1 G.length ⟨g, 0, none⟩ G.length cap (G.map Value.bool) (by rw [List.length_map, Nat.mul_one]) (fun j u hu => by
        rw [Addr.add_mid, Nat.zero_add]
        rw [List.getElem?_map] at hu
        obtain ⟨b, hb', rfl⟩ := Option.map_eq_some_iff.1 hu
        exact h.cell hb')
    have hgn := grownCap_ge w (G.length + m) cap 4
    have hgm := grownCap_le_maxLen w (G.length + m) cap 4 (by unfold maxLen; omega)
    have hrun := Lib.run_append_grow_zeros w 43 3 ty 4 i0 _ .i64 .i64 Try.underlying43 Try.underlying3 hi hz0 (some ⟨g, 0, none⟩) G.length cap (G.map Value.bool) hold m hm0 (by rw [hz1]; decide) (by omega) (by omega) (by rw [hz2]; omega) (by rw [hz2, Nat.mul_one]; have := growslice_fits (need := G.length + m) (old := cap) (bytes := 1) (by omega) (by omega); omega)
    refine ⟨_, _, hrun, ?_, ⟨rfl, rfl, rfl, by simp, fun k hk _ => by simp [World.alloc, Array.getElem?_push, Nat.ne_of_lt hk]; rfl⟩⟩
    refine ⟨by rw [List.length_map, Nat.mul_one], Or.inr ⟨w.heap.size, grownCap w (G.length + m) cap 4, _, by rw [hlen], hB _ (Nat.le_refl _), heap_alloc_new w.drew _, by rw [hlen]; exact hgn, hgm, ?_, ?_⟩⟩
    · rw [Array.size_append, Array.size_append, size_zeroCells, size_zeroCells, List.size_toArray, List.length_map]
      show G.length + m * 1 + (grownCap w (G.length + m) cap 4 - (G.length + m)) * 1 = _
      omega
    · rw [hlen, Nat.mul_one, Array.toList_append, Array.toList_append, zeros_is, List.toList_toArray, ← List.map_append]
      exact List.take_left' (by rw [List.length_map, hlen])
end Go.Proofs.Ytlbdecjppgjdiaa
