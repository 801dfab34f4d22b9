/- Slices that are read; append of zeros, cut from the front, copies. -/
import Derived.Test.YtiglaalppaljbaaVj
import Derived.Lib.AppendZerosOnto
import Derived.Laws.OwnMore
import Derived.Maps.AppendAt
namespace Go.Proofs.Ytiglaalppaljbaa
open Go.RowKit Go.Maps Go.Lib
set_option maxRecDepth 100000
set_option linter.unusedVariables false
set_option linter.unusedSimpArgs false

theorem info4 : (Try.prog.info? 4).map (fun i => (i.zero, i.size, i.bytes)) = some (some (.bool false), 1, 1) := by kernel_rfl

theorem oneBo (G : List Bool) : ∀ u ∈ G.map Value.bool, u.oneCell' = true := fun u hu => by obtain ⟨b, -, rfl⟩ := List.mem_map.1 hu; rfl
theorem zerosBo_is (m : Nat) : (Builtin.zeroCells (.bool false : Value).cells m).toList = (List.replicate m (false : Bool)).map Value.bool := by
  show ((Array.range (m * 1)).map fun i => (#[.bool false] : Array Value)[i % 1]!).toList = _
  rw [Nat.mul_one, List.map_replicate]
  apply List.ext_getElem
  · simp
  · intro i h1 h2
    simp [Nat.mod_one]
    try rfl
/-- A slice that is read. -/
def VBo (w : World) (v : Value) (xs : List Bool) : Prop := ∃ g o c cur, v = .slice (some ⟨g, o, none⟩) xs.length c ∧ w.heap[g]? = some (.cells cur 4 (0, 0)) ∧ o + c ≤ cur.size ∧ xs.length ≤ c ∧ c ≤ maxLen ∧ ∀ j x, xs[j]? = some x → cur[o + j]? = some (Value.bool x)
theorem VBo.turn {S : Nat → Prop} {w w' : World} {v : Value} {xs : List Bool} (h : VBo w v xs) (ht : Turn S w w') (hs : ∀ k, v.ownBlock = some k → ¬ S k) : VBo w' v xs := by
  obtain ⟨g, o, c, cur, rfl, hb, h1, h2, h3, h4⟩ := h
  exact ⟨g, o, c, cur, rfl, (ht.block g (Array.getElem?_eq_some_iff.1 hb).1 (hs g rfl)).trans hb, h1, h2, h3, h4⟩
theorem VBo.later {w w' : World} {v : Value} {xs : List Bool} (h : VBo w v xs) (hb : Below w.heap.size w w') : VBo w' v xs := h.turn (S := fun _ => False) (Turn.of_below hb) (fun _ _ h => h)
theorem VBo.lt {w : World} {v : Value} {xs : List Bool} (h : VBo w v xs) {k : Nat} (hk : v.ownBlock = some k) : k < w.heap.size := by
  obtain ⟨g, o, c, cur, rfl, hb, -⟩ := h
  cases hk
  exact (Array.getElem?_eq_some_iff.1 hb).1
theorem VBo.cell {w : World} {g o n c : Nat} {xs : List Bool} (h : VBo w (.slice (some ⟨g, o, none⟩) n c) xs) {j : Nat} {x : Bool} (hj : xs[j]? = some x) : w.cell? ⟨g, o + j, none⟩ = some (Value.bool x) := by
  obtain ⟨g', o', c', cur, hv, hb, h1, h2, h3, h4⟩ := h
  cases hv
  simp only [World.cell?, hb]
  exact h4 j x hj
theorem VBo.shape {w : World} {v : Value} {xs : List Bool} (h : VBo w v xs) : ∃ g o c, v = .slice (some ⟨g, o, none⟩) xs.length c ∧ xs.length ≤ c := by
  obtain ⟨g, o, c, cur, rfl, hb, h1, h2, h3, h4⟩ := h
  exact ⟨g, o, c, rfl, h2⟩
theorem VBo.of_own {w : World} {base : Nat} {v : Value} {xs : List Bool} (h : w.ownsRow base 4 1 v xs.length (xs.map Value.bool)) (hn : xs ≠ []) : VBo w v xs := by
  rcases h.2 with ⟨-, h0⟩ | ⟨g, cap, cur, rfl, hg, hb, h1, h2, h3, h4⟩
  · exact absurd (List.length_eq_zero_iff.1 h0) hn
  · rw [Nat.mul_one] at h3 h4
    refine ⟨g, 0, cap, cur, rfl, hb, by omega, h1, h2, fun j x hj => ?_⟩
    have hlt := (List.getElem?_eq_some_iff.1 hj).1
    have h5 : (cur.toList.take xs.length)[j]? = some (Value.bool x) := by rw [h4, List.getElem?_map, hj]; rfl
    rw [List.getElem?_take, if_pos hlt] at h5
    rw [Nat.zero_add, ← Array.getElem?_toList]
    exact h5
/-- Cut from the front. -/
theorem VBo.from_ {w : World} {v : Value} {xs : List Bool} (h : VBo w v xs) (n : Nat) (hn : n ≤ xs.length) : ∃ v2, (∀ W, (Instr.slice 38 v (some (.int .i64 (n : Int))) none none).run Try.prog W = .ok v2 W) ∧ VBo w v2 (xs.drop n) ∧ v2.ownBlock = v.ownBlock := by
  obtain ⟨g, o, c, cur, rfl, hb, h1, h2, h3, h4⟩ := h
  have hl : (xs.drop n).length = xs.length - n := List.length_drop
  refine ⟨.slice (if c = n then some ⟨g, o, none⟩ else some ⟨g, o + n, none⟩) (xs.length - n) (c - n), fun W => ?_, ?_, by split <;> rfl⟩
  · (simp [Instr.slice, Instr.sliceBounds, Instr.sliceBound, asIntOf, run_underlying Try.underlying38, Try.sizeOf4, Result.andThen, Addr.add_mid, show n ≤ c by omega, hn]; try (split <;> simp [Addr.add_mid, *]))
  · by_cases hc : c = n
    · rw [if_pos hc]
      refine ⟨g, o, c - n, cur, by rw [hl], hb, by omega, by omega, by omega, fun j x hj => ?_⟩
      have := (List.getElem?_eq_some_iff.1 hj).1
      omega
    · rw [if_neg hc]
      refine ⟨g, o + n, c - n, cur, by rw [hl], hb, by omega, by omega, by omega, fun j x hj => ?_⟩
      rw [List.getElem?_drop] at hj
      rw [Nat.add_assoc]
      exact h4 (n + j) x hj
/-- append(l, make(.., m)...). -/
theorem VBo.zeros {w : World} {v : Value} {G : List Bool} (h : VBo w v G) (m : Nat) (hm : m ≤ 100000) (hl : G.length ≤ 100000) (ty : TypeId) :
    ∃ v' w', (Builtin.append_ #[38, 3] ty #[v, .int .i64 (m : Int)]).run Try.prog w = .ok v' w' ∧ VBo w' v' (G ++ List.replicate m false) ∧ w.grownBy w' v.ownBlock ∧ (v'.ownBlock = v.ownBlock ∨ v'.ownBlock = some w.heap.size) := by
  obtain ⟨i0, hi, hz0, hz1, hz2⟩ := info_parts info4
  obtain ⟨g, o, cap, cur, rfl, hb, h1, h2, h3, h4⟩ := h
  have hw : IntKind.i64.wrap (m : Int) = m := by rw [IntKind.wrap_i64]; omega
  have h48i : ¬ (281474976710656 < (m : Int)) := by omega
  have hlen : (G ++ List.replicate m (false : Bool)).length = G.length + m := by simp
  have hzl : (Builtin.zeroCells (.bool false : Value).cells m).toList.length = m := by rw [zerosBo_is]; simp
  by_cases hroom : G.length + m ≤ cap
  · have hst := run_storeCells_at Try.prog g (o + G.length) 4 (Builtin.zeroCells (.bool false : Value).cells m).toList 0 cur w hb (by rw [hzl]; omega) (by rw [zerosBo_is]; exact oneBo _)
    rw [hzl, Nat.add_zero] at hst
    refine ⟨.slice (some ⟨g, o, none⟩) (G.length + m) cap, w.setRow g (cur.toList.take (o + G.length) ++ (Builtin.zeroCells (.bool false : Value).cells m).toList ++ cur.toList.drop (o + G.length + m)).toArray, ?_, ?_, ⟨rfl, rfl, rfl, by simp, fun k _ hk => setRow_other w g k _ (fun e => hk (by rw [e]; rfl))⟩, Or.inl rfl⟩
    · rcases Nat.eq_zero_or_pos m with rfl | hm0
      · have e0 : (cur.toList.take (o + G.length) ++ (Builtin.zeroCells (.bool false : Value).cells 0).toList ++ cur.toList.drop (o + G.length + 0)).toArray = cur := by simp [Builtin.zeroCells]
        rw [e0, setRow_self w g cur 4 (0, 0) hb]
        simp [Builtin.append_, run_underlying Try.underlying38, run_underlying Try.underlying3, sizeOf, typeInfo, zeroValue, hi, hz0, hz1, hz2, asInt, asIntOf, IntKind.wrap_i64, h2, storeCells]
      · have hm1 : m ≠ 0 := by omega
        have hadd : (⟨g, o, none⟩ : Addr).add G.length = ⟨g, o + G.length, none⟩ := by rw [Addr.add_mid]
        have hneg : ¬ ((m : Int) < 0) := by omega
        simp [Builtin.append_, run_underlying Try.underlying38, run_underlying Try.underlying3, sizeOf, typeInfo, zeroValue, hi, hz0, hz1, hz2, asInt, asIntOf, hw, hneg, hm1, h48i, hroom, hst, hadd]
    · refine ⟨g, o, cap, _, by rw [hlen], setRow_heap w g cur _ 4 (0, 0) hb, ?_, by rw [hlen]; exact hroom, h3, fun j x hj => ?_⟩
      · simp [hzl]; omega
      · rw [List.getElem?_toArray]
        have hc1 : (cur.toList.take (o + G.length)).length = o + G.length := by rw [List.length_take, Array.length_toList (xs := cur)]; omega
        rw [List.append_assoc, List.getElem?_append, hc1]
        by_cases hjl : j < G.length
        · rw [if_pos (by omega), List.getElem?_take, if_pos (by omega), Array.getElem?_toList]
          rw [List.getElem?_append_left hjl] at hj
          exact h4 j x hj
        · rw [if_neg (by omega), List.getElem?_append, hzl]
          rw [List.getElem?_append_right (by omega)] at hj
          have hjm := (List.getElem?_eq_some_iff.1 hj).1
          rw [List.length_replicate] at hjm
          rw [if_pos (by omega), zerosBo_is, List.getElem?_map, show o + j - (o + G.length) = j - G.length by omega, hj]
          rfl
  · have hm0 : 0 < m := by omega
    have hold : (Builtin.firstCells i0.size G.length (.slice (some ⟨g, o, none⟩) G.length cap)).run Try.prog w.drew = .ok (G.map Value.bool).toArray w.drew := by
      rw [hz1]
      exact run_firstCells_some w.drew 1 G.length ⟨g, o, none⟩ G.length cap (G.map Value.bool) (by rw [List.length_map, Nat.mul_one]) (fun j u hu => by
        rw [Addr.add_mid]
        rw [List.getElem?_map] at hu
        obtain ⟨b, hb', rfl⟩ := Option.map_eq_some_iff.1 hu
        show w.cell? ⟨g, o + j, none⟩ = _
        simp only [World.cell?, hb]
        exact h4 j b hb')
    have hgn := grownCap_ge w (G.length + m) cap 4
    have hgm := grownCap_le_maxLen w (G.length + m) cap 4 (by unfold maxLen; omega)
    have hrun := Lib.run_append_grow_zeros w 38 3 ty 4 i0 _ .i64 .i64 Try.underlying38 Try.underlying3 hi hz0 (some ⟨g, o, none⟩) G.length cap (G.map Value.bool) hold m hm0 (by rw [hz1]; decide) (by omega) (by omega) (by rw [hz2]; omega) (by rw [hz2, Nat.mul_one]; have := growslice_fits (need := G.length + m) (old := cap) (bytes := 1) (by omega) (by omega); omega)
    refine ⟨_, _, hrun, ?_, ⟨rfl, rfl, rfl, by simp, fun k hk _ => by simp [World.alloc, Array.getElem?_push, Nat.ne_of_lt hk]; rfl⟩, Or.inr rfl⟩
    refine ⟨w.heap.size, 0, grownCap w (G.length + m) cap 4, _, by rw [hlen], heap_alloc_new w.drew _, ?_, by rw [hlen]; exact hgn, hgm, fun j x hj => ?_⟩
    · rw [Array.size_append, Array.size_append, size_zeroCells, size_zeroCells, List.size_toArray, List.length_map]
      show 0 + _ ≤ G.length + m * 1 + (grownCap w (G.length + m) cap 4 - (G.length + m)) * 1
      omega
    · have hjl := (List.getElem?_eq_some_iff.1 hj).1
      rw [hlen] at hjl
      rw [Nat.zero_add, ← Array.getElem?_toList, Array.toList_append, Array.toList_append, zerosBo_is, List.toList_toArray, ← List.map_append, List.getElem?_append_left (by rw [List.length_map, hlen]; exact hjl), List.getElem?_map, hj]
      rfl
/-- append([]..{}, l...): a copy. -/
theorem VBo.clone {w : World} {v : Value} {G : List Bool} (h : VBo w v G) (hl : G.length ≤ 100000) (ty : TypeId) :
    ∃ v' w', (Builtin.append_ #[38, 38] ty #[.slice (some ⟨w.heap.size, 0, none⟩) 0 0, v]).run Try.prog (w.alloc (.cells #[] 4)) = .ok v' w' ∧ w'.ownsRow w.heap.size 4 1 v' G.length (G.map Value.bool) ∧ Below w.heap.size w w' := by
  obtain ⟨i0, hi, hz0, hz1, hz2⟩ := info_parts info4
  have hown : (w.alloc (.cells #[] 4)).ownsRow w.heap.size 4 1 (.slice (some ⟨w.heap.size, 0, none⟩) 0 0) 0 [] := World.ownsRow_made w #[] 0 (Nat.le_refl _) (Nat.zero_le _) rfl
  have h' := h.later (bel1 w (.cells #[] 4))
  obtain ⟨g, o, c, cur, rfl, hb, h1, h2, h3, h4⟩ := h
  obtain ⟨v', w', e1, e2, e3, e4, -⟩ := run_append_own_at (P := Try.prog) (w.alloc (.cells #[] 4)) w.heap.size 38 ty 4 i0 _ 1 1 Try.underlying38 hi hz0 hz1 hz2 rfl (by decide) _ 0 [] hown ⟨g, o, none⟩ G.length c (G.map Value.bool) (by rw [List.length_map, Nat.mul_one]) (fun j u hu => by
    rw [List.getElem?_map] at hu
    obtain ⟨b, hb, rfl⟩ := Option.map_eq_some_iff.1 hu
    rw [Addr.add_mid]
    exact h'.cell hb) (oneBo G) (by unfold maxLen; omega) (by omega) (by simp)
  refine ⟨v', w', e1, ?_, ((Below.refl _ w).alloc (Nat.le_refl _) _).grown e3 (by simp) (by intro k hk; simp [Value.ownBlock] at hk; omega)⟩
  rw [Nat.zero_add, List.nil_append] at e2
  exact e2
theorem madeBo (n : Nat) : (madeCells (.bool false : Value).cells (n * 1)).toList = (List.replicate n (false : Bool)).map Value.bool := by
  rw [Nat.mul_one, List.map_replicate]
  exact toList_madeCells_one _ n
/-- make(.., n). -/
theorem mkBo (w : World) (n : Nat) (hn : n ≤ 100000) (hn0 : 0 < n) : ∃ w', (Instr.makeSlice 38 (.int .i64 (n : Int)) (.int .i64 (n : Int))).run Try.prog w = .ok (.slice (some ⟨w.heap.size, 0, none⟩) n n) w' ∧ VBo w' (.slice (some ⟨w.heap.size, 0, none⟩) n n) (List.replicate n false) ∧ Below w.heap.size w w' := by
  obtain ⟨i0, hi, hz0, hz1, hz2⟩ := info_parts info4
  obtain ⟨w', h1, h2, h3⟩ := run_makeSlice_full (P := Try.prog) w w.heap.size 38 4 i0 (.bool false) 1 Try.underlying38 hi hz0 hz1 .i64 .i64 n (by omega) (by rw [hz2]; omega) (by unfold maxLen; omega) (Nat.le_refl _)
  refine ⟨w', h1, ?_, ⟨h3.os, h3.tape, h3.output, h3.size, fun k hk => h3.block k hk (by simp)⟩⟩
  rw [madeBo] at h2
  refine VBo.of_own (base := w.heap.size) (by rw [List.length_replicate]; exact h2) (fun e => ?_)
  have := congrArg List.length e
  simp at this
  omega

theorem oneBy (G : List UInt8) : ∀ u ∈ G.map byV, u.oneCell' = true := fun u hu => by obtain ⟨b, -, rfl⟩ := List.mem_map.1 hu; rfl
theorem zerosBy_is (m : Nat) : (Builtin.zeroCells (.int .u8 0 : Value).cells m).toList = (List.replicate m (0 : UInt8)).map byV := by
  show ((Array.range (m * 1)).map fun i => (#[.int .u8 0] : Array Value)[i % 1]!).toList = _
  rw [Nat.mul_one, List.map_replicate]
  apply List.ext_getElem
  · simp
  · intro i h1 h2
    simp [Nat.mod_one]
    try rfl
/-- A slice that is read. -/
def VBy (w : World) (v : Value) (xs : List UInt8) : Prop := ∃ g o c cur, v = .slice (some ⟨g, o, none⟩) xs.length c ∧ w.heap[g]? = some (.cells cur 5 (0, 0)) ∧ o + c ≤ cur.size ∧ xs.length ≤ c ∧ c ≤ maxLen ∧ ∀ j x, xs[j]? = some x → cur[o + j]? = some (byV x)
theorem VBy.turn {S : Nat → Prop} {w w' : World} {v : Value} {xs : List UInt8} (h : VBy w v xs) (ht : Turn S w w') (hs : ∀ k, v.ownBlock = some k → ¬ S k) : VBy w' v xs := by
  obtain ⟨g, o, c, cur, rfl, hb, h1, h2, h3, h4⟩ := h
  exact ⟨g, o, c, cur, rfl, (ht.block g (Array.getElem?_eq_some_iff.1 hb).1 (hs g rfl)).trans hb, h1, h2, h3, h4⟩
theorem VBy.later {w w' : World} {v : Value} {xs : List UInt8} (h : VBy w v xs) (hb : Below w.heap.size w w') : VBy w' v xs := h.turn (S := fun _ => False) (Turn.of_below hb) (fun _ _ h => h)
theorem VBy.lt {w : World} {v : Value} {xs : List UInt8} (h : VBy w v xs) {k : Nat} (hk : v.ownBlock = some k) : k < w.heap.size := by
  obtain ⟨g, o, c, cur, rfl, hb, -⟩ := h
  cases hk
  exact (Array.getElem?_eq_some_iff.1 hb).1
theorem VBy.cell {w : World} {g o n c : Nat} {xs : List UInt8} (h : VBy w (.slice (some ⟨g, o, none⟩) n c) xs) {j : Nat} {x : UInt8} (hj : xs[j]? = some x) : w.cell? ⟨g, o + j, none⟩ = some (byV x) := by
  obtain ⟨g', o', c', cur, hv, hb, h1, h2, h3, h4⟩ := h
  cases hv
  simp only [World.cell?, hb]
  exact h4 j x hj
theorem VBy.shape {w : World} {v : Value} {xs : List UInt8} (h : VBy w v xs) : ∃ g o c, v = .slice (some ⟨g, o, none⟩) xs.length c ∧ xs.length ≤ c := by
  obtain ⟨g, o, c, cur, rfl, hb, h1, h2, h3, h4⟩ := h
  exact ⟨g, o, c, rfl, h2⟩
theorem VBy.of_own {w : World} {base : Nat} {v : Value} {xs : List UInt8} (h : w.ownsRow base 5 1 v xs.length (xs.map byV)) (hn : xs ≠ []) : VBy w v xs := by
  rcases h.2 with ⟨-, h0⟩ | ⟨g, cap, cur, rfl, hg, hb, h1, h2, h3, h4⟩
  · exact absurd (List.length_eq_zero_iff.1 h0) hn
  · rw [Nat.mul_one] at h3 h4
    refine ⟨g, 0, cap, cur, rfl, hb, by omega, h1, h2, fun j x hj => ?_⟩
    have hlt := (List.getElem?_eq_some_iff.1 hj).1
    have h5 : (cur.toList.take xs.length)[j]? = some (byV x) := by rw [h4, List.getElem?_map, hj]; rfl
    rw [List.getElem?_take, if_pos hlt] at h5
    rw [Nat.zero_add, ← Array.getElem?_toList]
    exact h5
/-- Cut from the front. -/
theorem VBy.from_ {w : World} {v : Value} {xs : List UInt8} (h : VBy w v xs) (n : Nat) (hn : n ≤ xs.length) : ∃ v2, (∀ W, (Instr.slice 39 v (some (.int .i64 (n : Int))) none none).run Try.prog W = .ok v2 W) ∧ VBy w v2 (xs.drop n) ∧ v2.ownBlock = v.ownBlock := by
  obtain ⟨g, o, c, cur, rfl, hb, h1, h2, h3, h4⟩ := h
  have hl : (xs.drop n).length = xs.length - n := List.length_drop
  refine ⟨.slice (if c = n then some ⟨g, o, none⟩ else some ⟨g, o + n, none⟩) (xs.length - n) (c - n), fun W => ?_, ?_, by split <;> rfl⟩
  · (simp [Instr.slice, Instr.sliceBounds, Instr.sliceBound, asIntOf, run_underlying Try.underlying39, Try.sizeOf5, Result.andThen, Addr.add_mid, show n ≤ c by omega, hn]; try (split <;> simp [Addr.add_mid, *]))
  · by_cases hc : c = n
    · rw [if_pos hc]
      refine ⟨g, o, c - n, cur, by rw [hl], hb, by omega, by omega, by omega, fun j x hj => ?_⟩
      have := (List.getElem?_eq_some_iff.1 hj).1
      omega
    · rw [if_neg hc]
      refine ⟨g, o + n, c - n, cur, by rw [hl], hb, by omega, by omega, by omega, fun j x hj => ?_⟩
      rw [List.getElem?_drop] at hj
      rw [Nat.add_assoc]
      exact h4 (n + j) x hj
/-- append(l, make(.., m)...). -/
theorem VBy.zeros {w : World} {v : Value} {G : List UInt8} (h : VBy w v G) (m : Nat) (hm : m ≤ 100000) (hl : G.length ≤ 100000) (ty : TypeId) :
    ∃ v' w', (Builtin.append_ #[39, 3] ty #[v, .int .i64 (m : Int)]).run Try.prog w = .ok v' w' ∧ VBy w' v' (G ++ List.replicate m 0) ∧ w.grownBy w' v.ownBlock ∧ (v'.ownBlock = v.ownBlock ∨ v'.ownBlock = some w.heap.size) := by
  obtain ⟨i0, hi, hz0, hz1, hz2⟩ := info_parts info5
  obtain ⟨g, o, cap, cur, rfl, hb, h1, h2, h3, h4⟩ := h
  have hw : IntKind.i64.wrap (m : Int) = m := by rw [IntKind.wrap_i64]; omega
  have h48i : ¬ (281474976710656 < (m : Int)) := by omega
  have hlen : (G ++ List.replicate m (0 : UInt8)).length = G.length + m := by simp
  have hzl : (Builtin.zeroCells (.int .u8 0 : Value).cells m).toList.length = m := by rw [zerosBy_is]; simp
  by_cases hroom : G.length + m ≤ cap
  · have hst := run_storeCells_at Try.prog g (o + G.length) 5 (Builtin.zeroCells (.int .u8 0 : Value).cells m).toList 0 cur w hb (by rw [hzl]; omega) (by rw [zerosBy_is]; exact oneBy _)
    rw [hzl, Nat.add_zero] at hst
    refine ⟨.slice (some ⟨g, o, none⟩) (G.length + m) cap, w.setRow g (cur.toList.take (o + G.length) ++ (Builtin.zeroCells (.int .u8 0 : Value).cells m).toList ++ cur.toList.drop (o + G.length + m)).toArray, ?_, ?_, ⟨rfl, rfl, rfl, by simp, fun k _ hk => setRow_other w g k _ (fun e => hk (by rw [e]; rfl))⟩, Or.inl rfl⟩
    · rcases Nat.eq_zero_or_pos m with rfl | hm0
      · have e0 : (cur.toList.take (o + G.length) ++ (Builtin.zeroCells (.int .u8 0 : Value).cells 0).toList ++ cur.toList.drop (o + G.length + 0)).toArray = cur := by simp [Builtin.zeroCells]
        rw [e0, setRow_self w g cur 5 (0, 0) hb]
        simp [Builtin.append_, run_underlying Try.underlying39, run_underlying Try.underlying3, sizeOf, typeInfo, zeroValue, hi, hz0, hz1, hz2, asInt, asIntOf, IntKind.wrap_i64, h2, storeCells]
      · have hm1 : m ≠ 0 := by omega
        have hadd : (⟨g, o, none⟩ : Addr).add G.length = ⟨g, o + G.length, none⟩ := by rw [Addr.add_mid]
        have hneg : ¬ ((m : Int) < 0) := by omega
        simp [Builtin.append_, run_underlying Try.underlying39, run_underlying Try.underlying3, sizeOf, typeInfo, zeroValue, hi, hz0, hz1, hz2, asInt, asIntOf, hw, hneg, hm1, h48i, hroom, hst, hadd]
    · refine ⟨g, o, cap, _, by rw [hlen], setRow_heap w g cur _ 5 (0, 0) hb, ?_, by rw [hlen]; exact hroom, h3, fun j x hj => ?_⟩
      · simp [hzl]; omega
      · rw [List.getElem?_toArray]
        have hc1 : (cur.toList.take (o + G.length)).length = o + G.length := by rw [List.length_take, Array.length_toList (xs := cur)]; omega
        rw [List.append_assoc, List.getElem?_append, hc1]
        by_cases hjl : j < G.length
        · rw [if_pos (by omega), List.getElem?_take, if_pos (by omega), Array.getElem?_toList]
          rw [List.getElem?_append_left hjl] at hj
          exact h4 j x hj
        · rw [if_neg (by omega), List.getElem?_append, hzl]
          rw [List.getElem?_append_right (by omega)] at hj
          have hjm := (List.getElem?_eq_some_iff.1 hj).1
          rw [List.length_replicate] at hjm
          rw [if_pos (by omega), zerosBy_is, List.getElem?_map, show o + j - (o + G.length) = j - G.length by omega, hj]
          rfl
  · have hm0 : 0 < m := by omega
    have hold : (Builtin.firstCells i0.size G.length (.slice (some ⟨g, o, none⟩) G.length cap)).run Try.prog w.drew = .ok (G.map byV).toArray w.drew := by
      rw [hz1]
      exact run_firstCells_some w.drew 1 G.length ⟨g, o, none⟩ G.length cap (G.map byV) (by rw [List.length_map, Nat.mul_one]) (fun j u hu => by
        rw [Addr.add_mid]
        rw [List.getElem?_map] at hu
        obtain ⟨b, hb', rfl⟩ := Option.map_eq_some_iff.1 hu
        show w.cell? ⟨g, o + j, none⟩ = _
        simp only [World.cell?, hb]
        exact h4 j b hb')
    have hgn := grownCap_ge w (G.length + m) cap 5
    have hgm := grownCap_le_maxLen w (G.length + m) cap 5 (by unfold maxLen; omega)
    have hrun := Lib.run_append_grow_zeros w 39 3 ty 5 i0 _ .i64 .i64 Try.underlying39 Try.underlying3 hi hz0 (some ⟨g, o, none⟩) G.length cap (G.map byV) hold m hm0 (by rw [hz1]; decide) (by omega) (by omega) (by rw [hz2]; omega) (by rw [hz2, Nat.mul_one]; have := growslice_fits (need := G.length + m) (old := cap) (bytes := 1) (by omega) (by omega); omega)
    refine ⟨_, _, hrun, ?_, ⟨rfl, rfl, rfl, by simp, fun k hk _ => by simp [World.alloc, Array.getElem?_push, Nat.ne_of_lt hk]; rfl⟩, Or.inr rfl⟩
    refine ⟨w.heap.size, 0, grownCap w (G.length + m) cap 5, _, by rw [hlen], heap_alloc_new w.drew _, ?_, by rw [hlen]; exact hgn, hgm, fun j x hj => ?_⟩
    · rw [Array.size_append, Array.size_append, size_zeroCells, size_zeroCells, List.size_toArray, List.length_map]
      show 0 + _ ≤ G.length + m * 1 + (grownCap w (G.length + m) cap 5 - (G.length + m)) * 1
      omega
    · have hjl := (List.getElem?_eq_some_iff.1 hj).1
      rw [hlen] at hjl
      rw [Nat.zero_add, ← Array.getElem?_toList, Array.toList_append, Array.toList_append, zerosBy_is, List.toList_toArray, ← List.map_append, List.getElem?_append_left (by rw [List.length_map, hlen]; exact hjl), List.getElem?_map, hj]
      rfl
/-- append([]..{}, l...): a copy. -/
theorem VBy.clone {w : World} {v : Value} {G : List UInt8} (h : VBy w v G) (hl : G.length ≤ 100000) (ty : TypeId) :
    ∃ v' w', (Builtin.append_ #[39, 39] ty #[.slice (some ⟨w.heap.size, 0, none⟩) 0 0, v]).run Try.prog (w.alloc (.cells #[] 5)) = .ok v' w' ∧ w'.ownsRow w.heap.size 5 1 v' G.length (G.map byV) ∧ Below w.heap.size w w' := by
  obtain ⟨i0, hi, hz0, hz1, hz2⟩ := info_parts info5
  have hown : (w.alloc (.cells #[] 5)).ownsRow w.heap.size 5 1 (.slice (some ⟨w.heap.size, 0, none⟩) 0 0) 0 [] := World.ownsRow_made w #[] 0 (Nat.le_refl _) (Nat.zero_le _) rfl
  have h' := h.later (bel1 w (.cells #[] 5))
  obtain ⟨g, o, c, cur, rfl, hb, h1, h2, h3, h4⟩ := h
  obtain ⟨v', w', e1, e2, e3, e4, -⟩ := run_append_own_at (P := Try.prog) (w.alloc (.cells #[] 5)) w.heap.size 39 ty 5 i0 _ 1 1 Try.underlying39 hi hz0 hz1 hz2 rfl (by decide) _ 0 [] hown ⟨g, o, none⟩ G.length c (G.map byV) (by rw [List.length_map, Nat.mul_one]) (fun j u hu => by
    rw [List.getElem?_map] at hu
    obtain ⟨b, hb, rfl⟩ := Option.map_eq_some_iff.1 hu
    rw [Addr.add_mid]
    exact h'.cell hb) (oneBy G) (by unfold maxLen; omega) (by omega) (by simp)
  refine ⟨v', w', e1, ?_, ((Below.refl _ w).alloc (Nat.le_refl _) _).grown e3 (by simp) (by intro k hk; simp [Value.ownBlock] at hk; omega)⟩
  rw [Nat.zero_add, List.nil_append] at e2
  exact e2
theorem madeBy (n : Nat) : (madeCells (.int .u8 0 : Value).cells (n * 1)).toList = (List.replicate n (0 : UInt8)).map byV := by
  rw [Nat.mul_one, List.map_replicate]
  exact toList_madeCells_one _ n
/-- make(.., n). -/
theorem mkBy (w : World) (n : Nat) (hn : n ≤ 100000) (hn0 : 0 < n) : ∃ w', (Instr.makeSlice 39 (.int .i64 (n : Int)) (.int .i64 (n : Int))).run Try.prog w = .ok (.slice (some ⟨w.heap.size, 0, none⟩) n n) w' ∧ VBy w' (.slice (some ⟨w.heap.size, 0, none⟩) n n) (List.replicate n 0) ∧ Below w.heap.size w w' := by
  obtain ⟨i0, hi, hz0, hz1, hz2⟩ := info_parts info5
  obtain ⟨w', h1, h2, h3⟩ := run_makeSlice_full (P := Try.prog) w w.heap.size 39 5 i0 (.int .u8 0) 1 Try.underlying39 hi hz0 hz1 .i64 .i64 n (by omega) (by rw [hz2]; omega) (by unfold maxLen; omega) (Nat.le_refl _)
  refine ⟨w', h1, ?_, ⟨h3.os, h3.tape, h3.output, h3.size, fun k hk => h3.block k hk (by simp)⟩⟩
  rw [madeBy] at h2
  refine VBy.of_own (base := w.heap.size) (by rw [List.length_replicate]; exact h2) (fun e => ?_)
  have := congrArg List.length e
  simp at this
  omega
end Go.Proofs.Ytiglaalppaljbaa
