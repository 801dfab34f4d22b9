/- A row of numbers that may have been cut from the front. -/
import Derived.Test.YtjldcillackhdaaNo
namespace Go.Proofs.Ytjldcillackhdaa
open Go.RowKit Go.Maps Go.Proofs.Ytjldcillackhdaa.Eth Go.Proofs.Ytjldcillackhdaa.Eth.Arp
set_option maxRecDepth 100000
set_option linter.unusedVariables false
set_option linter.unusedSimpArgs false

/-- A row of numbers in memory of its own, from some place of its block on. -/
def OI (w : World) (base : Nat) (v : Value) (zs : List Int) : Prop := (v = .slice none 0 0 ∧ zs = []) ∨ ∃ g off cap cur, v = .slice (some ⟨g, off, none⟩) zs.length cap ∧ base ≤ g ∧ w.heap[g]? = some (.cells cur 3 (0, 0)) ∧ zs.length ≤ cap ∧ cap ≤ maxLen ∧ off + cap ≤ cur.size ∧ ∀ i z, zs[i]? = some z → cur[off + i]? = some (.int .i64 z)
theorem OI.nil (w : World) (base : Nat) : OI w base (.slice none 0 0) [] := Or.inl ⟨rfl, rfl⟩
theorem OI.ge {w : World} {base : Nat} {v : Value} {l : List Int} (h : OI w base v l) : ∀ j, v.ownBlock = some j → base ≤ j ∧ j < w.heap.size := by
  intro j hj
  rcases h with ⟨rfl, -⟩ | ⟨g, off, cap, cur, rfl, hg, hb, -⟩
  · simp [Value.ownBlock] at hj
  · simp [Value.ownBlock] at hj
    subst hj
    exact ⟨hg, (Array.getElem?_eq_some_iff.1 hb).1⟩
theorem OI.turn {S : Nat → Prop} {w w' : World} {base : Nat} {v : Value} {l : List Int} (h : OI w base v l) (ht : Turn S w w') (hS : ∀ k, v.ownBlock = some k → ¬ S k) : OI w' base v l := by
  rcases h with h | ⟨g, off, cap, cur, a1, a2, a3, a4⟩
  · exact Or.inl h
  · exact Or.inr ⟨g, off, cap, cur, a1, a2, (ht.block g (Array.getElem?_eq_some_iff.1 a3).1 (hS g (by rw [a1]; simp [Value.ownBlock]))).trans a3, a4⟩
theorem OI.later {w w' : World} {b : Nat} {v : Value} {l : List Int} (h : OI w b v l) (hb : Below w.heap.size w w') : OI w' b v l := h.turn (S := fun _ => False) (Turn.of_below hb) (fun _ _ h => h)
theorem OI.shape {w : World} {b : Nat} {v : Value} {l : List Int} (h : OI w b v l) : ∃ a c, v = .slice a l.length c := by
  rcases h with ⟨rfl, rfl⟩ | ⟨g, off, cap, cur, rfl, -⟩
  · exact ⟨_, _, rfl⟩
  · exact ⟨_, _, rfl⟩
/-- What is read. -/
theorem OI.cell {w : World} {b : Nat} {v : Value} {l : List Int} (h : OI w b v l) {i : Nat} {z : Int} (hi : l[i]? = some z) : ∃ g off cap, v = .slice (some ⟨g, off, none⟩) l.length cap ∧ w.cell? ⟨g, off + i, none⟩ = some (.int .i64 z) := by
  rcases h with ⟨rfl, rfl⟩ | ⟨g, off, cap, cur, rfl, -, hb, -, -, -, hc⟩
  · simp at hi
  · exact ⟨g, off, cap, rfl, (cell_of_row w g (off + i) cur 3 (0, 0) hb).trans (hc i z hi)⟩
/-- The first one cut off. -/
theorem OI.cut {w : World} {b : Nat} {v : Value} {z : Int} {r : List Int} (h : OI w b v (z :: r)) : ∃ g off cap v', v = .slice (some ⟨g, off, none⟩) (r.length + 1) cap ∧ v' = sliced (some ⟨g, off, none⟩) 1 (r.length + 1) cap 1 ∧ v'.ownBlock = v.ownBlock ∧ OI w b v' r := by
  rcases h with ⟨-, h⟩ | ⟨g, off, cap, cur, rfl, hg, hb, h1, h2, h3, hc⟩
  · cases h
  · refine ⟨g, off, cap, _, by simp, rfl, ?_, ?_⟩
    · unfold sliced
      split <;> simp [Value.ownBlock, Addr.add_mid]
    · simp only [List.length_cons] at h1
      right
      unfold sliced
      by_cases e : cap = 1
      · refine ⟨g, off, 0, cur, ?_, hg, hb, by omega, by omega, by omega, fun i y hi => ?_⟩
        · rw [if_pos e, e]; simp
        · have : r = [] := List.eq_nil_of_length_eq_zero (by omega)
          subst this
          simp at hi
      · refine ⟨g, off + 1, cap - 1, cur, ?_, hg, hb, by omega, by omega, by omega, fun i y hi => ?_⟩
        · rw [if_neg e]; simp [Addr.add_mid]
        · have := hc (i + 1) y (by simpa using hi)
          rw [show off + 1 + i = off + (i + 1) by omega]
          exact this
theorem infoI : (Try.prog.info? 3).map (fun i => (i.zero, i.size, i.bytes)) = some (some (.int .i64 0), 1, 8) := by kernel_rfl
theorem OI.put {w : World} {base : Nat} {v : Value} {zs : List Int} (h : OI w base v zs) (ty : TypeId) (A c : Nat) (y : Int) (hy : w.cell? ⟨A, 0, none⟩ = some (.int .i64 y)) (hbase : base ≤ w.heap.size) (hlen : zs.length < 1000000) :
    ∃ v' w', (Builtin.append_ #[38, 38] ty #[v, .slice (some ⟨A, 0, none⟩) 1 c]).run Try.prog w = .ok v' w' ∧ OI w' base v' (zs ++ [y]) ∧ w.grownBy w' v.ownBlock ∧ ∀ k, v'.ownBlock = some k → v.ownBlock = some k ∨ w.heap.size ≤ k := by
  obtain ⟨i0, hi, hz0, hz1, hz2⟩ := info_parts infoI
  have hzs : (Value.int .i64 0).cells.size = 1 := by decide
  have hnews : ∀ j u, [Value.int .i64 y][j]? = some u → w.cell? ((⟨A, 0, none⟩ : Addr).add j) = some u := by
    intro j u hu
    match j, hu with
    | 0, hu => simp at hu; subst hu; rw [Addr.add_mid]; exact hy
    | j + 1, hu => simp at hu
  have hget : ∀ (xs : List Value), xs = zs.map (Value.int .i64) → ∀ (rest : Array Value) (i : Nat) (z : Int), (zs ++ [y])[i]? = some z → (xs.toArray ++ [Value.int .i64 y].toArray ++ rest)[i]? = some (Value.int .i64 z) := by
    intro xs hxs rest i z hiz
    subst hxs
    have hl : i < (zs ++ [y]).length := (List.getElem?_eq_some_iff.1 hiz).1
    have hj : (zs.map (Value.int .i64)).toArray ++ [Value.int .i64 y].toArray = ((zs ++ [y]).map (Value.int .i64)).toArray := by simp
    rw [Array.getElem?_append_left (by simpa using hl), hj, List.getElem?_toArray, List.getElem?_map, hiz]
    rfl
  rcases h with ⟨rfl, rfl⟩ | ⟨g, off, cap, cur, rfl, hg, hb, h1, h2, h3, hc⟩
  · have hr := run_append_nil (P := Try.prog) w 38 ty 3 i0 _ Try.underlying38 hi hz0 ⟨A, 0, none⟩ 1 c [.int .i64 y] (by rw [hz1]; rfl) hnews (by decide) (by decide) (by rw [hz2]; decide)
    have hge := grownCap_ge w 1 0 3
    refine ⟨_, _, hr, Or.inr ⟨w.heap.size, 0, _, _, rfl, hbase, heap_alloc_new w.drew _, hge, grownCap_le_maxLen w 1 0 3 (by unfold maxLen; decide), ?_, ?_⟩, ⟨rfl, rfl, rfl, by simp, fun k hk _ => (World.grownBy_alloc w.drew _ none).block k hk (by simp)⟩, ?_⟩
    · simp only [Array.size_append, List.size_toArray, size_zeroCells, hzs]; simp; omega
    · intro i z hiz
      rw [Nat.zero_add]
      have := hget [] rfl (Builtin.zeroCells (Value.int .i64 0).cells (grownCap w 1 0 3 - 1)) i z hiz
      simpa using this
    · intro k hk; simp [Value.ownBlock] at hk; right; omega
  · by_cases hroom : zs.length + 1 ≤ cap
    · have hst := run_storeCells_at Try.prog g (off + zs.length) 3 [.int .i64 y] 0 cur w hb (by simp; omega) (by simp [Value.oneCell'])
      have hf := run_firstCells_some (P := Try.prog) w 1 1 ⟨A, 0, none⟩ 1 c [.int .i64 y] rfl hnews
      simp only [Nat.add_zero] at hst
      refine ⟨.slice (some ⟨g, off, none⟩) (zs.length + 1) cap, w.setRow g (cur.toList.take (off + zs.length) ++ [Value.int .i64 y] ++ cur.toList.drop (off + zs.length + [Value.int .i64 y].length)).toArray, ?_, Or.inr ⟨g, off, cap, _, by simp, hg, setRow_heap w g cur _ 3 _ hb, by simpa using hroom, h2, ?_, ?_⟩, ⟨rfl, rfl, rfl, by simp, fun k _ hk => setRow_other w g k _ (fun e => hk (by simp [Value.ownBlock, e]))⟩, fun k hk => Or.inl hk⟩
      · simp [Builtin.append_, run_underlying Try.underlying38, sizeOf, typeInfo, hi, hz1, Builtin.lenOf, hroom, hf, Addr.add_mid, hst]
      · simp; omega
      · intro i z hiz
        have hl : i < (zs ++ [y]).length := (List.getElem?_eq_some_iff.1 hiz).1
        rw [List.length_append, List.length_singleton] at hl
        rw [List.getElem?_toArray]
        by_cases e : i < zs.length
        · rw [List.append_assoc, List.getElem?_append_left (by simp; omega), List.getElem?_take, if_pos (by omega)]
          rw [List.getElem?_append_left e] at hiz
          simpa using hc i z hiz
        · have e2 : i = zs.length := by omega
          subst e2
          rw [List.append_assoc, List.getElem?_append_right (by simp; omega)]
          simp at hiz
          subst hiz
          have : (List.take (off + zs.length) cur.toList).length = off + zs.length := by simp; omega
          rw [this, Nat.sub_self]
          rfl
    · have holds : ∀ j u, (zs.map (Value.int .i64))[j]? = some u → w.cell? ((⟨g, off, none⟩ : Addr).add j) = some u := by
        intro j u hu
        rw [List.getElem?_map] at hu
        cases hz : zs[j]? with
        | none => rw [hz] at hu; cases hu
        | some z =>
          rw [hz] at hu
          simp at hu
          subst hu
          rw [Addr.add_mid]
          exact (cell_of_row w g (off + j) cur 3 (0, 0) hb).trans (hc j z hz)
      have hr := run_append_grow (P := Try.prog) w 38 ty 3 i0 _ Try.underlying38 hi hz0 ⟨g, off, none⟩ zs.length cap (zs.map (Value.int .i64)) (by rw [hz1]; simp) holds ⟨A, 0, none⟩ 1 c [.int .i64 y] (by rw [hz1]; rfl) hnews (by omega) (by omega) (growslice_fits (by omega) (by rw [hz2]; omega))
      have hge := grownCap_ge w (zs.length + 1) cap 3
      refine ⟨_, _, hr, Or.inr ⟨w.heap.size, 0, grownCap w (zs.length + 1) cap 3, _, by simp, hbase, heap_alloc_new w.drew _, by simpa using hge, grownCap_le_maxLen w _ _ 3 (by unfold maxLen; omega), ?_, ?_⟩, ⟨rfl, rfl, rfl, by simp, fun k hk _ => (World.grownBy_alloc w.drew _ none).block k hk (by simp)⟩, ?_⟩
      · simp only [Array.size_append, List.size_toArray, size_zeroCells, hzs]; simp; omega
      · intro i z hiz
        rw [Nat.zero_add]
        exact hget _ rfl _ i z hiz
      · intro k hk; simp [Value.ownBlock] at hk; right; omega
/-- append of one number. -/
theorem wpList_appendO {w : World} {ops : Array Oper} {rest : List Oper} {o : Oper} {a : Act} {Q : Exit → Act → World → Prop} (hgd : o.guard = none) (s x : Operand)
    (ho : o.op = .call { callee := .builtin .append, args := #[s, x], argTypes := #[38, 38] }) (base : Nat) (v : Value) (zs : List Int) (y : Int) (hs : a.eval s = v) (hown : OI w base v zs) (hx : a.eval x = .slice (some ⟨w.heap.size, 0, none⟩) 1 1) (hbase : base ≤ w.heap.size) (hlen : zs.length < 1000000)
    (h : ∀ v' w', OI w' base v' (zs ++ [y]) → Turn (fun k => v.ownBlock = some k) w w' → (∀ k, v'.ownBlock = some k → v.ownBlock = some k ∨ w.heap.size ≤ k) → wpList Try.prog ops Q rest (a.put o.dst v') w') : wpList Try.prog ops Q (o :: rest) a (w.alloc (.cells #[.int .i64 y] 3)) := by
  have hb1 := bel1 w (.cells #[.int .i64 y] 3)
  obtain ⟨v', w', hr, h1, h2, h3⟩ := (hown.later hb1).put o.type w.heap.size 1 y ((At.box w #[.int .i64 y] 3).2 0 _ rfl).1 (Nat.le_trans hbase hb1.size) hlen
  have hT : Turn (fun k => v.ownBlock = some k) w w' := (Turn.of_below hb1).and h2 (fun j hj => Or.inl hj)
  have hK := h v' w' h1 hT (fun k hk => (h3 k hk).imp id (fun h => Nat.le_trans hb1.size h))
  refine wpList_plain hgd fun K hK' => ?_
  unfold Oper.wp execOp
  simp only [ho, resolve, invoke, builtin, Sem.run_bind, Sem.run_pure, Result.andThen_ok, List.map_toArray, List.map_cons, List.map_nil, hs, hx, hr]
  exact hK' _ _ hK
end Go.Proofs.Ytjldcillackhdaa
