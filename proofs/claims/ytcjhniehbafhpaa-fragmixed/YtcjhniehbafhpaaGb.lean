/- FragMixed: pieces, rows cut from the front, append; the state of its loop. -/
import Derived.Test.YtcjhniehbafhpaaGa
import Derived.Test.YtcjhniehbafhpaaFy
import Derived.Maps.AppendAt
import Derived.OwnWalk
namespace Go.Proofs.Ytcjhniehbafhpaa
open Go.RowKit Go.Maps
set_option maxRecDepth 100000
set_option linter.unusedVariables false
set_option linter.unusedSimpArgs false

theorem cuts_py {f t tl pr id : Int} {op da : ByteArray} {most : Int} {ps : List Pk} (h : Cuts f t tl pr id 0 false false op da most 0 ps) (hd : da.size ≤ 400) : ∃ (g : Nat → Pk) (N : Nat), PY (⟨f, t, tl, pr, id, 0, false, false, op, da⟩ : Pk) g N ∧ ps = (List.range (N + 1)).map g ∧ N < 60 := by
  unfold Cuts at h
  rcases h with ⟨h, -⟩ | ⟨hm, h⟩
  · cases h
  · rcases h with ⟨h, -⟩ | ⟨h, -⟩ | ⟨⟨h1, h2⟩, ⟨-, h3, h4⟩ | ⟨h4, ⟨h, -⟩ | ⟨-, h3, -⟩⟩⟩
    · cases h
    · cases h
    · exact ⟨fun _ => (⟨f, t, tl, pr, id, 0, false, false, op, da⟩ : Pk), 0, py_one hm rfl rfl, h3, by decide⟩
    · cases h
    · obtain ⟨R, hR⟩ : ∃ R : Nat, (R : Int) = (most - (20 + (op.size : Int))) / 8 * 8 := ⟨((most - (20 + (op.size : Int))) / 8 * 8).toNat, by omega⟩
      have hRt : ((most - (20 + (op.size : Int))) / 8 * 8).toNat = R := by omega
      rw [hRt] at h3
      have hR8 : 8 ≤ R := by omega
      have hm1 := full_mul da.size R (by omega)
      have hx : Cx (⟨f, t, tl, pr, id, 0, false, false, op, da⟩ : Pk) R (fullN da.size R) := by
        refine ⟨by omega, by omega, hm1, ?_, ?_, rfl, rfl, hd, hm⟩
        · apply Classical.byContradiction
          intro hn
          have := (full_lt da.size R (fullN da.size R) (by omega) (by omega)).2 (by show _ < da.size; have : ¬ da.size ≤ (fullN da.size R + 1) * R := hn; omega)
          omega
        · unfold fullN
          exact (Nat.le_div_iff_mul_le (by omega)).2 (by omega)
      have hN : fullN da.size R < 60 := by
        have : fullN da.size R * 8 ≤ fullN da.size R * R := Nat.mul_le_mul_left _ hR8
        omega
      exact ⟨_, _, py_cut hx (by omega), by rw [h3]; exact all_is hx, hN⟩
theorem mix_cuts (id : Int) (da : ByteArray) (most : Int) (h0 : 0 ≤ id) (h1 : id ≤ 65535) (hs : da.size ≤ 200) (h2 : 28 ≤ most) (h3 : most ≤ 65535) : ∃ ps, Cuts 1 2 9 0 id 0 false false ⟨#[]⟩ da most 0 ps := by
  have hop : (ByteArray.mk #[]).size = 0 := rfl
  have hm : mayP 1 2 9 0 id 0 false (ByteArray.mk #[]).size da.size = true := mayP_t ⟨⟨by decide, by decide⟩, ⟨by decide, by decide⟩, ⟨by decide, by decide⟩, ⟨by decide, by decide⟩, ⟨h0, h1⟩, ⟨by decide, by decide⟩, by decide, by decide, (fun e => by cases e), by omega, by omega⟩
  unfold Cuts
  by_cases hf : 20 + (((ByteArray.mk #[]).size : Nat) : Int) + (da.size : Int) ≤ most
  · exact ⟨_, Or.inr ⟨hm, Or.inr (Or.inr ⟨⟨by omega, h3⟩, Or.inl ⟨rfl, rfl, hf⟩⟩)⟩⟩
  · exact ⟨_, Or.inr ⟨hm, Or.inr (Or.inr ⟨⟨by omega, h3⟩, Or.inr ⟨by omega, Or.inr ⟨rfl, rfl, rfl⟩⟩⟩)⟩⟩
/-- A row of n from block g, of which the first i are cut off. -/
def CutV (g n i : Nat) (v : Value) : Prop := ∃ a c, v = .slice a (n - i) c ∧ n - i ≤ c ∧ (i < n → a = some ⟨g, i * 10, none⟩)
theorem CutV.open {g n i : Nat} {v : Value} (h : CutV g n i v) (hi : i < n) : ∃ c, v = .slice (some ⟨g, i * 10, none⟩) (n - i) c ∧ n - i ≤ c := by
  obtain ⟨a, c, rfl, hc, ha⟩ := h
  exact ⟨c, by rw [ha hi], hc⟩
theorem CutV.next {g n i c : Nat} (hi : i < n) (hc : n - i ≤ c) : CutV g n (i + 1) (.slice (if c = 1 then some ⟨g, i * 10, none⟩ else some ⟨g, i * 10 + 10, none⟩) (n - i - 1) (c - 1)) := by
  refine ⟨_, _, by rw [show n - (i + 1) = n - i - 1 by omega], by omega, fun h => ?_⟩
  rw [if_neg (by omega), show (i + 1) * 10 = i * 10 + 10 by omega]
theorem infoP : (Try.prog.info? 32).map (fun i => (i.zero, i.size, i.bytes)) = some (some (.agg #[.int .i64 0, .int .i64 0, .int .i64 0, .int .i64 0, .int .i64 0, .int .i64 0, .bool false, .bool false, .string ⟨#[]⟩, .string ⟨#[]⟩]), 10, 88) := by kernel_rfl
theorem L_one (q : Pk) : ∀ u ∈ q.L, u.oneCell' = true := by
  intro u hu
  simp only [Pk.L, List.mem_cons, List.not_mem_nil, or_false] at hu
  rcases hu with rfl | rfl | rfl | rfl | rfl | rfl | rfl | rfl | rfl | rfl <;> rfl
/-- append of one packet. -/
theorem wpList_appendP {w : World} {ops : Array Oper} {rest : List Oper} {o : Oper} {a : Act} {Q : Exit → Act → World → Prop} (hgd : o.guard = none) (s x : Operand)
    (ho : o.op = .call { callee := .builtin .append, args := #[s, x], argTypes := #[36, 36] }) (R : Nat) (v : Value) (ps : List Pk) (q : Pk) (g c : Nat) (hs : a.eval s = v) (hown : RW w R v ps) (hx : a.eval x = .slice (some ⟨g, 0, none⟩) 1 c) (hr : ∀ j u, q.L[j]? = some u → w.cell? ⟨g, j, none⟩ = some u) (hR : R ≤ w.heap.size) (hlen : ps.length < 1000000)
    (h : ∀ v' w', RW w' R v' (ps ++ [q]) → Turn (fun k => v.ownBlock = some k) w w' → (∀ k, v'.ownBlock = some k → v.ownBlock = some k ∨ w.heap.size ≤ k) → wpList Try.prog ops Q rest (a.put o.dst v') w') : wpList Try.prog ops Q (o :: rest) a w := by
  obtain ⟨i0, hi, hz0, hz1, hz2⟩ := info_parts infoP
  refine wpList_append_own_at _ hgd s x 36 ho R 32 i0 _ 10 88 Try.underlying36 hi hz0 hz1 hz2 rfl (by decide) v ps.length (flatP ps) hs hown ⟨g, 0, none⟩ 1 c q.L hx rfl ?_ (L_one q) (by unfold maxLen; omega) (by omega) hR ?_
  · intro j u hu
    rw [Addr.add_mid, Nat.zero_add]
    exact hr j u hu
  · intro v' w' h1 h2 h3 h4
    have hT : Turn (fun k => v.ownBlock = some k) w w' := Turn.of_grown h2 (fun j hj => Or.inl hj)
    have h1' : RW w' R v' (ps ++ [q]) := by
      unfold RW
      rw [flatP_snoc, List.length_append, List.length_singleton]
      exact h1
    refine h v' w' h1' hT (fun k hk => ?_)
    rcases h4 with e | e
    · exact Or.inl (by rw [← e]; exact hk)
    · rw [e] at hk
      injection hk with hk
      exact Or.inr (by omega)
end Go.Proofs.Ytcjhniehbafhpaa
