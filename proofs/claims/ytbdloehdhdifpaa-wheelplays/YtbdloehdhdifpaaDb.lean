/- The document's wheel: Drop and Set. -/
import Derived.Test.YtbdloehdhdifpaaDa
namespace Go.Proofs.Ytbdloehdhdifpaa
open Go.RowKit Go.Maps
set_option maxRecDepth 100000
set_option linter.unusedVariables false
set_option linter.unusedSimpArgs false

theorem key_at {L : List Tm} (hn : (L.map (·.1)).Nodup) {i j : Nat} {x y : Tm} (hi : L[i]? = some x) (hj : L[j]? = some y) (e : x.1 = y.1) : i = j := by
  have h := List.pairwise_iff_getElem.1 (List.nodup_iff_pairwise_ne.1 hn)
  obtain ⟨i1, e1⟩ := List.getElem?_eq_some_iff.1 hi
  obtain ⟨j1, e2⟩ := List.getElem?_eq_some_iff.1 hj
  rcases Nat.lt_trichotomy i j with h1 | h1 | h1
  · exact absurd (by rw [List.getElem_map, List.getElem_map, e1, e2, e]) (h i j (by simpa using i1) (by simpa using j1) h1)
  · exact h1
  · exact absurd (by rw [List.getElem_map, List.getElem_map, e1, e2, e]) (h j i (by simpa using j1) (by simpa using i1) h1)
theorem del_at {L : List Tm} (hn : (L.map (·.1)).Nodup) {i : Nat} {e : Tm} (hi : L[i]? = some e) : delT L e.1 = L.take i ++ L.drop (i + 1) := by
  obtain ⟨hlt, he⟩ := List.getElem?_eq_some_iff.1 hi
  have hs : L = L.take i ++ e :: L.drop (i + 1) := by
    rw [← he, List.getElem_cons_drop, List.take_append_drop]
  have h1 : ∀ x ∈ L.take i, (x.1 != e.1) = true := fun x hx => by
    obtain ⟨j, hj, hjx⟩ := List.mem_iff_getElem.1 hx
    rw [List.length_take] at hj
    rw [List.getElem_take] at hjx
    cases hq : (x.1 == e.1) with
    | false => simp [bne, hq]
    | true =>
      have := key_at hn (List.getElem?_eq_getElem (show j < L.length by omega)) hi (by rw [hjx]; simpa using hq)
      omega
  have h2 : ∀ x ∈ L.drop (i + 1), (x.1 != e.1) = true := fun x hx => by
    obtain ⟨j, hj, hjx⟩ := List.mem_iff_getElem.1 hx
    rw [List.length_drop] at hj
    rw [List.getElem_drop] at hjx
    cases hq : (x.1 == e.1) with
    | false => simp [bne, hq]
    | true =>
      have := key_at hn (List.getElem?_eq_getElem (show i + 1 + j < L.length by omega)) hi (by rw [hjx]; simpa using hq)
      omega
  unfold delT
  conv => lhs; rw [hs]
  rw [List.filter_append, List.filter_cons_of_neg (by simp), List.filter_eq_self.2 h1, List.filter_eq_self.2 h2]
theorem ins_at {e : Tm} : ∀ {L : List Tm} {i : Nat}, i ≤ L.length → (∀ j y, j < i → L[j]? = some y → y.2 < e.2 ∨ y.2 = e.2 ∧ y.1 < e.1) → (∀ y, L[i]? = some y → ¬ (y.2 < e.2 ∨ y.2 = e.2 ∧ y.1 < e.1)) → insT e L = L.take i ++ e :: L.drop i
  | [], i, hi, _, _ => by
    simp only [List.length_nil, Nat.le_zero] at hi
    subst hi
    rfl
  | y :: r, 0, _, _, h2 => by
    unfold insT
    rw [if_neg (h2 y rfl)]
    rfl
  | y :: r, i + 1, hi, h1, h2 => by
    unfold insT
    rw [if_pos (h1 0 y (by omega) rfl), ins_at (L := r) (i := i) (by simpa using hi) (fun j z hj hz => h1 (j + 1) z (by omega) (by simpa using hz)) (fun z hz => h2 z (by simpa using hz))]
    rfl
def enT (e : Tm) : List Value := [.int .i64 e.1, .int .i64 e.2]
/-- A slice of timers of its own memory, from base on. -/
def TO (w : World) (base : Nat) (v : Value) (L : List Tm) : Prop := w.ownsRow base 57 2 v L.length (L.flatMap enT)
theorem TO.nil (w : World) (base : Nat) : TO w base (.slice none 0 0) [] := World.ownsRow_nil _ _ _ _
theorem infoT : (Try.prog.info? 57).map (fun i => (i.zero, i.size, i.bytes)) = some (some (.agg #[.int .i64 0, .int .i64 0]), 2, 16) := by kernel_rfl
theorem flat_at : ∀ (L : List Tm) (i : Nat) (e : Tm), L[i]? = some e → (L.flatMap enT)[i * 2]? = some (.int .i64 e.1) ∧ (L.flatMap enT)[i * 2 + 1]? = some (.int .i64 e.2)
  | [], i, e, h => by simp at h
  | y :: r, 0, e, h => by
    obtain rfl : y = e := by simpa using h
    simp [List.flatMap_cons, enT]
  | y :: r, i + 1, e, h => by
    have := flat_at r i e (by simpa using h)
    rw [show (i + 1) * 2 = i * 2 + 2 by omega]
    simpa [List.flatMap_cons, enT] using this
theorem flat_len (L : List Tm) : (L.flatMap enT).length = L.length * 2 := by
  induction L with
  | nil => rfl
  | cons y r ih => simp [List.flatMap_cons, enT, ih]; omega
theorem flat_of : ∀ (L : List Tm) (j : Nat) (u : Value), (L.flatMap enT)[j]? = some u → ∃ i e, L[i]? = some e ∧ (j = i * 2 ∧ u = .int .i64 e.1 ∨ j = i * 2 + 1 ∧ u = .int .i64 e.2)
  | [], j, u, h => by simp at h
  | y :: r, 0, u, h => ⟨0, y, rfl, Or.inl ⟨rfl, by simpa [List.flatMap_cons, enT] using h.symm⟩⟩
  | y :: r, 1, u, h => ⟨0, y, rfl, Or.inr ⟨rfl, by simpa [List.flatMap_cons, enT] using h.symm⟩⟩
  | y :: r, j + 2, u, h => by
    obtain ⟨i, e, h1, h2⟩ := flat_of r j u (by simpa [List.flatMap_cons, enT] using h)
    refine ⟨i + 1, e, by simpa using h1, ?_⟩
    rcases h2 with ⟨h2, h3⟩ | ⟨h2, h3⟩
    · exact Or.inl ⟨by omega, h3⟩
    · exact Or.inr ⟨by omega, h3⟩
theorem TO.tr {w : World} {base : Nat} {v : Value} {L : List Tm} (h : TO w base v L) : TR w base v L := by
  rcases h.2 with ⟨rfl, h0⟩ | ⟨g, cap, cur, rfl, hg, hb, h1, h2, h3, h4⟩
  · exact Or.inl ⟨rfl, List.length_eq_zero_iff.1 h0⟩
  · refine Or.inr ⟨g, 0, cap, rfl, h1, hg, (Array.getElem?_eq_some_iff.1 hb).1, fun i e he => ?_⟩
    have hc : ∀ j u, (L.flatMap enT)[j]? = some u → w.cell? ⟨g, j, none⟩ = some u := by
      intro j u hu
      rw [← h4] at hu
      have hj : j < L.length * 2 := by
        have := (List.getElem?_eq_some_iff.1 hu).1
        rw [List.length_take] at this
        omega
      rw [List.getElem?_take_of_lt hj] at hu
      simp [World.cell?, hb]
      simpa using hu
    obtain ⟨e0, e1⟩ := flat_at L i e he
    rw [Nat.zero_add]
    exact ⟨hc _ _ e0, hc _ _ e1⟩
theorem TO.ge {w : World} {base : Nat} {v : Value} {L : List Tm} (h : TO w base v L) : ∀ j, v.ownBlock = some j → base ≤ j := by
  intro j hj
  rcases h.2 with ⟨rfl, -⟩ | ⟨g, cap, cur, rfl, hg, -⟩
  · simp [Value.ownBlock] at hj
  · simp [Value.ownBlock] at hj; omega
/-- append of a slice that is read to one of our own. -/
theorem append_tr {w : World} {base b2 : Nat} {v vs : Value} {L1 L2 : List Tm} (h1 : TO w base v L1) (h2 : TR w b2 vs L2) (hb : base ≤ w.heap.size) (hl : L1.length + L2.length < 1000000) (ty : TypeId) :
    ∃ v' w', (Builtin.append_ #[45, 45] ty #[v, vs]).run Try.prog w = .ok v' w' ∧ TO w' base v' (L1 ++ L2) ∧ Turn (fun k => v.ownBlock = some k) w w' := by
  obtain ⟨i0, hi, hz0, hz1, hz2⟩ := info_parts infoT
  rcases h2 with ⟨rfl, rfl⟩ | ⟨g, off, c, rfl, c2, c3, c4, c5⟩
  · exact ⟨v, w, run_append_owned_none (P := Try.prog) (w := w) base 45 ty 57 i0 2 Try.underlying45 hi v L1.length _ h1, by rw [List.append_nil]; exact h1, Turn.refl _⟩
  · obtain ⟨v', w', hr, ho, hg, -⟩ := run_append_own (P := Try.prog) w base 45 ty 57 i0 _ 2 16 Try.underlying45 hi hz0 hz1 hz2 rfl (by decide) v L1.length _ h1 ⟨g, off, none⟩ L2.length c (L2.flatMap enT) (flat_len L2) (fun j u hu => by
      obtain ⟨i, e, he, hq⟩ := flat_of L2 j u hu
      rw [Addr.add_mid]
      rcases hq with ⟨rfl, rfl⟩ | ⟨rfl, rfl⟩
      · exact (c5 i e he).1
      · have := (c5 i e he).2
        rwa [Nat.add_assoc] at this) (fun u hu => by
      obtain ⟨e, -, hu⟩ := List.mem_flatMap.1 hu
      simp [enT] at hu
      rcases hu with rfl | rfl <;> rfl) (by unfold maxLen; omega) (by omega) hb
    refine ⟨v', w', hr, ?_, Turn.of_grown hg (fun j hj => Or.inl hj)⟩
    unfold TO
    rw [List.length_append, List.flatMap_append]
    exact ho
theorem upto_tr {w : World} {base : Nat} {v : Value} {L : List Tm} (h : TR w base v L) {i : Nat} (hi : i ≤ L.length) :
    ∃ v', (∀ W, (Instr.slice 45 v none (some (.int .i64 (i : Int))) none).run Try.prog W = .ok v' W) ∧ TR w base v' (L.take i) := by
  rcases h with ⟨rfl, rfl⟩ | ⟨g, off, c, rfl, c2, c3, c4, c5⟩
  · simp only [List.length_nil, Nat.le_zero] at hi
    subst hi
    exact ⟨.slice none 0 0, fun W => by (simp [Instr.slice, Instr.sliceBounds, Instr.sliceBound, asIntOf, run_underlying Try.underlying45, Try.sizeOf57, Result.andThen]), Or.inl ⟨rfl, rfl⟩⟩
  · refine ⟨.slice (some ⟨g, off, none⟩) i c, fun W => by (simp [Instr.slice, Instr.sliceBounds, Instr.sliceBound, asIntOf, run_underlying Try.underlying45, Try.sizeOf57, Result.andThen, Addr.add_mid, show i ≤ c by omega, show i ≤ L.length by omega]; try (split <;> simp [Addr.add_mid, *])), Or.inr ⟨g, off, c, by rw [List.length_take, Nat.min_eq_left hi], by rw [List.length_take]; omega, c3, c4, fun j e he => ?_⟩⟩
    have hj : j < i := by have := (List.getElem?_eq_some_iff.1 he).1; rw [List.length_take] at this; omega
    rw [List.getElem?_take_of_lt hj] at he
    exact c5 j e he
theorem from_tr {w : World} {base : Nat} {v : Value} {L : List Tm} (h : TR w base v L) {i : Nat} (hi : i ≤ L.length) :
    ∃ v', (∀ W, (Instr.slice 45 v (some (.int .i64 (i : Int))) none none).run Try.prog W = .ok v' W) ∧ TR w base v' (L.drop i) := by
  rcases h with ⟨rfl, rfl⟩ | ⟨g, off, c, rfl, c2, c3, c4, c5⟩
  · simp only [List.length_nil, Nat.le_zero] at hi
    subst hi
    exact ⟨.slice none 0 0, fun W => by (simp [Instr.slice, Instr.sliceBounds, Instr.sliceBound, asIntOf, run_underlying Try.underlying45, Try.sizeOf57, Result.andThen]), Or.inl ⟨rfl, rfl⟩⟩
  · refine ⟨.slice (if c = i then some ⟨g, off, none⟩ else some ⟨g, off + i * 2, none⟩) (L.length - i) (c - i), fun W => by (simp [Instr.slice, Instr.sliceBounds, Instr.sliceBound, asIntOf, run_underlying Try.underlying45, Try.sizeOf57, Result.andThen, Addr.add_mid, show i ≤ c by omega, show i ≤ L.length by omega]; try (split <;> simp [Addr.add_mid, *])), ?_⟩
    by_cases hc : c = i
    · rw [if_pos hc]
      have : L.drop i = [] := List.drop_eq_nil_of_le (by omega)
      rw [this]
      exact Or.inr ⟨g, off, c - i, by rw [show L.length - i = 0 by omega]; rfl, by simp, c3, c4, fun j e he => by simp at he⟩
    · rw [if_neg hc]
      refine Or.inr ⟨g, off + i * 2, c - i, by rw [List.length_drop], by rw [List.length_drop]; omega, c3, c4, fun j e he => ?_⟩
      rw [List.getElem?_drop] at he
      have := c5 (i + j) e he
      rw [show off + i * 2 + j * 2 = off + (i + j) * 2 by omega]
      exact this
end Go.Proofs.Ytbdloehdhdifpaa
