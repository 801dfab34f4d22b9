/- The document's list of what was learnt, as a row of three cells an element; its Down. -/
import Derived.Test.YtajknafmlghcgaaRa
import Derived.Test.YtajknafmlghcgaaBg
namespace Go.Proofs.Ytajknafmlghcgaa
open Go.RowKit Go.Maps
set_option maxRecDepth 100000
set_option linter.unusedVariables false
set_option linter.unusedSimpArgs false

def enC (e : En) : List Value := [.int .i64 e.1, .int .i64 e.2.1, .int .i64 e.2.2]
/-- A slice of Heard of its own memory, from base on. -/
def HR (w : World) (base : Nat) (v : Value) (l : List En) : Prop := w.ownsRow base 68 3 v l.length (l.flatMap enC)
theorem HR.nil (w : World) (base : Nat) : HR w base (.slice none 0 0) [] := World.ownsRow_nil _ _ _ _
theorem infoH : (Try.prog.info? 68).map (fun i => (i.zero, i.size, i.bytes)) = some (some (.agg #[.int .i64 0, .int .i64 0, .int .i64 0]), 3, 24) := by kernel_rfl
theorem HR.ge {w : World} {base : Nat} {v : Value} {l : List En} (h : HR w base v l) : ∀ j, v.ownBlock = some j → base ≤ j := by
  intro j hj
  rcases h.2 with ⟨rfl, -⟩ | ⟨g, cap, cur, rfl, hg, -⟩
  · simp [Value.ownBlock] at hj
  · simp [Value.ownBlock] at hj; omega
theorem HR.turn {S : Nat → Prop} {w w' : World} {base : Nat} {v : Value} {l : List En} (h : HR w base v l) (ht : Turn S w w') (hS : ∀ k, v.ownBlock = some k → ¬ S k) : HR w' base v l := by
  obtain ⟨i1, i2⟩ := h
  refine ⟨i1, ?_⟩
  rcases i2 with h | ⟨g, cap, cur, a1, a2, a3, a4⟩
  · exact Or.inl h
  · exact Or.inr ⟨g, cap, cur, a1, a2, (ht.block g (Array.getElem?_eq_some_iff.1 a3).1 (hS g (by rw [a1]; simp [Value.ownBlock]))).trans a3, a4⟩
theorem flat_len (l : List En) : (l.flatMap enC).length = l.length * 3 := by
  induction l with
  | nil => rfl
  | cons y r ih => simp [List.flatMap_cons, enC, ih]; omega
theorem flat_at : ∀ (l : List En) (i : Nat) (e : En), l[i]? = some e → (l.flatMap enC)[i * 3]? = some (.int .i64 e.1) ∧ (l.flatMap enC)[i * 3 + 1]? = some (.int .i64 e.2.1) ∧ (l.flatMap enC)[i * 3 + 2]? = some (.int .i64 e.2.2)
  | [], i, e, h => by simp at h
  | y :: r, 0, e, h => by
    obtain rfl : y = e := by simpa using h
    simp [List.flatMap_cons, enC]
  | y :: r, i + 1, e, h => by
    have := flat_at r i e (by simpa using h)
    rw [show (i + 1) * 3 = i * 3 + 3 by omega]
    simpa [List.flatMap_cons, enC] using this
/-- The cells of an element. -/
theorem HR.cells {w : World} {base : Nat} {v : Value} {l : List En} (h : HR w base v l) {i : Nat} {e : En} (he : l[i]? = some e) :
    ∃ g cap, v = .slice (some ⟨g, 0, none⟩) l.length cap ∧ base ≤ g ∧ w.rangeAt g (i * 3) (enC e) := by
  have hi : i < l.length := (List.getElem?_eq_some_iff.1 he).1
  rcases h.2 with ⟨rfl, h0⟩ | ⟨g, cap, cur, rfl, hg, hb, h1, h2, h3, h4⟩
  · omega
  · refine ⟨g, cap, rfl, hg, ?_⟩
    obtain ⟨e0, e1, e2⟩ := flat_at l i e he
    have hc : ∀ j u, (l.flatMap enC)[j]? = some u → w.cell? ⟨g, j, none⟩ = some u := by
      intro j u hu
      rw [← h4] at hu
      have hj : j < l.length * 3 := by
        have := (List.getElem?_eq_some_iff.1 hu).1
        rw [List.length_take] at this
        omega
      rw [List.getElem?_take_of_lt hj] at hu
      simp [World.cell?, hb]
      simpa using hu
    intro j u hu
    match j, hu with
    | 0, hu => obtain rfl : (.int .i64 e.1 : Value) = u := by simpa [enC] using hu
               exact hc _ _ e0
    | 1, hu => obtain rfl : (.int .i64 e.2.1 : Value) = u := by simpa [enC] using hu
               exact hc _ _ e1
    | 2, hu => obtain rfl : (.int .i64 e.2.2 : Value) = u := by simpa [enC] using hu
               exact hc _ _ e2
    | j + 3, hu => simp [enC] at hu
/-- append of one. -/
theorem wpList_append3 {w : World} {ops : Array Oper} {rest : List Oper} {o : Oper} {a : Act} {Q : Exit → Act → World → Prop} (hgd : o.guard = none) (s x : Operand)
    (ho : o.op = .call { callee := .builtin .append, args := #[s, x], argTypes := #[59, 59] }) (base : Nat) (v : Value) (l : List En) (e : En) (hs : a.eval s = v) (hown : HR w base v l) (hx : a.eval x = .slice (some ⟨w.heap.size, 0, none⟩) 1 1) (hbase : base ≤ w.heap.size) (hlen : l.length < 1000000)
    (h : ∀ v' w', HR w' base v' (l ++ [e]) → Below base w w' → Turn (fun k => v.ownBlock = some k) w w' → wpList Try.prog ops Q rest (a.put o.dst v') w') : wpList Try.prog ops Q (o :: rest) a (w.alloc (.cells #[.int .i64 e.1, .int .i64 e.2.1, .int .i64 e.2.2] 68)) := by
  obtain ⟨i0, hi, hz0, hz1, hz2⟩ := info_parts infoH
  refine wpList_append_own _ hgd s x 59 ho base 68 i0 (.agg #[.int .i64 0, .int .i64 0, .int .i64 0]) 3 24 Try.underlying59 hi hz0 hz1 hz2 rfl (by decide) v l.length (l.flatMap enC) hs (World.ownsRow.alloc hown _) ⟨w.heap.size, 0, none⟩ 1 1 (enC e) hx rfl ?_ (by simp [enC, Value.oneCell']) (by unfold maxLen; omega) (by omega) (Nat.le_trans hbase (bel1 w _).size) ?_
  · intro j u hu
    rw [Addr.add_lit, Nat.zero_add]
    exact ((At.box w #[.int .i64 e.1, .int .i64 e.2.1, .int .i64 e.2.2] 68).2 j u (by simpa [enC] using hu)).1
  · intro v' w' h1 h2 h3
    have hT : Turn (fun k => v.ownBlock = some k) w w' := (Turn.of_below (bel1 w _)).and h2 (fun j hj => Or.inl hj)
    refine h v' w' ?_ (hT.below hbase (fun k hk he => by have := hown.ge k he; omega)) hT
    unfold HR
    simpa using h1
end Go.Proofs.Ytajknafmlghcgaa
