/- A map[int]int as a function. -/
import Derived.Test.YtajknafmlghcgaaBi
namespace Go.Proofs.Ytajknafmlghcgaa
open Go.RowKit Go.Maps
set_option maxRecDepth 100000
set_option linter.unusedVariables false
set_option linter.unusedSimpArgs false

/-- Block K is a map[int]int that holds g; it has at most n keys. -/
def IM (w : World) (K n : Nat) (g : Int → Option Int) : Prop :=
  ∃ D, w.ownsMap Try.prog 3 (plainElem (H := Unit) Try.prog 3) K n D ∧ (∀ k, Maps.has D (.int .i64 k) = (g k).isSome) ∧ ∀ k, D.atKey (.int .i64 k) (.lit (.int .i64 0)) = .lit (.int .i64 ((g k).getD 0))
theorem IM.made (w : World) : IM (w.alloc (.map #[] 0)) w.heap.size 0 (fun _ => none) := ⟨.map [], World.ownsMap_made _ _ _ _, fun k => by simp [has_eq], fun k => by simp [DataW.atKey]⟩
theorem IM.turn {S : Nat → Prop} {w w' : World} {K n : Nat} {g : Int → Option Int} (h : IM w K n g) (ht : Turn S w w') (hs : ¬ S K) : IM w' K n g := by
  obtain ⟨D, ⟨es, clock, hb, hr⟩, h2⟩ := h
  exact ⟨D, ⟨es, clock, (ht.block K (Array.getElem?_eq_some_iff.1 hb).1 hs).trans hb, hr⟩, h2⟩
theorem IM.later {w w' : World} {K n : Nat} {g : Int → Option Int} (h : IM w K n g) (hb : Below w.heap.size w w') : IM w' K n g := h.turn (S := fun _ => False) (Turn.of_below hb) (fun h => h)
theorem IM.lt {w : World} {K n : Nat} {g : Int → Option Int} (h : IM w K n g) : K < w.heap.size := by
  obtain ⟨D, h, -⟩ := h
  exact h.lt
theorem IM.mono {w : World} {K n m : Nat} {g : Int → Option Int} (h : IM w K n g) (hn : n ≤ m) : IM w K m g := by
  obtain ⟨D, h, h2⟩ := h
  exact ⟨D, h.mono hn, h2⟩
theorem zeroI (w : World) : (zeroValue 3).run Try.prog w = .ok (.int .i64 0) w := by kernel_rfl
theorem IM.look {w : World} {K n : Nat} {g : Int → Option Int} (h : IM w K n g) {k : Int} (hk : (Lit.int .i64 k).wf = true) : (Instr.lookup 48 (.map (some K)) (.int .i64 k) false).run Try.prog w = .ok (.int .i64 ((g k).getD 0)) w := by
  obtain ⟨D, h, -, h2⟩ := h
  obtain ⟨c, hr, hat, -⟩ := h.lookup_int law3 Try.underlying48 Try.underlying3 (zeroI w) (keyOf_int_mk Try.underlying3 hk)
  rw [h2 k] at hat
  injection hat with hat
  injection hat with h3 h4
  rw [hr, h4]
/-- 'v, ok := m[k]'. -/
theorem wpList_lookup_im {w : World} {ops : Array Oper} {rest : List Oper} {o : Oper} {a : Act} {Q : Exit → Act → World → Prop} (hg : o.guard = none) (m x : Operand) (hop : o.op = Op.lookup 48 m x true) (K n : Nat) (g : Int → Option Int) (k : Int) (hk : (Lit.int .i64 k).wf = true)
    (hm : a.eval m = .map (some K)) (hown : IM w K n g) (hx : a.eval x = .int .i64 k) (hK : wpList Try.prog ops Q rest (a.put o.dst (.tuple #[.int .i64 ((g k).getD 0), .bool (g k).isSome])) w) : wpList Try.prog ops Q (o :: rest) a w := by
  obtain ⟨D, h, h1, h2⟩ := hown
  refine wpList_lookup_own_ok_int w hg m x 48 hop 3 3 .i64 law3 Try.underlying48 Try.underlying3 (zeroI w) K n D hm h _ _ hx (keyOf_int_mk Try.underlying3 hk) ?_
  intro c hat hwc
  rw [h2 k] at hat
  injection hat with hat
  injection hat with h3 h4
  rw [h1 k, ← h4]
  exact hK
theorem IM.put {w : World} {K n : Nat} {g : Int → Option Int} (h : IM w K n g) (hn : n < maxLen) {k v : Int} (hk : (Lit.int .i64 k).wf = true) (hv : (Lit.int .i64 v).wf = true) :
    ∃ w', (Instr.mapUpdate 48 (.map (some K)) (.int .i64 k) (.int .i64 v)).run Try.prog w = .ok () w' ∧ IM w' K (n + 1) (fun x => if x = k then some v else g x) ∧ Turn (fun j => j = K) w w' := by
  obtain ⟨D, h, h1, h2⟩ := h
  obtain ⟨w', hr, ho, hg⟩ := h.update law3 Try.underlying48 hn (keyOf_int_mk Try.underlying3 hk) (plainElem_int Try.underlying3 hv)
  have hne : ∀ x : Int, x ≠ k → (Lit.int .i64 x) ≠ .int .i64 k := fun x hx e => hx (by injection e)
  refine ⟨w', hr, ⟨_, ho, fun x => ?_, fun x => ?_⟩, Turn.of_grown hg (fun j hj => by cases hj; exact Or.inl rfl)⟩
  · by_cases hx : x = k
    · subst hx
      rw [has_put_same h.isMap (show WideAt.IsKeyLit (.int .i64 x) from trivial)]
      simp
    · rw [has_put_other (hne x hx), h1 x]
      simp [hx]
  · by_cases hx : x = k
    · subst hx
      rw [atKey_put_same h.isMap (show WideAt.IsKeyLit (.int .i64 x) from trivial)]
      simp
    · rw [atKey_put_other (hne x hx), h2 x]
      simp [hx]
/-- 'm[k] = v'. -/
theorem wpList_put_im {w : World} {ops : Array Oper} {rest : List Oper} {o : Oper} {a : Act} {Q : Exit → Act → World → Prop} (hg : o.guard = none) (m x y : Operand) (hop : o.op = Op.mapUpdate 48 m x y) (K n : Nat) (g : Int → Option Int) (k v : Int) (hk : (Lit.int .i64 k).wf = true) (hv : (Lit.int .i64 v).wf = true) (hn : n < maxLen)
    (hm : a.eval m = .map (some K)) (hown : IM w K n g) (hx : a.eval x = .int .i64 k) (hy : a.eval y = .int .i64 v) (hK : ∀ w', IM w' K (n + 1) (fun x => if x = k then some v else g x) → Turn (fun j => j = K) w w' → wpList Try.prog ops Q rest (a.put o.dst undef) w') : wpList Try.prog ops Q (o :: rest) a w := by
  refine wpList_plain hg fun K' hK' => ?_
  obtain ⟨w', hrun, r1, r2⟩ := hown.put hn hk hv
  unfold Oper.wp
  simp [execOp, hop, hm, hx, hy, hrun, Result.andThen]
  exact hK' _ _ (hK w' r1 r2)
end Go.Proofs.Ytajknafmlghcgaa
