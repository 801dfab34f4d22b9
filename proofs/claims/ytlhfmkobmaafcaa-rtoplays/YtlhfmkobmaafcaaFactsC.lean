/- A region that draws its order, by facts, whose last operations go one behind the other, each behind all that stand ahead of it: these are walked by themselves, and may write. Nothing of the program is named here. -/
import Derived.Test.YtlhfmkobmaafcaaFacts
namespace Go.Proofs.Ytlhfmkobmaafcaa
open Go.RowKit

section
variable {P : Program} {ops : Array Oper} {Q : Exit → Act → World → Prop} {md : Region.Mode}

/-- From place m on each operation waits for all that stand ahead of it. -/
def serialB (md : Region.Mode) (ops : Array Oper) (m : Nat) : Bool := (List.range ops.size).all fun i => decide (i < m) || match ops[i]? with
  | some o => (List.range i).all fun j => o.after.any fun e => Region.binds md e && e.on == j
  | none => false
theorem serialB_all {m : Nat} (h : serialB md ops m = true) {i : Nat} {o : Oper} (ho : ops[i]? = some o) (hi : m ≤ i) {l : Array Bool} (hall : ∀ e ∈ o.after, Region.binds md e = true → l.getD e.on false = true) : ∀ j, j < i → l.getD j false = true := by
  intro j hj
  have hio : i < ops.size := (Array.getElem?_eq_some_iff.1 ho).1
  have h1 := List.all_eq_true.1 h i (List.mem_range.2 hio)
  rw [ho, decide_eq_false (by omega), Bool.false_or] at h1
  have h2 := List.all_eq_true.1 h1 j (List.mem_range.2 hj)
  obtain ⟨e, he, hb⟩ := Array.any_eq_true'.1 h2
  simp only [Bool.and_eq_true, beq_iff_eq] at hb
  rw [← hb.2]
  exact hall e he hb.1

/-- The last operations, one behind the other. -/
def TailOk (P : Program) (ops : Array Oper) (Q : Exit → Act → World → Prop) : List Oper → Act → World → Prop
  | [], a, w => Q .normal a w
  | o :: r, a, w => ∀ K : Act → World → Prop, (∀ a' w', TailOk P ops Q r a' w' → K a' w') → if Region.wanted o (yielded ops a.tmps) = true then Oper.wp P o a w K Q else K (a.put o.dst undef) w

theorem TailOk_nil {a : Act} {w : World} (h : Q .normal a w) : TailOk P ops Q [] a w := h
theorem getD_flip {l : Array Bool} {j : Nat} (h1 : l.getD j false = true) (h2 : l.getD j true = false) : False := by
  rw [Array.getD_eq_getD_getElem?] at h1 h2
  cases h : l[j]? with
  | none => rw [h] at h1; cases h1
  | some b => rw [h] at h1 h2; simp at h1 h2; rw [h1] at h2; cases h2
theorem getD_set_self {l : Array Bool} {j : Nat} (h : j < l.size) : (l.setIfInBounds j true).getD j false = true := by
  rw [Array.getD_eq_getD_getElem?, Array.getElem?_setIfInBounds]
  simp [h]
theorem getD_set_ne {l : Array Bool} {i j : Nat} {b : Bool} (h : i ≠ j) : (l.setIfInBounds i true).getD j b = l.getD j b := by
  rw [Array.getD_eq_getD_getElem?, Array.getElem?_setIfInBounds_ne h, ← Array.getD_eq_getD_getElem?]
theorem drop_at {i : Nat} {o : Oper} (ho : ops[i]? = some o) : ops.toList.drop i = o :: ops.toList.drop (i + 1) := by
  have hi : i < ops.toList.length := by simpa using (Array.getElem?_eq_some_iff.1 ho).1
  rw [List.drop_eq_getElem_cons hi]
  have : ops.toList[i]? = some o := by simpa using ho
  rw [List.getElem?_eq_getElem hi] at this
  rw [Option.some.inj this]

/-- As region_facts, where the operations from place m on go one behind the other and are walked by themselves. -/
theorem region_facts_tail (S : World → Prop) (G : Nat → Value → World → Prop) {a0 : Act} {n fuel : Nat} (m : Nat) (hser : serialB md ops m = true) (hord : orderlyB md ops = true) (hn : a0.tmps.size = n)
    (hdb : dstB ops n = true)
    (hG : ∀ i v w w', G i v w → Below w.heap.size w w' → G i v w')
    (hops : StepsOk P md ops Q S G a0 n (ops.toList.take m) 0)
    (hend : ∀ a w, S w → a.tmps.size = n → a.defers = a0.defers → (∀ k, slotFreeB ops k = true → a.tmps.getD k undef = a0.tmps.getD k undef) → (∀ (i : Nat) (o : Oper) (d : Nat), i < m → ops[i]? = some o → o.dst = some d → G i (a.tmps.getD d undef) w) →
      TailOk P ops Q (ops.toList.drop m) a w)
    {w : World} (hS : S w) (hf : ops.size ≤ fuel) : wpAny P md ops Q fuel (Array.replicate ops.size false) a0 w := by
  refine wpAny_inv (I := fun l a w => (Inv ops S G a0 n l a w ∧ ∀ i, m ≤ i → i < ops.size → l.getD i true = false) ∨ (l.size = ops.size ∧ ∃ k, (∀ i, k ≤ i → i < ops.size → l.getD i true = false) ∧ (∀ i, i < k → i < ops.size → l.getD i false = true) ∧ m ≤ k ∧ TailOk P ops Q (ops.toList.drop k) a w)) ?_ ?_ fuel _ a0 w ?_ ?_
  · intro l a w i hII hi
    obtain ⟨hun, o, ho, hall⟩ := mem_ready.1 hi
    have hio : i < ops.size := (Array.getElem?_eq_some_iff.1 ho).1
    refine wpOp_step ho fun K' hK => ?_
    rcases hII with ⟨hI, hm⟩ | ⟨hsz, k, hun', hli, hmk, hT⟩
    · by_cases him : i < m
      · have hop := steps_at (ops.toList.take m) 0 hops i o (by rw [List.getElem?_take, if_pos him]; simpa using ho)
        rw [Nat.zero_add] at hop
        refine hop a w hI.holds hI.tsize hI.base ?_ K' ?_
        · intro e he hb oe d hoe hd
          exact hI.facts e.on oe d hoe hd (hall e he hb)
        · intro v w' hS' hB hg
          apply hK
          refine .inl ⟨?_, ?_⟩
          · have hput : (a.put o.dst v).tmps.size = n ∧ (a.put o.dst v).defers = a.defers := by
              cases o.dst <;> simp [Act.put, hI.tsize]
            refine ⟨by simp [hI.size], hput.1, hput.2.trans hI.defers, hS', ?_, ?_⟩
            · intro k hk
              cases hd : o.dst with
              | none => exact hI.base k hk
              | some d =>
                have : d ≠ k := fun e => slotFree_spec hk i o ho (by rw [hd, e])
                rw [put_other this]
                exact hI.base k hk
            · intro j oj d hoj hd hl
              by_cases hji : j = i
              · subst hji
                obtain rfl : o = oj := Option.some.inj (ho.symm.trans hoj)
                rw [hd, put_self (by rw [hI.tsize]; exact dst_spec hdb j o d ho hd)]
                exact hg
              · have hl' : l.getD j false = true := by rw [← getD_set_ne (Ne.symm hji)]; exact hl
                have old := hG j _ w w' (hI.facts j oj d hoj hd hl') hB
                cases hdo : o.dst with
                | none => exact old
                | some d' =>
                  have : d' ≠ d := fun e => orderly_dst hord j i oj o d hoj ho hd (Ne.symm hji) (by rw [hdo, e])
                  rw [put_other this]
                  exact old
          · intro j hj hjs
            rw [getD_set_ne (by omega)]
            exact hm j hj hjs
      · have hmi : m ≤ i := by omega
        have hpre := serialB_all hser ho hmi hall
        have him' : i = m := by
          apply Classical.byContradiction
          intro hne
          exact getD_flip (hpre m (by omega)) (hm m (Nat.le_refl _) (by omega))
        subst him'
        have hT := hend a w hI.holds hI.tsize hI.defers hI.base (fun j oj d hj hoj hd => hI.facts j oj d hoj hd (hpre j hj))
        rw [drop_at ho] at hT
        refine hT K' fun a' w' hT' => hK a' w' (.inr ⟨by simp [hI.size], i + 1, ?_, ?_, by omega, hT'⟩)
        · intro j hj hjs
          rw [getD_set_ne (by omega)]
          exact hm j (by omega) hjs
        · intro j hj hjs
          by_cases hji : j = i
          · subst hji; exact getD_set_self (by rw [hI.size]; exact hio)
          · rw [getD_set_ne (Ne.symm hji)]; exact hpre j (by omega)
    · have hki : k ≤ i := by
        apply Classical.byContradiction
        intro hne
        exact getD_flip (hli i (by omega) hio) hun
      have hpre := serialB_all hser ho (by omega) hall
      have hik : i = k := by
        apply Classical.byContradiction
        intro hne
        exact getD_flip (hpre k (by omega)) (hun' k (Nat.le_refl _) (by omega))
      subst hik
      rw [drop_at ho] at hT
      refine hT K' fun a' w' hT' => hK a' w' (.inr ⟨by simp [hsz], i + 1, ?_, ?_, by omega, hT'⟩)
      · intro j hj hjs
        rw [getD_set_ne (by omega)]
        exact hun' j (by omega) hjs
      · intro j hj hjs
        by_cases hji : j = i
        · subst hji; exact getD_set_self (by rw [hsz]; exact hio)
        · rw [getD_set_ne (Ne.symm hji)]; exact hpre j (by omega)
  · intro l a w hII hr
    rcases hII with ⟨hI, hm⟩ | ⟨hsz, k, hun', hli, hmk, hT⟩
    · have hal := all_listed hord hI.size hr
      by_cases hms : m < ops.size
      · exact (getD_flip (hal m hms) (hm m (Nat.le_refl _) hms)).elim
      · have hT := hend a w hI.holds hI.tsize hI.defers hI.base (fun j oj d hj hoj hd => hI.facts j oj d hoj hd (hal j (Array.getElem?_eq_some_iff.1 hoj).1))
        rw [List.drop_eq_nil_of_le (by simpa using Nat.not_lt.1 hms)] at hT
        exact hT
    · have hal := all_listed hord hsz hr
      by_cases hks : k < ops.size
      · exact (getD_flip (hal k hks) (hun' k (Nat.le_refl _) hks)).elim
      · rw [List.drop_eq_nil_of_le (by simpa using Nat.not_lt.1 hks)] at hT
        exact hT
  · simp; omega
  · refine .inl ⟨⟨by simp, hn, rfl, hS, fun _ _ => rfl, ?_⟩, fun i _ hi => by simp [hi]⟩
    intro i o d ho hd hl
    rw [Array.getD_eq_getD_getElem?] at hl
    by_cases hi : i < ops.size
    · simp [hi] at hl
    · simp [hi] at hl
end
end Go.Proofs.Ytlhfmkobmaafcaa
