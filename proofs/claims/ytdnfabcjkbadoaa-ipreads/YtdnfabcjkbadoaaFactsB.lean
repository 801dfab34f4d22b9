/- A region that draws its order, by facts, where the last operation waits for all others and writes. Nothing of the program is named here. -/
import Derived.Test.YtdnfabcjkbadoaaFacts
namespace Go.Proofs.Ytdnfabcjkbadoaa
open Go.RowKit

section
variable {P : Program} {ops : Array Oper} {Q : Exit → Act → World → Prop} {md : Region.Mode}

/-- The last operation waits for all others. -/
def lastB (md : Region.Mode) (ops : Array Oper) (m : Nat) : Bool := decide (ops.size = m + 1) && match ops[m]? with
  | some o => (List.range m).all fun j => o.after.any fun e => Region.binds md e && e.on == j
  | none => false
theorem lastB_size {m : Nat} (h : lastB md ops m = true) : ops.size = m + 1 := by
  unfold lastB at h
  simp only [Bool.and_eq_true] at h
  exact of_decide_eq_true h.1
theorem lastB_all {m : Nat} (h : lastB md ops m = true) {o : Oper} (ho : ops[m]? = some o) {l : Array Bool} (hall : ∀ e ∈ o.after, Region.binds md e = true → l.getD e.on false = true) : ∀ j, j < m → l.getD j false = true := by
  intro j hj
  unfold lastB at h
  simp only [Bool.and_eq_true, ho] at h
  have h1 := List.all_eq_true.1 h.2 j (List.mem_range.2 hj)
  obtain ⟨e, he, hb⟩ := Array.any_eq_true'.1 h1
  simp only [Bool.and_eq_true, beq_iff_eq] at hb
  rw [← hb.2]
  exact hall e he hb.1

/-- As region_facts, where the last operation waits for all others and is walked by itself: it may write what it likes. -/
theorem region_facts_last (S : World → Prop) (G : Nat → Value → World → Prop) {a0 : Act} {n fuel m : Nat} (hlast : lastB md ops m = true) (hord : orderlyB md ops = true) (hn : a0.tmps.size = n)
    (hdb : dstB ops n = true)
    (hG : ∀ i v w w', G i v w → Below w.heap.size w w' → G i v w')
    (hops : StepsOk P md ops Q S G a0 n (ops.toList.take m) 0)
    (hend : ∀ (om : Oper), ops[m]? = some om → ∀ a w, S w → a.tmps.size = n → a.defers = a0.defers → (∀ k, slotFreeB ops k = true → a.tmps.getD k undef = a0.tmps.getD k undef) → (∀ (i : Nat) (o : Oper) (d : Nat), i < m → ops[i]? = some o → o.dst = some d → G i (a.tmps.getD d undef) w) →
      ∀ K : Act → World → Prop, (∀ a' w', Q .normal a' w' → K a' w') → if Region.wanted om (yielded ops a.tmps) = true then Oper.wp P om a w K Q else K (a.put om.dst undef) w)
    {w : World} (hS : S w) (hf : ops.size ≤ fuel) : wpAny P md ops Q fuel (Array.replicate ops.size false) a0 w := by
  have hsz := lastB_size hlast
  refine wpAny_inv (I := fun l a w => (Inv ops S G a0 n l a w ∧ l.getD m true = false) ∨ ((∀ i, i < ops.size → l.getD i true = true) ∧ Q .normal a w)) ?_ ?_ fuel _ a0 w ?_ ?_
  · intro l a w i hII hi
    obtain ⟨hun, o, ho, hall⟩ := mem_ready.1 hi
    have hio : i < ops.size := (Array.getElem?_eq_some_iff.1 ho).1
    rcases hII with ⟨hI, hm⟩ | ⟨hdone, _⟩
    case inr => rw [hdone i hio] at hun; cases hun
    refine wpOp_step ho fun K' hK => ?_
    by_cases him : i = m
    · subst him
      have hl := lastB_all hlast ho hall
      refine hend o ho a w hI.holds hI.tsize hI.defers hI.base (fun j oj d hj hoj hd => hI.facts j oj d hoj hd (hl j hj)) K' ?_
      intro a' w' hq
      refine hK a' w' (.inr ⟨fun j hj => ?_, hq⟩)
      by_cases hji : j = i
      · subst hji
        rw [Array.getD_eq_getD_getElem?, Array.getElem?_setIfInBounds]
        simp [hI.size, hio]
      · have h1 := hl j (by omega)
        have hlj : j < l.size := by rw [hI.size]; exact hj
        rw [Array.getD_eq_getD_getElem?, Array.getElem?_eq_getElem hlj] at h1
        rw [Array.getD_eq_getD_getElem?, Array.getElem?_setIfInBounds_ne (Ne.symm hji), Array.getElem?_eq_getElem hlj]
        exact h1
    · have hlt : i < m := by omega
      have hop := steps_at (ops.toList.take m) 0 hops i o (by rw [List.getElem?_take, if_pos hlt]; simpa using ho)
      rw [Nat.zero_add] at hop
      refine hop a w hI.holds hI.tsize hI.base ?_ K' ?_
      · intro e he hb oe d hoe hd
        exact hI.facts e.on oe d hoe hd (hall e he hb)
      · intro v w' hS' hB hg
        apply hK
        refine .inl ⟨?_, ?_⟩
        · have hput : (a.put o.dst v).tmps.size = n ∧ (a.put o.dst v).defers = a.defers := by
            cases o.dst <;> simp [Act.put, hI.tsize]
          refine ⟨by simp [hI.size], hput.1, hput.2.trans hI.defers, hS', ?_, ?_⟩
          · intro k hk
            cases hd : o.dst with
            | none => exact hI.base k hk
            | some d =>
              have : d ≠ k := fun e => slotFree_spec hk i o ho (by rw [hd, e])
              rw [put_other this]
              exact hI.base k hk
          · intro j oj d hoj hd hl
            by_cases hji : j = i
            · subst hji
              obtain rfl : o = oj := Option.some.inj (ho.symm.trans hoj)
              rw [hd, put_self (by rw [hI.tsize]; exact dst_spec hdb j o d ho hd)]
              exact hg
            · have hl' : l.getD j false = true := by
                rw [Array.getD_eq_getD_getElem?, Array.getElem?_setIfInBounds_ne (Ne.symm hji), ← Array.getD_eq_getD_getElem?] at hl
                exact hl
              have old := hG j _ w w' (hI.facts j oj d hoj hd hl') hB
              cases hdo : o.dst with
              | none => exact old
              | some d' =>
                have : d' ≠ d := fun e => orderly_dst hord j i oj o d hoj ho hd (Ne.symm hji) (by rw [hdo, e])
                rw [put_other this]
                exact old
        · rw [Array.getD_eq_getD_getElem?, Array.getElem?_setIfInBounds_ne him, ← Array.getD_eq_getD_getElem?]
          exact hm
  · intro l a w hII hr
    rcases hII with ⟨hI, hm⟩ | ⟨_, hq⟩
    · have := all_listed hord hI.size hr m (by omega)
      have hlm : m < l.size := by rw [hI.size]; omega
      rw [Array.getD_eq_getD_getElem?, Array.getElem?_eq_getElem hlm] at this hm
      have h1 : l[m] = true := this
      have h2 : l[m] = false := hm
      rw [h1] at h2; cases h2
    · exact hq
  · simp; omega
  · refine .inl ⟨⟨by simp, hn, rfl, hS, fun _ _ => rfl, ?_⟩, by simp [hsz]⟩
    intro i o d ho hd hl
    rw [Array.getD_eq_getD_getElem?] at hl
    by_cases hi : i < ops.size
    · simp [hi] at hl
    · simp [hi] at hl
end
end Go.Proofs.Ytdnfabcjkbadoaa
