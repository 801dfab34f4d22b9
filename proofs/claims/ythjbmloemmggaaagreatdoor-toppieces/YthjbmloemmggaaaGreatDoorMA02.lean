/- the texts FactsC, FactsD, FactsE, FactsF, Gx, in part, merged by program -/
import Derived.WalkKit
import Derived.RegionTactic
import Derived.Below
import Derived.Laws.Tables
import Derived.Great.BuildSlice
import Derived.Test.YthjbmloemmggaaaGreatDoorMA01
namespace Go.Proofs.YthjbmloemmggaaaGreatDoor
open Go.RowKit
set_option maxRecDepth 100000
section
variable {P : Program} {ops : Array Oper} {Q : Exit → Act → World → Prop} {md : Region.Mode}
def TailOk (P : Program) (ops : Array Oper) (Q : Exit → Act → World → Prop) : List Oper → Act → World → Prop
  | [], a, w => Q .normal a w
  | o :: r, a, w => ∀ K : Act → World → Prop, (∀ a' w', TailOk P ops Q r a' w' → K a' w') → if Region.wanted o (yielded ops a.tmps) = true then Oper.wp P o a w K Q else K (a.put o.dst undef) w

theorem TailOk_nil {a : Act} {w : World} (h : Q .normal a w) : TailOk P ops Q [] a w := h
theorem getD_flip {l : Array Bool} {j : Nat} (h1 : l.getD j false = true) (h2 : l.getD j true = false) : False := by
  rw [Array.getD_eq_getD_getElem?] at h1 h2
  cases h : l[j]? with
  | none => rw [h] at h1; cases h1
  | some b => rw [h] at h1 h2; simp at h1 h2; rw [h1] at h2; cases h2
theorem getD_set_self {l : Array Bool} {j : Nat} (h : j < l.size) : (l.setIfInBounds j true).getD j false = true := by
  rw [Array.getD_eq_getD_getElem?, Array.getElem?_setIfInBounds]
  simp [h]
theorem getD_set_ne {l : Array Bool} {i j : Nat} {b : Bool} (h : i ≠ j) : (l.setIfInBounds i true).getD j b = l.getD j b := by
  rw [Array.getD_eq_getD_getElem?, Array.getElem?_setIfInBounds_ne h, ← Array.getD_eq_getD_getElem?]
theorem drop_at {i : Nat} {o : Oper} (ho : ops[i]? = some o) : ops.toList.drop i = o :: ops.toList.drop (i + 1) := by
  have hi : i < ops.toList.length := by simpa using (Array.getElem?_eq_some_iff.1 ho).1
  rw [List.drop_eq_getElem_cons hi]
  have : ops.toList[i]? = some o := by simpa using ho
  rw [List.getElem?_eq_getElem hi] at this
  rw [Option.some.inj this]

end
end Go.Proofs.YthjbmloemmggaaaGreatDoor

namespace Go.Proofs.YthjbmloemmggaaaGreatDoor
open Go.RowKit
set_option maxRecDepth 100000
section
variable {P : Program} {ops : Array Oper} {Q : Exit → Act → World → Prop} {md : Region.Mode}

def waits (md : Region.Mode) (ops : Array Oper) : Nat → Nat → List Nat
  | 0, _ => []
  | f + 1, i => match ops[i]? with
    | none => []
    | some o => o.after.toList.flatMap fun e => if Region.binds md e = true then e.on :: waits md ops f e.on else []
def serialT (md : Region.Mode) (ops : Array Oper) (f m : Nat) : Bool := (List.range ops.size).all fun i => decide (i < m) || (List.range i).all fun j => (waits md ops f i).contains j
def Closed (md : Region.Mode) (ops : Array Oper) (l : Array Bool) : Prop := ∀ i o, ops[i]? = some o → l.getD i false = true → ∀ e ∈ o.after, Region.binds md e = true → l.getD e.on false = true
theorem closed_none : Closed md ops (Array.replicate ops.size false) := by
  intro i o ho hl
  rw [Array.getD_eq_getD_getElem?] at hl
  by_cases hi : i < ops.size
  · simp [hi] at hl
  · simp [hi] at hl
theorem closed_set {l : Array Bool} {i : Nat} {o : Oper} (hC : Closed md ops l) (ho : ops[i]? = some o) (hall : ∀ e ∈ o.after, Region.binds md e = true → l.getD e.on false = true) : Closed md ops (l.setIfInBounds i true) := by
  have up : ∀ j, l.getD j false = true → (l.setIfInBounds i true).getD j false = true := by
    intro j hj
    by_cases hji : i = j
    · subst hji
      have hlt : i < l.size := by
        apply Classical.byContradiction
        intro hn
        rw [Array.getD_eq_getD_getElem?, Array.getElem?_eq_none (by omega)] at hj
        cases hj
      exact getD_set_self hlt
    · rw [getD_set_ne hji]; exact hj
  intro j oj hoj hl e he hb
  by_cases hji : i = j
  · subst hji
    obtain rfl : o = oj := Option.some.inj (ho.symm.trans hoj)
    exact up _ (hall e he hb)
  · rw [getD_set_ne hji] at hl
    exact up _ (hC j oj hoj hl e he hb)
theorem waits_listed {l : Array Bool} (hC : Closed md ops l) : ∀ (f i : Nat) (o : Oper), ops[i]? = some o → (∀ e ∈ o.after, Region.binds md e = true → l.getD e.on false = true) → ∀ j ∈ waits md ops f i, l.getD j false = true
  | 0, _, _, _, _ => by intro j hj; simp [waits] at hj
  | f + 1, i, o, ho, hall => by
    intro j hj
    simp only [waits, ho, List.mem_flatMap] at hj
    obtain ⟨e, he, hj⟩ := hj
    have he' : e ∈ o.after := by simpa using he
    by_cases hb : Region.binds md e = true
    · rw [if_pos hb] at hj
      have hl := hall e he' hb
      rcases List.mem_cons.1 hj with rfl | hj
      · exact hl
      · cases hoe : ops[e.on]? with
        | none =>
          cases f with
          | zero => simp [waits] at hj
          | succ f => simp [waits, hoe] at hj
        | some oe => exact waits_listed hC f e.on oe hoe (hC e.on oe hoe hl) j hj
    · rw [if_neg hb] at hj; cases hj
theorem serialT_all {m f : Nat} (h : serialT md ops f m = true) {i : Nat} {o : Oper} (ho : ops[i]? = some o) (hi : m ≤ i) {l : Array Bool} (hC : Closed md ops l) (hall : ∀ e ∈ o.after, Region.binds md e = true → l.getD e.on false = true) : ∀ j, j < i → l.getD j false = true := by
  intro j hj
  have hio : i < ops.size := (Array.getElem?_eq_some_iff.1 ho).1
  have h1 := List.all_eq_true.1 h i (List.mem_range.2 hio)
  rw [decide_eq_false (by omega), Bool.false_or] at h1
  have h2 := List.all_eq_true.1 h1 j (List.mem_range.2 hj)
  exact waits_listed hC f i o ho hall j (by simpa using h2)
theorem region_facts_end (S : World → Prop) (G : Nat → Value → World → Prop) {a0 : Act} {n fuel : Nat} (m f : Nat) (hser : serialT md ops f m = true) (hord : orderlyB md ops = true) (hn : a0.tmps.size = n)
    (hdb : dstB ops n = true)
    (hG : ∀ i v w w', G i v w → Below w.heap.size w w' → G i v w')
    (hops : StepsOk P md ops Q S G a0 n (ops.toList.take m) 0)
    (hend : ∀ a w, S w → a.tmps.size = n → a.defers = a0.defers → (∀ k, slotFreeB ops k = true → a.tmps.getD k undef = a0.tmps.getD k undef) → (∀ (i : Nat) (o : Oper) (d : Nat), i < m → ops[i]? = some o → o.dst = some d → G i (a.tmps.getD d undef) w) →
      TailOk P ops Q (ops.toList.drop m) a w)
    {w : World} (hS : S w) (hf : ops.size ≤ fuel) : wpAny P md ops Q fuel (Array.replicate ops.size false) a0 w := by
  refine wpAny_inv (I := fun l a w => Closed md ops l ∧ ((Inv ops S G a0 n l a w ∧ ∀ i, m ≤ i → i < ops.size → l.getD i true = false) ∨ (l.size = ops.size ∧ ∃ k, (∀ i, k ≤ i → i < ops.size → l.getD i true = false) ∧ (∀ i, i < k → i < ops.size → l.getD i false = true) ∧ m ≤ k ∧ TailOk P ops Q (ops.toList.drop k) a w))) ?_ ?_ fuel _ a0 w ?_ ?_
  · intro l a w i hCC hi
    obtain ⟨hC, hII⟩ := hCC
    obtain ⟨hun, o, ho, hall⟩ := mem_ready.1 hi
    have hio : i < ops.size := (Array.getElem?_eq_some_iff.1 ho).1
    refine wpOp_step ho fun K' hK => ?_
    rcases hII with ⟨hI, hm⟩ | ⟨hsz, k, hun', hli, hmk, hT⟩
    · by_cases him : i < m
      · have hop := steps_at (ops.toList.take m) 0 hops i o (by rw [List.getElem?_take, if_pos him]; simpa using ho)
        rw [Nat.zero_add] at hop
        refine hop a w hI.holds hI.tsize hI.base ?_ K' ?_
        · intro e he hb oe d hoe hd
          exact hI.facts e.on oe d hoe hd (hall e he hb)
        · intro v w' hS' hB hg
          apply hK
          refine ⟨closed_set hC ho hall, .inl ⟨?_, ?_⟩⟩
          · have hput : (a.put o.dst v).tmps.size = n ∧ (a.put o.dst v).defers = a.defers := by
              cases o.dst <;> simp [Act.put, hI.tsize]
            refine ⟨by simp [hI.size], hput.1, hput.2.trans hI.defers, hS', ?_, ?_⟩
            · intro k hk
              cases hd : o.dst with
              | none => exact hI.base k hk
              | some d =>
                have : d ≠ k := fun e => slotFree_spec hk i o ho (by rw [hd, e])
                rw [put_other this]
                exact hI.base k hk
            · intro j oj d hoj hd hl
              by_cases hji : j = i
              · subst hji
                obtain rfl : o = oj := Option.some.inj (ho.symm.trans hoj)
                rw [hd, put_self (by rw [hI.tsize]; exact dst_spec hdb j o d ho hd)]
                exact hg
              · have hl' : l.getD j false = true := by rw [← getD_set_ne (Ne.symm hji)]; exact hl
                have old := hG j _ w w' (hI.facts j oj d hoj hd hl') hB
                cases hdo : o.dst with
                | none => exact old
                | some d' =>
                  have : d' ≠ d := fun e => orderly_dst hord j i oj o d hoj ho hd (Ne.symm hji) (by rw [hdo, e])
                  rw [put_other this]
                  exact old
          · intro j hj hjs
            rw [getD_set_ne (by omega)]
            exact hm j hj hjs
      · have hmi : m ≤ i := by omega
        have hpre := serialT_all hser ho hmi hC hall
        have him' : i = m := by
          apply Classical.byContradiction
          intro hne
          exact getD_flip (hpre m (by omega)) (hm m (Nat.le_refl _) (by omega))
        subst him'
        have hT := hend a w hI.holds hI.tsize hI.defers hI.base (fun j oj d hj hoj hd => hI.facts j oj d hoj hd (hpre j hj))
        rw [drop_at ho] at hT
        refine hT K' fun a' w' hT' => hK a' w' ⟨closed_set hC ho hall, .inr ⟨by simp [hI.size], i + 1, ?_, ?_, by omega, hT'⟩⟩
        · intro j hj hjs
          rw [getD_set_ne (by omega)]
          exact hm j (by omega) hjs
        · intro j hj hjs
          by_cases hji : j = i
          · subst hji; exact getD_set_self (by rw [hI.size]; exact hio)
          · rw [getD_set_ne (Ne.symm hji)]; exact hpre j (by omega)
    · have hki : k ≤ i := by
        apply Classical.byContradiction
        intro hne
        exact getD_flip (hli i (by omega) hio) hun
      have hpre := serialT_all hser ho (by omega) hC hall
      have hik : i = k := by
        apply Classical.byContradiction
        intro hne
        exact getD_flip (hpre k (by omega)) (hun' k (Nat.le_refl _) (by omega))
      subst hik
      rw [drop_at ho] at hT
      refine hT K' fun a' w' hT' => hK a' w' ⟨closed_set hC ho hall, .inr ⟨by simp [hsz], i + 1, ?_, ?_, by omega, hT'⟩⟩
      · intro j hj hjs
        rw [getD_set_ne (by omega)]
        exact hun' j (by omega) hjs
      · intro j hj hjs
        by_cases hji : j = i
        · subst hji; exact getD_set_self (by rw [hsz]; exact hio)
        · rw [getD_set_ne (Ne.symm hji)]; exact hpre j (by omega)
  · intro l a w hCC hr
    obtain ⟨-, hII⟩ := hCC
    rcases hII with ⟨hI, hm⟩ | ⟨hsz, k, hun', hli, hmk, hT⟩
    · have hal := all_listed hord hI.size hr
      by_cases hms : m < ops.size
      · exact (getD_flip (hal m hms) (hm m (Nat.le_refl _) hms)).elim
      · have hT := hend a w hI.holds hI.tsize hI.defers hI.base (fun j oj d hj hoj hd => hI.facts j oj d hoj hd (hal j (Array.getElem?_eq_some_iff.1 hoj).1))
        rw [List.drop_eq_nil_of_le (by simpa using Nat.not_lt.1 hms)] at hT
        exact hT
    · have hal := all_listed hord hsz hr
      by_cases hks : k < ops.size
      · exact (getD_flip (hal k hks) (hun' k (Nat.le_refl _) hks)).elim
      · rw [List.drop_eq_nil_of_le (by simpa using Nat.not_lt.1 hks)] at hT
        exact hT
  · simp; omega
  · refine ⟨closed_none, .inl ⟨⟨by simp, hn, rfl, hS, fun _ _ => rfl, ?_⟩, fun i _ hi => by simp [hi]⟩⟩
    intro i o d ho hd hl
    rw [Array.getD_eq_getD_getElem?] at hl
    by_cases hi : i < ops.size
    · simp [hi] at hl
    · simp [hi] at hl
end
end Go.Proofs.YthjbmloemmggaaaGreatDoor

namespace Go.Proofs.YthjbmloemmggaaaGreatDoor
open Go.RowKit
set_option maxRecDepth 100000
section
variable {P : Program} {ops : Array Oper} {Q : Exit → Act → World → Prop} {md : Region.Mode}
def serialM (md : Region.Mode) (ops : Array Oper) (f m : Nat) : Bool := ((List.range m).all fun j => (waits md ops f m).contains j) && (List.range ops.size).all fun i => decide (i ≤ m) || (waits md ops f i).contains m
theorem serialM_at {m f : Nat} (h : serialM md ops f m = true) {i : Nat} {o : Oper} (ho : ops[i]? = some o) (hi : m ≤ i) {l : Array Bool} (hC : Closed md ops l) (hall : ∀ e ∈ o.after, Region.binds md e = true → l.getD e.on false = true) : (i = m ∧ ∀ j, j < m → l.getD j false = true) ∨ l.getD m false = true := by
  unfold serialM at h
  simp only [Bool.and_eq_true] at h
  by_cases e : i = m
  · subst e
    refine .inl ⟨rfl, fun j hj => ?_⟩
    have h2 := List.all_eq_true.1 h.1 j (List.mem_range.2 hj)
    exact waits_listed hC f i o ho hall j (by simpa using h2)
  · right
    have hio : i < ops.size := (Array.getElem?_eq_some_iff.1 ho).1
    have h1 := List.all_eq_true.1 h.2 i (List.mem_range.2 hio)
    rw [decide_eq_false (by omega), Bool.false_or] at h1
    exact waits_listed hC f i o ho hall m (by simpa using h1)
def maskA (n m : Nat) : Array Bool := ((List.range n).map fun i => decide (i < m)).toArray
theorem mask_of {n m : Nat} {l : Array Bool} (hs : l.size = n) (h1 : ∀ j, j < m → l.getD j false = true) (h2 : ∀ j, m ≤ j → j < n → l.getD j true = false) : l = maskA n m := by
  apply Array.ext
  · simp [maskA, hs]
  · intro j hj hj'
    have hjn : j < n := by omega
    have e : (maskA n m)[j] = decide (j < m) := by simp [maskA]
    rw [e]
    by_cases hm : j < m
    · have := h1 j hm
      rw [Array.getD_eq_getD_getElem?, Array.getElem?_eq_getElem hj] at this
      rw [decide_eq_true hm]; exact this
    · have := h2 j (by omega) hjn
      rw [Array.getD_eq_getD_getElem?, Array.getElem?_eq_getElem hj] at this
      rw [decide_eq_false hm]; exact this
theorem region_facts_then (S : World → Prop) (G : Nat → Value → World → Prop) {a0 : Act} {n fuel : Nat} (m f : Nat) (hser : serialM md ops f m = true) (hord : orderlyB md ops = true) (hn : a0.tmps.size = n)
    (hdb : dstB ops n = true)
    (hG : ∀ i v w w', G i v w → Below w.heap.size w w' → G i v w')
    (hops : StepsOk P md ops Q S G a0 n (ops.toList.take m) 0)
    (hend : ∀ a w, S w → a.tmps.size = n → a.defers = a0.defers → (∀ k, slotFreeB ops k = true → a.tmps.getD k undef = a0.tmps.getD k undef) → (∀ (i : Nat) (o : Oper) (d : Nat), i < m → ops[i]? = some o → o.dst = some d → G i (a.tmps.getD d undef) w) →
      wpAny P md ops Q (ops.size - m) (maskA ops.size m) a w)
    {w : World} (hS : S w) (hf : ops.size ≤ fuel) : wpAny P md ops Q fuel (Array.replicate ops.size false) a0 w := by
  refine wpAny_inv (I := fun l a w => Closed md ops l ∧ ((Inv ops S G a0 n l a w ∧ ∀ i, m ≤ i → i < ops.size → l.getD i true = false) ∨ ∃ f, wpAny P md ops Q f l a w)) ?_ ?_ fuel _ a0 w ?_ ?_
  · intro l a w i hCC hi
    obtain ⟨hC, hII⟩ := hCC
    obtain ⟨hun, o, ho, hall⟩ := mem_ready.1 hi
    have hio : i < ops.size := (Array.getElem?_eq_some_iff.1 ho).1
    rcases hII with ⟨hI, hm⟩ | ⟨f1, hT⟩
    · by_cases him : i < m
      · refine wpOp_step ho fun K' hK => ?_
        have hop := steps_at (ops.toList.take m) 0 hops i o (by rw [List.getElem?_take, if_pos him]; simpa using ho)
        rw [Nat.zero_add] at hop
        refine hop a w hI.holds hI.tsize hI.base ?_ K' ?_
        · intro e he hb oe d hoe hd
          exact hI.facts e.on oe d hoe hd (hall e he hb)
        · intro v w' hS' hB hg
          apply hK
          refine ⟨closed_set hC ho hall, .inl ⟨?_, ?_⟩⟩
          · have hput : (a.put o.dst v).tmps.size = n ∧ (a.put o.dst v).defers = a.defers := by
              cases o.dst <;> simp [Act.put, hI.tsize]
            refine ⟨by simp [hI.size], hput.1, hput.2.trans hI.defers, hS', ?_, ?_⟩
            · intro k hk
              cases hd : o.dst with
              | none => exact hI.base k hk
              | some d =>
                have : d ≠ k := fun e => slotFree_spec hk i o ho (by rw [hd, e])
                rw [put_other this]
                exact hI.base k hk
            · intro j oj d hoj hd hl
              by_cases hji : j = i
              · subst hji
                obtain rfl : o = oj := Option.some.inj (ho.symm.trans hoj)
                rw [hd, put_self (by rw [hI.tsize]; exact dst_spec hdb j o d ho hd)]
                exact hg
              · have hl' : l.getD j false = true := by rw [← getD_set_ne (Ne.symm hji)]; exact hl
                have old := hG j _ w w' (hI.facts j oj d hoj hd hl') hB
                cases hdo : o.dst with
                | none => exact old
                | some d' =>
                  have : d' ≠ d := fun e => orderly_dst hord j i oj o d hoj ho hd (Ne.symm hji) (by rw [hdo, e])
                  rw [put_other this]
                  exact old
          · intro j hj hjs
            rw [getD_set_ne (by omega)]
            exact hm j hj hjs
      · have hmi : m ≤ i := by omega
        obtain ⟨him', hpre⟩ : i = m ∧ ∀ j, j < m → l.getD j false = true := by
          rcases serialM_at hser ho hmi hC hall with h | h
          · exact h
          · exact (getD_flip h (hm m (Nat.le_refl _) (by omega))).elim
        subst him'
        have hT := hend a w hI.holds hI.tsize hI.defers hI.base (fun j oj d hj hoj hd => hI.facts j oj d hoj hd (hpre j hj))
        have hl : l = maskA ops.size i := mask_of hI.size (fun j hj => hpre j hj) (fun j hj hjs => hm j hj hjs)
        rw [← hl] at hT
        obtain ⟨f, hf1⟩ : ∃ f, ops.size - i = f + 1 := ⟨ops.size - i - 1, by omega⟩
        rw [hf1] at hT
        exact wpOp_mono (fun a' w' hT' => ⟨closed_set hC ho hall, .inr ⟨f, hT'⟩⟩) (hT.2 i hi)
    · cases f1 with
      | zero => rw [hT.1] at hi; cases hi
      | succ f =>
        exact wpOp_mono (fun a' w' hT' => ⟨closed_set hC ho hall, .inr ⟨f, hT'⟩⟩) (hT.2 i hi)
  · intro l a w hCC hr
    obtain ⟨-, hII⟩ := hCC
    rcases hII with ⟨hI, hm⟩ | ⟨f1, hT⟩
    · have hal := all_listed hord hI.size hr
      by_cases hms : m < ops.size
      · exact (getD_flip (hal m hms) (hm m (Nat.le_refl _) hms)).elim
      · have hT := hend a w hI.holds hI.tsize hI.defers hI.base (fun j oj d hj hoj hd => hI.facts j oj d hoj hd (hal j (Array.getElem?_eq_some_iff.1 hoj).1))
        have h0 : ops.size - m = 0 := by omega
        rw [h0] at hT
        exact hT.2
    · cases f1 with
      | zero => exact hT.2
      | succ f => exact hT.1 hr
  · simp; omega
  · refine ⟨closed_none, .inl ⟨⟨by simp, hn, rfl, hS, fun _ _ => rfl, ?_⟩, fun i _ hi => by simp [hi]⟩⟩
    intro i o d ho hd hl
    rw [Array.getD_eq_getD_getElem?] at hl
    by_cases hi : i < ops.size
    · simp [hi] at hl
    · simp [hi] at hl
theorem any_one {f i : Nat} {o : Oper} {l : Array Bool} {a : Act} {w : World} (hr : Region.ready md ops l = [i]) (ho : ops[i]? = some o)
    (h : ∀ K : Act → World → Prop, (∀ a' w', wpAny P md ops Q f (l.setIfInBounds i true) a' w' → K a' w') → if Region.wanted o (yielded ops a.tmps) = true then Oper.wp P o a w K Q else K (a.put o.dst undef) w) : wpAny P md ops Q (f + 1) l a w := by
  refine ⟨fun e => (by rw [hr] at e; cases e), fun j hj => ?_⟩
  rw [hr] at hj
  obtain rfl : j = i := by simpa using hj
  exact wpOp_step ho fun K' hK => h K' hK
theorem any_two {f i i2 : Nat} {o o2 : Oper} {l : Array Bool} {a : Act} {w : World} (hr : Region.ready md ops l = [i, i2]) (ho : ops[i]? = some o) (ho2 : ops[i2]? = some o2)
    (h : ∀ K : Act → World → Prop, (∀ a' w', wpAny P md ops Q f (l.setIfInBounds i true) a' w' → K a' w') → if Region.wanted o (yielded ops a.tmps) = true then Oper.wp P o a w K Q else K (a.put o.dst undef) w)
    (h2 : ∀ K : Act → World → Prop, (∀ a' w', wpAny P md ops Q f (l.setIfInBounds i2 true) a' w' → K a' w') → if Region.wanted o2 (yielded ops a.tmps) = true then Oper.wp P o2 a w K Q else K (a.put o2.dst undef) w) : wpAny P md ops Q (f + 1) l a w := by
  refine ⟨fun e => (by rw [hr] at e; cases e), fun j hj => ?_⟩
  rw [hr] at hj
  rcases List.mem_cons.1 hj with rfl | hj
  · exact wpOp_step ho fun K' hK => h K' hK
  · obtain rfl : j = i2 := by simpa using hj
    exact wpOp_step ho2 fun K' hK => h2 K' hK
theorem any_end {l : Array Bool} {a : Act} {w : World} (hr : Region.ready md ops l = []) (h : Q .normal a w) : wpAny P md ops Q 0 l a w := ⟨hr, h⟩
end
end Go.Proofs.YthjbmloemmggaaaGreatDoor

namespace Go.Proofs.YthjbmloemmggaaaGreatDoor
open Go.RowKit
set_option maxRecDepth 100000
section
variable {P : Program} {ops : Array Oper} {Q : Exit → Act → World → Prop} {md : Region.Mode}
def serialZ (md : Region.Mode) (ops : Array Oper) (f m z : Nat) : Bool := ((List.range m).all fun j => j == z || (waits md ops f m).contains j) && (List.range ops.size).all fun i => decide (i ≤ m) || (waits md ops f i).contains m
theorem serialZ_at {m z f : Nat} (h : serialZ md ops f m z = true) {i : Nat} {o : Oper} (ho : ops[i]? = some o) (hi : m ≤ i) {l : Array Bool} (hC : Closed md ops l) (hall : ∀ e ∈ o.after, Region.binds md e = true → l.getD e.on false = true) : (i = m ∧ ∀ j, j < m → j ≠ z → l.getD j false = true) ∨ l.getD m false = true := by
  unfold serialZ at h
  simp only [Bool.and_eq_true] at h
  by_cases e : i = m
  · subst e
    refine .inl ⟨rfl, fun j hj hjz => ?_⟩
    have h2 := List.all_eq_true.1 h.1 j (List.mem_range.2 hj)
    have h3 : (j == z) = false := by simpa using hjz
    rw [h3, Bool.false_or] at h2
    exact waits_listed hC f i o ho hall j (by simpa using h2)
  · right
    have hio : i < ops.size := (Array.getElem?_eq_some_iff.1 ho).1
    have h1 := List.all_eq_true.1 h.2 i (List.mem_range.2 hio)
    rw [decide_eq_false (by omega), Bool.false_or] at h1
    exact waits_listed hC f i o ho hall m (by simpa using h1)
def maskZ (n m z : Nat) : Array Bool := ((List.range n).map fun i => decide (i < m) && !(i == z)).toArray
theorem maskZ_of {n m z : Nat} {l : Array Bool} (hs : l.size = n) (hz : z < m) (h1 : ∀ j, j < m → j ≠ z → l.getD j false = true) (hzf : l.getD z false = false) (h2 : ∀ j, m ≤ j → j < n → l.getD j true = false) : l = maskZ n m z := by
  apply Array.ext
  · simp [maskZ, hs]
  · intro j hj hj'
    have hjn : j < n := by omega
    have e : (maskZ n m z)[j] = (decide (j < m) && !(j == z)) := by simp [maskZ]
    rw [e]
    by_cases hm : j < m
    · by_cases ez : j = z
      · subst ez
        rw [Array.getD_eq_getD_getElem?, Array.getElem?_eq_getElem hj] at hzf
        have hzf' : l[j] = false := hzf
        rw [hzf']; simp
      · have := h1 j hm ez
        rw [Array.getD_eq_getD_getElem?, Array.getElem?_eq_getElem hj] at this
        have h' : l[j] = true := this
        rw [h', decide_eq_true hm]; simp [ez]
    · have := h2 j (by omega) hjn
      rw [Array.getD_eq_getD_getElem?, Array.getElem?_eq_getElem hj] at this
      have h' : l[j] = false := this
      rw [h', decide_eq_false hm]; rfl
theorem region_facts_two (S : World → Prop) (G : Nat → Value → World → Prop) {a0 : Act} {n fuel : Nat} (m z f : Nat) (hz : z < m) (hm0 : m < ops.size) (hser : serialZ md ops f m z = true) (hord : orderlyB md ops = true) (hn : a0.tmps.size = n)
    (hdb : dstB ops n = true)
    (hG : ∀ i v w w', G i v w → Below w.heap.size w w' → G i v w')
    (hops : StepsOk P md ops Q S G a0 n (ops.toList.take m) 0)
    (hend : ∀ (a : Act) (w : World) (zl : Bool), S w → a.tmps.size = n → a.defers = a0.defers → (∀ k, slotFreeB ops k = true → a.tmps.getD k undef = a0.tmps.getD k undef) → (∀ (i : Nat) (o : Oper) (d : Nat), i < m → (i = z → zl = true) → ops[i]? = some o → o.dst = some d → G i (a.tmps.getD d undef) w) →
      wpOp P ops Q m (fun a' w' => wpAny P md ops Q (ops.size - m) ((if zl = true then maskA ops.size m else maskZ ops.size m z).setIfInBounds m true) a' w') a w)
    {w : World} (hS : S w) (hf : ops.size ≤ fuel) : wpAny P md ops Q fuel (Array.replicate ops.size false) a0 w := by
  refine wpAny_inv (I := fun l a w => Closed md ops l ∧ ((Inv ops S G a0 n l a w ∧ ∀ i, m ≤ i → i < ops.size → l.getD i true = false) ∨ ∃ f, wpAny P md ops Q f l a w)) ?_ ?_ fuel _ a0 w ?_ ?_
  · intro l a w i hCC hi
    obtain ⟨hC, hII⟩ := hCC
    obtain ⟨hun, o, ho, hall⟩ := mem_ready.1 hi
    have hio : i < ops.size := (Array.getElem?_eq_some_iff.1 ho).1
    rcases hII with ⟨hI, hm⟩ | ⟨f1, hT⟩
    · by_cases him : i < m
      · refine wpOp_step ho fun K' hK => ?_
        have hop := steps_at (ops.toList.take m) 0 hops i o (by rw [List.getElem?_take, if_pos him]; simpa using ho)
        rw [Nat.zero_add] at hop
        refine hop a w hI.holds hI.tsize hI.base ?_ K' ?_
        · intro e he hb oe d hoe hd
          exact hI.facts e.on oe d hoe hd (hall e he hb)
        · intro v w' hS' hB hg
          apply hK
          refine ⟨closed_set hC ho hall, .inl ⟨?_, ?_⟩⟩
          · have hput : (a.put o.dst v).tmps.size = n ∧ (a.put o.dst v).defers = a.defers := by
              cases o.dst <;> simp [Act.put, hI.tsize]
            refine ⟨by simp [hI.size], hput.1, hput.2.trans hI.defers, hS', ?_, ?_⟩
            · intro k hk
              cases hd : o.dst with
              | none => exact hI.base k hk
              | some d =>
                have : d ≠ k := fun e => slotFree_spec hk i o ho (by rw [hd, e])
                rw [put_other this]
                exact hI.base k hk
            · intro j oj d hoj hd hl
              by_cases hji : j = i
              · subst hji
                obtain rfl : o = oj := Option.some.inj (ho.symm.trans hoj)
                rw [hd, put_self (by rw [hI.tsize]; exact dst_spec hdb j o d ho hd)]
                exact hg
              · have hl' : l.getD j false = true := by rw [← getD_set_ne (Ne.symm hji)]; exact hl
                have old := hG j _ w w' (hI.facts j oj d hoj hd hl') hB
                cases hdo : o.dst with
                | none => exact old
                | some d' =>
                  have : d' ≠ d := fun e => orderly_dst hord j i oj o d hoj ho hd (Ne.symm hji) (by rw [hdo, e])
                  rw [put_other this]
                  exact old
          · intro j hj hjs
            rw [getD_set_ne (by omega)]
            exact hm j hj hjs
      · have hmi : m ≤ i := by omega
        obtain ⟨him', hpre⟩ : i = m ∧ ∀ j, j < m → j ≠ z → l.getD j false = true := by
          rcases serialZ_at hser ho hmi hC hall with h | h
          · exact h
          · exact (getD_flip h (hm m (Nat.le_refl _) (by omega))).elim
        subst him'
        rcases Bool.eq_false_or_eq_true (l.getD z false) with hzl | hzl
        · have hpre' : ∀ j, j < i → l.getD j false = true := fun j hj => by
            by_cases e : j = z
            · rw [e]; exact hzl
            · exact hpre j hj e
          have hT := hend a w true hI.holds hI.tsize hI.defers hI.base (fun j oj d hj _ hoj hd => hI.facts j oj d hoj hd (hpre' j hj))
          have hl : l = maskA ops.size i := mask_of hI.size (fun j hj => hpre' j hj) (fun j hj hjs => hm j hj hjs)
          rw [if_pos rfl, ← hl] at hT
          exact wpOp_mono (fun a' w' hT' => ⟨closed_set hC ho hall, .inr ⟨_, hT'⟩⟩) hT
        · have hT := hend a w false hI.holds hI.tsize hI.defers hI.base (fun j oj d hj hjz hoj hd => hI.facts j oj d hoj hd (hpre j hj (fun e => by cases hjz e)))
          have hl : l = maskZ ops.size i z := maskZ_of hI.size hz hpre hzl (fun j hj hjs => hm j hj hjs)
          rw [if_neg (by decide), ← hl] at hT
          exact wpOp_mono (fun a' w' hT' => ⟨closed_set hC ho hall, .inr ⟨_, hT'⟩⟩) hT
    · cases f1 with
      | zero => rw [hT.1] at hi; cases hi
      | succ f =>
        exact wpOp_mono (fun a' w' hT' => ⟨closed_set hC ho hall, .inr ⟨f, hT'⟩⟩) (hT.2 i hi)
  · intro l a w hCC hr
    obtain ⟨-, hII⟩ := hCC
    rcases hII with ⟨hI, hm⟩ | ⟨f1, hT⟩
    · have hal := all_listed hord hI.size hr
      exact (getD_flip (hal m hm0) (hm m (Nat.le_refl _) hm0)).elim
    · cases f1 with
      | zero => exact hT.2
      | succ f => exact hT.1 hr
  · simp; omega
  · refine ⟨closed_none, .inl ⟨⟨by simp, hn, rfl, hS, fun _ _ => rfl, ?_⟩, fun i _ hi => by simp [hi]⟩⟩
    intro i o d ho hd hl
    rw [Array.getD_eq_getD_getElem?] at hl
    by_cases hi : i < ops.size
    · simp [hi] at hl
    · simp [hi] at hl
theorem any_done {f : Nat} {l : Array Bool} {a : Act} {w : World} (hr : Region.ready md ops l = []) (h : Q .normal a w) : wpAny P md ops Q f l a w := by
  cases f with
  | zero => exact ⟨hr, h⟩
  | succ f => exact ⟨fun _ => h, fun i hi => by rw [hr] at hi; cases hi⟩
theorem wp_bslice1 {o : Oper} {a : Act} {w : World} {K : Act → World → Prop} (t e : TypeId) (i : Operand) (x : Value) (cells : Array Value) (ho : o.op = .buildSlice t 1 #[(0, i)]) (hi : a.eval i = x)
    (hrun : (Instr.buildSlice t 1 #[(0, x)]).run P w = .ok (.slice (some ⟨w.heap.size, 0, none⟩) 1 1) (w.alloc (.cells cells e)))
    (h : K (a.put o.dst (.slice (some ⟨w.heap.size, 0, none⟩) 1 1)) (w.alloc (.cells cells e))) : Oper.wp P o a w K Q := by
  unfold Oper.wp execOp
  have e' : (#[(0, i)].map fun (p : Nat × Operand) => (p.1, a.eval p.2)) = #[(0, x)] := by simp [hi]
  simp only [ho, Sem.run_bind]
  rw [e', hrun]
  exact h
end
end Go.Proofs.YthjbmloemmggaaaGreatDoor

namespace Go.Proofs.YthjbmloemmggaaaGreatDoor
open Go.RowKit
set_option maxRecDepth 100000
def GE (vals : Nat → Value) (ex : Nat → Option (Value → World → Prop)) (i : Nat) (v : Value) (w : World) : Prop := match ex i with
  | none => v = vals i
  | some F => F v w
theorem GE_later (vals : Nat → Value) (ex : Nat → Option (Value → World → Prop)) (hex : ∀ i F, ex i = some F → ∀ v w w', F v w → Below w.heap.size w w' → F v w') (i : Nat) (v : Value) (w w' : World) (h : GE vals ex i v w) (hb : Below w.heap.size w w') : GE vals ex i v w' := by
  unfold GE at *
  cases he : ex i with
  | none => rw [he] at h; exact h
  | some F => rw [he] at h; exact hex i F he v w w' h hb
end Go.Proofs.YthjbmloemmggaaaGreatDoor
