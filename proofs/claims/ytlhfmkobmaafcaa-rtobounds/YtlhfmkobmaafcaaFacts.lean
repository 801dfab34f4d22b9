/- A region that draws its order, by facts: each operation, in whatever world that meets S and with what it waits for known, leaves a fact of its own value; then behind the region all facts hold. One step an operation, whatever the orders. Nothing of the program is named here. -/
import Derived.WalkKit
import Derived.RegionTactic
import Derived.Below
namespace Go.Proofs.Ytlhfmkobmaafcaa
open Go.RowKit

section
variable {P : Program} {ops : Array Oper} {Q : Exit → Act → World → Prop} {md : Region.Mode}

theorem count_setL : ∀ (l : List Bool) (i : Nat) (hi : i < l.length), l[i] = false → (l.set i true).count false < l.count false
  | [], i, hi, _ => by simp at hi
  | x :: l, 0, _, hv => by simp at hv; subst hv; simp
  | x :: l, i + 1, hi, hv => by
    have := count_setL l i (by simpa using hi) (by simpa using hv)
    simp only [List.set_cons_succ, List.count_cons]
    omega
theorem count_set {l : Array Bool} {i : Nat} (h : l.getD i true = false) : (l.setIfInBounds i true).toList.count false < l.toList.count false := by
  have hi : i < l.size := by
    apply Classical.byContradiction
    intro hn
    rw [Array.getD_eq_getD_getElem?, Array.getElem?_eq_none (by omega)] at h
    cases h
  have hv : l[i] = false := by
    rw [Array.getD_eq_getD_getElem?, Array.getElem?_eq_getElem hi] at h
    exact h
  rw [Array.toList_setIfInBounds]
  exact count_setL l.toList i (by simpa using hi) (by simpa using hv)

theorem wpAny_inv (I : Array Bool → Act → World → Prop)
    (hstep : ∀ l a w i, I l a w → i ∈ Region.ready md ops l → wpOp P ops Q i (I (l.setIfInBounds i true)) a w)
    (hend : ∀ l a w, I l a w → Region.ready md ops l = [] → Q .normal a w) :
    ∀ (fuel : Nat) (l : Array Bool) (a : Act) (w : World), l.toList.count false ≤ fuel → I l a w → wpAny P md ops Q fuel l a w := by
  intro fuel
  induction fuel with
  | zero =>
    intro l a w hc hI
    have hr : Region.ready md ops l = [] := by
      apply List.eq_nil_iff_forall_not_mem.2
      intro i hi
      have := count_set (mem_ready.1 hi).1
      omega
    exact ⟨hr, hend l a w hI hr⟩
  | succ fuel ih =>
    intro l a w hc hI
    refine ⟨hend l a w hI, fun i hi => ?_⟩
    refine wpOp_mono (fun a' w' h => ih _ a' w' ?_ h) (hstep l a w i hI hi)
    have := count_set (mem_ready.1 hi).1
    omega

/-- Each operation waits for elder ones alone, and each has a slot of its own. -/
def orderlyB (md : Region.Mode) (ops : Array Oper) : Bool :=
  (List.range ops.size).all fun i => match ops[i]? with
    | some o => (o.after.all fun e => !Region.binds md e || decide (e.on < i)) && (match o.dst with | some d => (List.range ops.size).all fun j => j == i || (match ops[j]? with | some oj => oj.dst != some d | none => true) | none => true)
    | none => true
def slotFreeB (ops : Array Oper) (k : Nat) : Bool := ops.all fun o => o.dst != some k
theorem slotFree_spec {k : Nat} (h : slotFreeB ops k = true) (i : Nat) (o : Oper) (ho : ops[i]? = some o) : o.dst ≠ some k := by
  have := Array.all_eq_true_iff_forall_mem.1 h o (Array.mem_of_getElem? ho)
  simpa using this
def dstB (ops : Array Oper) (n : Nat) : Bool := ops.all fun o => match o.dst with | some d => decide (d < n) | none => true
theorem dst_spec {n : Nat} (h : dstB ops n = true) (i : Nat) (o : Oper) (d : Nat) (ho : ops[i]? = some o) (hd : o.dst = some d) : d < n := by
  have := Array.all_eq_true_iff_forall_mem.1 h o (Array.mem_of_getElem? ho)
  simpa [hd] using this
theorem orderly_after (h : orderlyB md ops = true) (i : Nat) (o : Oper) (ho : ops[i]? = some o) : ∀ e ∈ o.after, Region.binds md e = true → e.on < i := by
  intro e he hb
  have hi := (Array.getElem?_eq_some_iff.1 ho).1
  have h1 := List.all_eq_true.1 h i (List.mem_range.2 hi)
  rw [ho] at h1
  simp only [Bool.and_eq_true] at h1
  have h2 := Array.all_eq_true_iff_forall_mem.1 h1.1 e he
  rw [hb] at h2
  simpa using h2
theorem orderly_dst (h : orderlyB md ops = true) (i j : Nat) (o oj : Oper) (d : Nat) (ho : ops[i]? = some o) (hoj : ops[j]? = some oj) (hd : o.dst = some d) (hne : j ≠ i) : oj.dst ≠ some d := by
  have hi := (Array.getElem?_eq_some_iff.1 ho).1
  have hj := (Array.getElem?_eq_some_iff.1 hoj).1
  have h1 := List.all_eq_true.1 h i (List.mem_range.2 hi)
  rw [ho] at h1
  simp only [Bool.and_eq_true, hd] at h1
  have h2 := List.all_eq_true.1 h1.2 j (List.mem_range.2 hj)
  rw [hoj] at h2
  simpa [hne] using h2
theorem all_listed (h : orderlyB md ops = true) {l : Array Bool} (hs : l.size = ops.size) (hr : Region.ready md ops l = []) : ∀ i, i < ops.size → l.getD i false = true := by
  intro i
  induction i using Nat.strongRecOn with
  | ind i ih =>
    intro hi
    have hli : i < l.size := by omega
    have e1 : l.getD i false = l[i] := by rw [Array.getD_eq_getD_getElem?, Array.getElem?_eq_getElem hli]; rfl
    have e2 : l.getD i true = l[i] := by rw [Array.getD_eq_getD_getElem?, Array.getElem?_eq_getElem hli]; rfl
    cases hv : l[i]
    · exfalso
      have hm : i ∈ Region.ready md ops l := by
        refine mem_ready.2 ⟨by rw [e2, hv], ops[i], Array.getElem?_eq_getElem hi, fun e he hb => ?_⟩
        have := orderly_after h i _ (Array.getElem?_eq_getElem hi) e he hb
        exact ih e.on this (by omega)
      rw [hr] at hm
      cases hm
    · rw [e1, hv]

structure Inv (ops : Array Oper) (S : World → Prop) (G : Nat → Value → World → Prop) (a0 : Act) (n : Nat) (l : Array Bool) (a : Act) (w : World) : Prop where
  size : l.size = ops.size
  tsize : a.tmps.size = n
  defers : a.defers = a0.defers
  holds : S w
  base : ∀ k, slotFreeB ops k = true → a.tmps.getD k undef = a0.tmps.getD k undef
  facts : ∀ (i : Nat) (o : Oper) (d : Nat), ops[i]? = some o → o.dst = some d → l.getD i false = true → G i (a.tmps.getD d undef) w

theorem put_self {a : Act} {d : Nat} {v : Value} (h : d < a.tmps.size) : (a.put (some d) v).tmps.getD d undef = v := by
  simp [Act.put, h]
theorem put_other {a : Act} {d k : Nat} {v : Value} (h : d ≠ k) : (a.put (some d) v).tmps.getD k undef = a.tmps.getD k undef := by
  simp [Act.put, Array.getElem?_setIfInBounds_ne h]

/-- The facts: an operation's value is named, or it is a new row of cells. -/
def GV (vals : Nat → Value) (rows : Nat → Option (List Value)) (i : Nat) (v : Value) (w : World) : Prop := match rows i with
  | none => v = vals i
  | some cs => ∃ b, v = .slice (some ⟨b, 0, none⟩) cs.length cs.length ∧ b < w.heap.size ∧ ∀ k c, cs[k]? = some c → w.cell? ⟨b, k, none⟩ = some c
theorem GV_later (vals : Nat → Value) (rows : Nat → Option (List Value)) (i : Nat) (v : Value) (w w' : World) (h : GV vals rows i v w) (hb : Below w.heap.size w w') : GV vals rows i v w' := by
  unfold GV at *
  split at h
  · exact h
  · obtain ⟨b, hv, hlt, hc⟩ := h
    exact ⟨b, hv, Nat.lt_of_lt_of_le hlt hb.size, fun k c hk => (hb.cell (p := ⟨b, k, none⟩) hlt).trans (hc k c hk)⟩
/-- What is asked of one operation. -/
def StepOk (P : Program) (md : Region.Mode) (ops : Array Oper) (Q : Exit → Act → World → Prop) (S : World → Prop) (G : Nat → Value → World → Prop) (a0 : Act) (n : Nat) (i : Nat) (o : Oper) : Prop :=
  ∀ (a : Act) (w : World), S w → a.tmps.size = n → (∀ k, slotFreeB ops k = true → a.tmps.getD k undef = a0.tmps.getD k undef) →
    (∀ e ∈ o.after, Region.binds md e = true → ∀ oe d, ops[e.on]? = some oe → oe.dst = some d → G e.on (a.tmps.getD d undef) w) →
    ∀ K : Act → World → Prop, (∀ v w', S w' → Below w.heap.size w w' → G i v w' → K (a.put o.dst v) w') → if Region.wanted o (yielded ops a.tmps) = true then Oper.wp P o a w K Q else K (a.put o.dst undef) w

/-- What is asked of all of them, one behind the other. -/
def StepsOk (P : Program) (md : Region.Mode) (ops : Array Oper) (Q : Exit → Act → World → Prop) (S : World → Prop) (G : Nat → Value → World → Prop) (a0 : Act) (n : Nat) : List Oper → Nat → Prop
  | [], _ => True
  | o :: r, k => StepOk P md ops Q S G a0 n k o ∧ StepsOk P md ops Q S G a0 n r (k + 1)
theorem steps_at {S : World → Prop} {G : Nat → Value → World → Prop} {a0 : Act} {n : Nat} : ∀ (l : List Oper) (k : Nat), StepsOk P md ops Q S G a0 n l k → ∀ (i : Nat) (o : Oper), l[i]? = some o → StepOk P md ops Q S G a0 n (k + i) o
  | [], _, _, i, o, h => by simp at h
  | x :: l, k, hs, 0, o, h => by
    simp only [List.getElem?_cons_zero, Option.some.injEq] at h
    subst h; exact hs.1
  | x :: l, k, hs, i + 1, o, h => by
    have := steps_at l (k + 1) hs.2 i o (by simpa using h)
    rw [show k + (i + 1) = k + 1 + i by omega]; exact this

theorem region_facts (S : World → Prop) (G : Nat → Value → World → Prop) {a0 : Act} {n fuel : Nat} (hord : orderlyB md ops = true) (hn : a0.tmps.size = n)
    (hdb : dstB ops n = true)
    (hG : ∀ i v w w', G i v w → Below w.heap.size w w' → G i v w')
    (hops : StepsOk P md ops Q S G a0 n ops.toList 0)
    (hend : ∀ a w, S w → a.tmps.size = n → a.defers = a0.defers → (∀ k, slotFreeB ops k = true → a.tmps.getD k undef = a0.tmps.getD k undef) → (∀ (i : Nat) (o : Oper) (d : Nat), ops[i]? = some o → o.dst = some d → G i (a.tmps.getD d undef) w) → Q .normal a w)
    {w : World} (hS : S w) (hf : ops.size ≤ fuel) : wpAny P md ops Q fuel (Array.replicate ops.size false) a0 w := by
  refine wpAny_inv (I := Inv ops S G a0 n) ?_ ?_ fuel _ a0 w ?_ ?_
  · intro l a w i hI hi
    obtain ⟨hun, o, ho, hall⟩ := mem_ready.1 hi
    refine wpOp_step ho fun K' hK => ?_
    have hop := steps_at ops.toList 0 hops i o (by simpa using ho)
    rw [Nat.zero_add] at hop
    refine hop a w hI.holds hI.tsize hI.base ?_ K' ?_
    · intro e he hb oe d hoe hd
      exact hI.facts e.on oe d hoe hd (hall e he hb)
    · intro v w' hS' hB hg
      apply hK
      have hput : (a.put o.dst v).tmps.size = n ∧ (a.put o.dst v).defers = a.defers := by
        cases o.dst <;> simp [Act.put, hI.tsize]
      refine ⟨by simp [hI.size], hput.1, hput.2.trans hI.defers, hS', ?_, ?_⟩
      · intro k hk
        cases hd : o.dst with
        | none => exact hI.base k hk
        | some d =>
          have : d ≠ k := fun e => slotFree_spec hk i o ho (by rw [hd, e])
          rw [put_other this]
          exact hI.base k hk
      · intro j oj d hoj hd hl
        by_cases hji : j = i
        · subst hji
          obtain rfl : o = oj := Option.some.inj (ho.symm.trans hoj)
          rw [hd, put_self (by rw [hI.tsize]; exact dst_spec hdb j o d ho hd)]
          exact hg
        · have hl' : l.getD j false = true := by
            rw [Array.getD_eq_getD_getElem?, Array.getElem?_setIfInBounds_ne (Ne.symm hji), ← Array.getD_eq_getD_getElem?] at hl
            exact hl
          have old := hG j _ w w' (hI.facts j oj d hoj hd hl') hB
          cases hdo : o.dst with
          | none => exact old
          | some d' =>
            have : d' ≠ d := fun e => orderly_dst hord j i oj o d hoj ho hd (Ne.symm hji) (by rw [hdo, e])
            rw [put_other this]
            exact old
  · intro l a w hI hr
    refine hend a w hI.holds hI.tsize hI.defers hI.base fun i o d ho hd => ?_
    exact hI.facts i o d ho hd (all_listed hord hI.size hr i (Array.getElem?_eq_some_iff.1 ho).1)
  · simp; omega
  · refine ⟨by simp, hn, rfl, hS, fun _ _ => rfl, ?_⟩
    intro i o d ho hd hl
    rw [Array.getD_eq_getD_getElem?] at hl
    by_cases hi : i < ops.size
    · simp [hi] at hl
    · simp [hi] at hl
end
end Go.Proofs.Ytlhfmkobmaafcaa
