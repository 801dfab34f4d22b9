/- A region that draws its order, by facts, up to a place, where one operation ahead of it may come behind it, too; how a frame is read behind a region; and the steps of a struct and of a row of one struct that are built. Nothing of the program is named here. -/
import Derived.Test.YtecoknenkjgmjabDoorFactsE
import Derived.Laws.Tables
import Derived.Great.BuildSlice
namespace Go.Proofs.YtecoknenkjgmjabDoor
open Go.RowKit
set_option maxRecDepth 100000

section
variable {P : Program} {ops : Array Oper} {Q : Exit → Act → World → Prop} {md : Region.Mode}
def dstsOf (ops : Array Oper) : List Nat := ops.toList.filterMap (·.dst)
def setAll (b : Array Value) (ds : List Nat) (f : Nat → Value) : Array Value := ds.foldl (fun acc d => acc.setIfInBounds d (f d)) b
theorem setAll_size (ds : List Nat) (f : Nat → Value) : ∀ b : Array Value, (setAll b ds f).size = b.size := by
  induction ds with
  | nil => intro b; rfl
  | cons d ds ih => intro b; show (setAll (b.setIfInBounds d (f d)) ds f).size = b.size; rw [ih]; simp
theorem setAll_out (ds : List Nat) (f : Nat → Value) (k : Nat) (h : k ∉ ds) : ∀ b : Array Value, (setAll b ds f)[k]? = b[k]? := by
  induction ds with
  | nil => intro b; rfl
  | cons d ds ih =>
    intro b
    show (setAll (b.setIfInBounds d (f d)) ds f)[k]? = b[k]?
    rw [ih (fun e => h (List.mem_cons_of_mem _ e)), Array.getElem?_setIfInBounds_ne (fun e => h (by rw [e]; exact List.mem_cons_self ..))]
theorem setAll_in (ds : List Nat) (f : Nat → Value) (k : Nat) : ∀ b : Array Value, k < b.size → (k ∈ ds ∨ b[k]? = some (f k)) → (setAll b ds f)[k]? = some (f k) := by
  induction ds with
  | nil =>
    intro b _ h
    rcases h with h | h
    · cases h
    · exact h
  | cons d ds ih =>
    intro b hk h
    show (setAll (b.setIfInBounds d (f d)) ds f)[k]? = some (f k)
    refine ih _ (by simpa using hk) ?_
    by_cases e : d = k
    · subst e; right; simp [hk]
    · rcases h with h | h
      · rcases List.mem_cons.1 h with h | h
        · exact absurd h.symm e
        · exact .inl h
      · right; rw [Array.getElem?_setIfInBounds_ne e]; exact h
/-- Behind a region the frame is as it was, but for what the operations wrote. -/
theorem frame_eq {a a0 : Act} {n : Nat} (hs : a.tmps.size = n) (h0 : a0.tmps.size = n) (hB : ∀ k, slotFreeB ops k = true → a.tmps.getD k undef = a0.tmps.getD k undef) : a.tmps = setAll a0.tmps (dstsOf ops) (fun d => a.tmps.getD d undef) := by
  apply Array.ext_getElem?
  intro k
  by_cases hk : k < n
  · have e1 : a.tmps[k]? = some (a.tmps.getD k undef) := by
      rw [Array.getD_eq_getD_getElem?, Array.getElem?_eq_getElem (by omega)]; rfl
    by_cases hd : k ∈ dstsOf ops
    · rw [setAll_in _ _ k _ (by omega) (.inl hd), e1]
    · rw [setAll_out _ _ k hd, e1, hB k (by
        unfold slotFreeB
        rw [Array.all_eq_true_iff_forall_mem]
        intro o ho
        simp only [bne_iff_ne, ne_eq]
        intro e
        exact hd (List.mem_filterMap.2 ⟨o, by simpa using ho, e⟩)), Array.getD_eq_getD_getElem?, Array.getElem?_eq_getElem (by omega)]
      rfl
  · rw [Array.getElem?_eq_none (by omega), Array.getElem?_eq_none (by rw [setAll_size]; omega)]
/-- The operation at place m waits for all ahead of it but one, and all behind it wait for it. -/
def serialZ (md : Region.Mode) (ops : Array Oper) (f m z : Nat) : Bool := ((List.range m).all fun j => j == z || (waits md ops f m).contains j) && (List.range ops.size).all fun i => decide (i ≤ m) || (waits md ops f i).contains m
theorem serialZ_at {m z f : Nat} (h : serialZ md ops f m z = true) {i : Nat} {o : Oper} (ho : ops[i]? = some o) (hi : m ≤ i) {l : Array Bool} (hC : Closed md ops l) (hall : ∀ e ∈ o.after, Region.binds md e = true → l.getD e.on false = true) : (i = m ∧ ∀ j, j < m → j ≠ z → l.getD j false = true) ∨ l.getD m false = true := by
  unfold serialZ at h
  simp only [Bool.and_eq_true] at h
  by_cases e : i = m
  · subst e
    refine .inl ⟨rfl, fun j hj hjz => ?_⟩
    have h2 := List.all_eq_true.1 h.1 j (List.mem_range.2 hj)
    have h3 : (j == z) = false := by simpa using hjz
    rw [h3, Bool.false_or] at h2
    exact waits_listed hC f i o ho hall j (by simpa using h2)
  · right
    have hio : i < ops.size := (Array.getElem?_eq_some_iff.1 ho).1
    have h1 := List.all_eq_true.1 h.2 i (List.mem_range.2 hio)
    rw [decide_eq_false (by omega), Bool.false_or] at h1
    exact waits_listed hC f i o ho hall m (by simpa using h1)
def maskZ (n m z : Nat) : Array Bool := ((List.range n).map fun i => decide (i < m) && !(i == z)).toArray
theorem maskZ_of {n m z : Nat} {l : Array Bool} (hs : l.size = n) (hz : z < m) (h1 : ∀ j, j < m → j ≠ z → l.getD j false = true) (hzf : l.getD z false = false) (h2 : ∀ j, m ≤ j → j < n → l.getD j true = false) : l = maskZ n m z := by
  apply Array.ext
  · simp [maskZ, hs]
  · intro j hj hj'
    have hjn : j < n := by omega
    have e : (maskZ n m z)[j] = (decide (j < m) && !(j == z)) := by simp [maskZ]
    rw [e]
    by_cases hm : j < m
    · by_cases ez : j = z
      · subst ez
        rw [Array.getD_eq_getD_getElem?, Array.getElem?_eq_getElem hj] at hzf
        have hzf' : l[j] = false := hzf
        rw [hzf']; simp
      · have := h1 j hm ez
        rw [Array.getD_eq_getD_getElem?, Array.getElem?_eq_getElem hj] at this
        have h' : l[j] = true := this
        rw [h', decide_eq_true hm]; simp [ez]
    · have := h2 j (by omega) hjn
      rw [Array.getD_eq_getD_getElem?, Array.getElem?_eq_getElem hj] at this
      have h' : l[j] = false := this
      rw [h', decide_eq_false hm]; rfl
/-- As region_facts, where the operations from place m on go one behind the other and are walked by themselves. -/
theorem region_facts_two (S : World → Prop) (G : Nat → Value → World → Prop) {a0 : Act} {n fuel : Nat} (m z f : Nat) (hz : z < m) (hm0 : m < ops.size) (hser : serialZ md ops f m z = true) (hord : orderlyB md ops = true) (hn : a0.tmps.size = n)
    (hdb : dstB ops n = true)
    (hG : ∀ i v w w', G i v w → Below w.heap.size w w' → G i v w')
    (hops : StepsOk P md ops Q S G a0 n (ops.toList.take m) 0)
    (hend : ∀ (a : Act) (w : World) (zl : Bool), S w → a.tmps.size = n → a.defers = a0.defers → (∀ k, slotFreeB ops k = true → a.tmps.getD k undef = a0.tmps.getD k undef) → (∀ (i : Nat) (o : Oper) (d : Nat), i < m → (i = z → zl = true) → ops[i]? = some o → o.dst = some d → G i (a.tmps.getD d undef) w) →
      wpOp P ops Q m (fun a' w' => wpAny P md ops Q (ops.size - m) ((if zl = true then maskA ops.size m else maskZ ops.size m z).setIfInBounds m true) a' w') a w)
    {w : World} (hS : S w) (hf : ops.size ≤ fuel) : wpAny P md ops Q fuel (Array.replicate ops.size false) a0 w := by
  refine wpAny_inv (I := fun l a w => Closed md ops l ∧ ((Inv ops S G a0 n l a w ∧ ∀ i, m ≤ i → i < ops.size → l.getD i true = false) ∨ ∃ f, wpAny P md ops Q f l a w)) ?_ ?_ fuel _ a0 w ?_ ?_
  · intro l a w i hCC hi
    obtain ⟨hC, hII⟩ := hCC
    obtain ⟨hun, o, ho, hall⟩ := mem_ready.1 hi
    have hio : i < ops.size := (Array.getElem?_eq_some_iff.1 ho).1
    rcases hII with ⟨hI, hm⟩ | ⟨f1, hT⟩
    · by_cases him : i < m
      · refine wpOp_step ho fun K' hK => ?_
        have hop := steps_at (ops.toList.take m) 0 hops i o (by rw [List.getElem?_take, if_pos him]; simpa using ho)
        rw [Nat.zero_add] at hop
        refine hop a w hI.holds hI.tsize hI.base ?_ K' ?_
        · intro e he hb oe d hoe hd
          exact hI.facts e.on oe d hoe hd (hall e he hb)
        · intro v w' hS' hB hg
          apply hK
          refine ⟨closed_set hC ho hall, .inl ⟨?_, ?_⟩⟩
          · have hput : (a.put o.dst v).tmps.size = n ∧ (a.put o.dst v).defers = a.defers := by
              cases o.dst <;> simp [Act.put, hI.tsize]
            refine ⟨by simp [hI.size], hput.1, hput.2.trans hI.defers, hS', ?_, ?_⟩
            · intro k hk
              cases hd : o.dst with
              | none => exact hI.base k hk
              | some d =>
                have : d ≠ k := fun e => slotFree_spec hk i o ho (by rw [hd, e])
                rw [put_other this]
                exact hI.base k hk
            · intro j oj d hoj hd hl
              by_cases hji : j = i
              · subst hji
                obtain rfl : o = oj := Option.some.inj (ho.symm.trans hoj)
                rw [hd, put_self (by rw [hI.tsize]; exact dst_spec hdb j o d ho hd)]
                exact hg
              · have hl' : l.getD j false = true := by rw [← getD_set_ne (Ne.symm hji)]; exact hl
                have old := hG j _ w w' (hI.facts j oj d hoj hd hl') hB
                cases hdo : o.dst with
                | none => exact old
                | some d' =>
                  have : d' ≠ d := fun e => orderly_dst hord j i oj o d hoj ho hd (Ne.symm hji) (by rw [hdo, e])
                  rw [put_other this]
                  exact old
          · intro j hj hjs
            rw [getD_set_ne (by omega)]
            exact hm j hj hjs
      · have hmi : m ≤ i := by omega
        obtain ⟨him', hpre⟩ : i = m ∧ ∀ j, j < m → j ≠ z → l.getD j false = true := by
          rcases serialZ_at hser ho hmi hC hall with h | h
          · exact h
          · exact (getD_flip h (hm m (Nat.le_refl _) (by omega))).elim
        subst him'
        rcases Bool.eq_false_or_eq_true (l.getD z false) with hzl | hzl
        · have hpre' : ∀ j, j < i → l.getD j false = true := fun j hj => by
            by_cases e : j = z
            · rw [e]; exact hzl
            · exact hpre j hj e
          have hT := hend a w true hI.holds hI.tsize hI.defers hI.base (fun j oj d hj _ hoj hd => hI.facts j oj d hoj hd (hpre' j hj))
          have hl : l = maskA ops.size i := mask_of hI.size (fun j hj => hpre' j hj) (fun j hj hjs => hm j hj hjs)
          rw [if_pos rfl, ← hl] at hT
          exact wpOp_mono (fun a' w' hT' => ⟨closed_set hC ho hall, .inr ⟨_, hT'⟩⟩) hT
        · have hT := hend a w false hI.holds hI.tsize hI.defers hI.base (fun j oj d hj hjz hoj hd => hI.facts j oj d hoj hd (hpre j hj (fun e => by cases hjz e)))
          have hl : l = maskZ ops.size i z := maskZ_of hI.size hz hpre hzl (fun j hj hjs => hm j hj hjs)
          rw [if_neg (by decide), ← hl] at hT
          exact wpOp_mono (fun a' w' hT' => ⟨closed_set hC ho hall, .inr ⟨_, hT'⟩⟩) hT
    · cases f1 with
      | zero => rw [hT.1] at hi; cases hi
      | succ f =>
        exact wpOp_mono (fun a' w' hT' => ⟨closed_set hC ho hall, .inr ⟨f, hT'⟩⟩) (hT.2 i hi)
  · intro l a w hCC hr
    obtain ⟨-, hII⟩ := hCC
    rcases hII with ⟨hI, hm⟩ | ⟨f1, hT⟩
    · have hal := all_listed hord hI.size hr
      exact (getD_flip (hal m hm0) (hm m (Nat.le_refl _) hm0)).elim
    · cases f1 with
      | zero => exact hT.2
      | succ f => exact hT.1 hr
  · simp; omega
  · refine ⟨closed_none, .inl ⟨⟨by simp, hn, rfl, hS, fun _ _ => rfl, ?_⟩, fun i _ hi => by simp [hi]⟩⟩
    intro i o d ho hd hl
    rw [Array.getD_eq_getD_getElem?] at hl
    by_cases hi : i < ops.size
    · simp [hi] at hl
    · simp [hi] at hl
theorem any_done {f : Nat} {l : Array Bool} {a : Act} {w : World} (hr : Region.ready md ops l = []) (h : Q .normal a w) : wpAny P md ops Q f l a w := by
  cases f with
  | zero => exact ⟨hr, h⟩
  | succ f => exact ⟨fun _ => h, fun i hi => by rw [hr] at hi; cases hi⟩
theorem wp_build2 {o : Oper} {a : Act} {w : World} {K : Act → World → Prop} (t : TypeId) (i j : Operand) (x y : Value) (cells : Array Value) (ho : o.op = .build t #[(0, i), (1, j)]) (hi : a.eval i = x) (hj : a.eval j = y)
    (hrun : P.built t [(0, x), (1, y)] = some cells) (h : K (a.put o.dst (.agg cells)) w) : Oper.wp P o a w K Q := by
  have e : (#[(0, i), (1, j)].map fun (p : Nat × Operand) => (p.1, a.eval p.2)).toList = [(0, x), (1, y)] := by simp [hi, hj]
  refine wp_build t _ ho ?_ ?_
  · show (P.built t (#[(0, i), (1, j)].map fun (p : Nat × Operand) => (p.1, a.eval p.2)).toList).isSome = true
    rw [e, hrun]; rfl
  · show K (a.put o.dst (.agg ((P.built t (#[(0, i), (1, j)].map fun (p : Nat × Operand) => (p.1, a.eval p.2)).toList).getD #[]))) w
    rw [e, hrun]; exact h
theorem wp_bslice1 {o : Oper} {a : Act} {w : World} {K : Act → World → Prop} (t e : TypeId) (i : Operand) (x : Value) (cells : Array Value) (ho : o.op = .buildSlice t 1 #[(0, i)]) (hi : a.eval i = x)
    (hrun : (Instr.buildSlice t 1 #[(0, x)]).run P w = .ok (.slice (some ⟨w.heap.size, 0, none⟩) 1 1) (w.alloc (.cells cells e)))
    (h : K (a.put o.dst (.slice (some ⟨w.heap.size, 0, none⟩) 1 1)) (w.alloc (.cells cells e))) : Oper.wp P o a w K Q := by
  unfold Oper.wp execOp
  have e' : (#[(0, i)].map fun (p : Nat × Operand) => (p.1, a.eval p.2)) = #[(0, x)] := by simp [hi]
  simp only [ho, Sem.run_bind]
  rw [e', hrun]
  exact h
end
end Go.Proofs.YtecoknenkjgmjabDoor
