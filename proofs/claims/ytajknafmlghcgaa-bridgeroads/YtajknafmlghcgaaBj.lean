/- BridgeRoom, walked. -/
import Derived.Test.YtajknafmlghcgaaBi
namespace Go.Proofs.Ytajknafmlghcgaa
open Go.RowKit Go.Maps
set_option maxRecDepth 100000
set_option linter.unusedVariables false
set_option linter.unusedSimpArgs false

def enB (e : En) : Lit × DataW Unit := (.int .i64 e.1, .lit (.bool true))
/-- A set: the keys of a list. -/
def setD (l : List En) : DataW Unit := .map (l.map enB)
theorem size_setD (l : List En) : Maps.size (setD l) = l.length := by simp [setD, size_eq]
theorem ins_setD (e : En) : ∀ l : List En, DataW.insert (enB e) (l.map enB) = (ins e l).map enB
  | [] => rfl
  | y :: r => by
    simp only [List.map, DataW.insert, ins]
    have : (enB e).1.before (enB y).1 = decide (e.1 < y.1) := rfl
    rw [this]
    by_cases h : e.1 < y.1
    · simp [h]
    · simp [h, ins_setD e r]
theorem put_setD (l : List En) (e : En) : (setD l).put (.int .i64 e.1) (.lit (.bool true)) = setD (putL l e) := by
  unfold setD DataW.put putL
  simp only [List.filter_map]
  rw [← ins_setD]
  congr 4
  funext x
  show (!(Lit.int .i64 x.1).sameKey (.int .i64 e.1)) = (x.1 != e.1)
  rw [same_int]
  rfl
theorem at_setD (l : List En) (k : Int) : (setD l).atKey (.int .i64 k) (.lit (.bool false)) = .lit (.bool (lk l k).isSome) := by
  unfold setD DataW.atKey lk
  simp only [List.find?_map]
  have : ((fun p : Lit × DataW Unit => p.1.sameKey (.int .i64 k)) ∘ enB) = fun e : En => e.1 == k := by
    funext e
    exact same_int e.1 k
  rw [this]
  cases l.find? (fun e => e.1 == k) <;> rfl
theorem setD_keys {l l' : List En} (h : l.map (·.1) = l'.map (·.1)) : setD l = setD l' := by
  unfold setD
  have e : ∀ l : List En, l.map enB = (l.map (·.1)).map fun k => (Lit.int .i64 k, DataW.lit (.bool true)) := fun l => by rw [List.map_map]; rfl
  rw [e, e, h]
def KS (w : World) (K : Nat) (l : List En) : Prop := w.ownsMap Try.prog 3 (plainElem (H := Unit) Try.prog 4) K l.length (setD l)
theorem KS.turn {S : Nat → Prop} {w w' : World} {K : Nat} {l : List En} (h : KS w K l) (ht : Turn S w w') (hs : ¬ S K) : KS w' K l := by
  obtain ⟨es, clock, hb, hr⟩ := h
  exact ⟨es, clock, (ht.block K (Array.getElem?_eq_some_iff.1 hb).1 hs).trans hb, hr⟩
theorem KS.len {w : World} {K n : Nat} {l : List En} (h : w.ownsMap Try.prog 3 (plainElem (H := Unit) Try.prog 4) K n (setD l)) : KS w K l := by
  obtain ⟨es, clock, hb, F, hn, hD⟩ := h
  refine ⟨es, clock, hb, F, ?_, hD⟩
  have h2 := congrArg Maps.size hD
  rw [size_setD, size_eq, length_sorted] at h2
  simp at h2
  omega
theorem zeroB (w : World) : (zeroValue 4).run Try.prog w = .ok (.bool false) w := by kernel_rfl
theorem plainB_inv {v : Value} {b : Bool} {ps : List MemPlace} (h : plainElem (H := Unit) Try.prog 4 v = some (.lit (.bool b), ps)) : v = .bool b := by
  unfold plainElem at h
  rw [Try.underlying4] at h
  cases v <;> simp at h
  rw [h.1]
theorem wpList_lookup_b {w : World} {ops : Array Oper} {rest : List Oper} {o : Oper} {a : Act} {Q : Exit → Act → World → Prop} (hg : o.guard = none) (m x : Operand) (hop : o.op = Op.lookup 53 m x false) (K : Nat) (l : List En) (k : Int) (hk : (Lit.int .i64 k).wf = true)
    (hm : a.eval m = .map (some K)) (hown : KS w K l) (hx : a.eval x = .int .i64 k) (hK : wpList Try.prog ops Q rest (a.put o.dst (.bool (lk l k).isSome)) w) : wpList Try.prog ops Q (o :: rest) a w := by
  refine wpList_plain hg fun K' hK' => ?_
  obtain ⟨v, ps, hrun, hv⟩ := World.ownsMap.lookup hown law3 Try.underlying53 (zeroB w) (plainElem_bool Try.underlying4 false) (keyOf_int_mk Try.underlying3 hk)
  rw [at_setD] at hv
  obtain rfl := plainB_inv hv
  unfold Oper.wp
  simp [execOp, hop, hm, hx, hrun, Result.andThen]
  exact hK' _ _ hK
theorem ins_low {e : En} : ∀ {r : List En}, (∀ x ∈ r, e.1 < x.1) → ins e r = e :: r
  | [], _ => rfl
  | y :: r, h => by unfold ins; rw [if_pos (h y (List.mem_cons_self ..))]
theorem keys_put : ∀ {l : List En}, Rise l → ∀ {e : En}, (lk l e.1).isSome = true → (putL l e).map (·.1) = l.map (·.1)
  | [], _, _, h => by simp [lk] at h
  | y :: r, hr, e, h => by
    have hy := List.pairwise_cons.1 hr
    unfold putL
    by_cases hk : y.1 = e.1
    · have h1 : (r.filter fun x => x.1 != e.1) = r := by
        rw [List.filter_eq_self]
        intro x hx
        have := hy.1 x hx
        simp; omega
      rw [List.filter_cons_of_neg (by simp [hk]), h1, ins_low (fun x hx => by have := hy.1 x hx; omega)]
      simp [hk]
    · have h2 : (lk r e.1).isSome = true := by
        unfold lk at h ⊢
        rw [List.find?_cons_of_neg (by simpa using hk)] at h
        exact h
      have h3 : y.1 < e.1 := by
        cases hq : lk r e.1 with
        | none => rw [hq] at h2; cases h2
        | some c =>
          have h9 := hy.1 _ (lk_mem (p := c.1) (t := c.2) hq)
          exact h9
      rw [List.filter_cons_of_pos (by simpa using hk)]
      show (ins e (y :: _)).map _ = _
      rw [ins, if_neg (by omega)]
      have ih := keys_put hy.2 h2
      unfold putL at ih
      simp [ih]
theorem len_put {l : List En} (e : En) : (putL l e).length ≤ l.length + 1 := by
  unfold putL
  rw [len_ins]
  have := List.length_filter_le (fun x : En => x.1 != e.1) l
  omega
theorem old_none {w : World} {M : Nat} {l : List En} (h : Lrn w M l) {now : Int} (hn : now < 1000) : oldL 1000 now l = l := by
  unfold oldL
  rw [List.filter_eq_self]
  intro e he
  have := (h.2.2 e he).2
  unfold okH at this
  simp; omega
end Go.Proofs.Ytajknafmlghcgaa
