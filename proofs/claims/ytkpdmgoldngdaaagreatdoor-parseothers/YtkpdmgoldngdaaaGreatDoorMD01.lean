/- the texts Plain, SeqCalls, Facts, Turns, FactsE, in part, merged by program -/
import Derived.Test.YtkpdmgoldngdaaaGreatDoorRows
import Derived.WalkKit
import Derived.RegionTactic
import Derived.Below
import Derived.WalkSpells
import Derived.LoopN
import Derived.Test.YtkpdmgoldngdaaaGreatDoorMA01
namespace Go.Proofs.YtkpdmgoldngdaaaGreatDoor
open Go.RowKit
set_option maxRecDepth 100000
def pseuB (f t p l : Int) : Bool := !outB f 0 4294967295 && !outB t 0 4294967295 && !outB p 0 255 && !outB l 0 65535
def pseuV (f t p l : Int) : ByteArray := if pseuB f t p l = true then txt f 4 ++ txt t 4 ++ txt p 2 ++ txt l 2 else noS

end Go.Proofs.YtkpdmgoldngdaaaGreatDoor

namespace Go.Proofs.YtkpdmgoldngdaaaGreatDoor
open Go.RowKit
set_option maxRecDepth 100000
def numB (a : Int) : Bool := decide (0 ≤ a ∧ a ≤ 4294967295)
def codeOf (b : Bool) : Int := if b = true then 0 else 1
theorem numB_t {a : Int} (h : numB a = true) : 0 ≤ a ∧ a ≤ 4294967295 := of_decide_eq_true h
theorem numB_f {a : Int} (h : numB a = false) : a < 0 ∨ 4294967295 < a := by have := of_decide_eq_false h; omega
theorem check_any (a : Int) (w : World) : Calls Tryz.prog 130 #[.int .i64 a] w fun e w' => e = .returned (.int .i64 (codeOf (numB a))) ∧ w' = w := by
  cases h : numB a
  · rcases numB_f h with h0 | h0 <;> clear h
    all_goals
      go_enter Tryz.func130, Tryz.ntmps130
      go_wp2
      go_ret
      exact ⟨rfl, rfl⟩
  · obtain ⟨h0, h1⟩ := numB_t h; clear h
    go_enter Tryz.func130, Tryz.ntmps130
    go_wp2
    go_ret
    exact ⟨rfl, rfl⟩
end Go.Proofs.YtkpdmgoldngdaaaGreatDoor

namespace Go.Proofs.YtkpdmgoldngdaaaGreatDoor
open Go.RowKit
set_option maxRecDepth 100000
section
variable {P : Program} {ops : Array Oper} {Q : Exit → Act → World → Prop} {md : Region.Mode}
def GV (vals : Nat → Value) (rows : Nat → Option (List Value)) (i : Nat) (v : Value) (w : World) : Prop := match rows i with
  | none => v = vals i
  | some cs => ∃ b, v = .slice (some ⟨b, 0, none⟩) cs.length cs.length ∧ b < w.heap.size ∧ ∀ k c, cs[k]? = some c → w.cell? ⟨b, k, none⟩ = some c
theorem GV_later (vals : Nat → Value) (rows : Nat → Option (List Value)) (i : Nat) (v : Value) (w w' : World) (h : GV vals rows i v w) (hb : Below w.heap.size w w') : GV vals rows i v w' := by
  unfold GV at *
  split at h
  · exact h
  · obtain ⟨b, hv, hlt, hc⟩ := h
    exact ⟨b, hv, Nat.lt_of_lt_of_le hlt hb.size, fun k c hk => (hb.cell (p := ⟨b, k, none⟩) hlt).trans (hc k c hk)⟩
theorem region_facts (S : World → Prop) (G : Nat → Value → World → Prop) {a0 : Act} {n fuel : Nat} (hord : orderlyB md ops = true) (hn : a0.tmps.size = n)
    (hdb : dstB ops n = true)
    (hG : ∀ i v w w', G i v w → Below w.heap.size w w' → G i v w')
    (hops : StepsOk P md ops Q S G a0 n ops.toList 0)
    (hend : ∀ a w, S w → a.tmps.size = n → a.defers = a0.defers → (∀ k, slotFreeB ops k = true → a.tmps.getD k undef = a0.tmps.getD k undef) → (∀ (i : Nat) (o : Oper) (d : Nat), ops[i]? = some o → o.dst = some d → G i (a.tmps.getD d undef) w) → Q .normal a w)
    {w : World} (hS : S w) (hf : ops.size ≤ fuel) : wpAny P md ops Q fuel (Array.replicate ops.size false) a0 w := by
  refine wpAny_inv (I := Inv ops S G a0 n) ?_ ?_ fuel _ a0 w ?_ ?_
  · intro l a w i hI hi
    obtain ⟨hun, o, ho, hall⟩ := mem_ready.1 hi
    refine wpOp_step ho fun K' hK => ?_
    have hop := steps_at ops.toList 0 hops i o (by simpa using ho)
    rw [Nat.zero_add] at hop
    refine hop a w hI.holds hI.tsize hI.base ?_ K' ?_
    · intro e he hb oe d hoe hd
      exact hI.facts e.on oe d hoe hd (hall e he hb)
    · intro v w' hS' hB hg
      apply hK
      have hput : (a.put o.dst v).tmps.size = n ∧ (a.put o.dst v).defers = a.defers := by
        cases o.dst <;> simp [Act.put, hI.tsize]
      refine ⟨by simp [hI.size], hput.1, hput.2.trans hI.defers, hS', ?_, ?_⟩
      · intro k hk
        cases hd : o.dst with
        | none => exact hI.base k hk
        | some d =>
          have : d ≠ k := fun e => slotFree_spec hk i o ho (by rw [hd, e])
          rw [put_other this]
          exact hI.base k hk
      · intro j oj d hoj hd hl
        by_cases hji : j = i
        · subst hji
          obtain rfl : o = oj := Option.some.inj (ho.symm.trans hoj)
          rw [hd, put_self (by rw [hI.tsize]; exact dst_spec hdb j o d ho hd)]
          exact hg
        · have hl' : l.getD j false = true := by
            rw [Array.getD_eq_getD_getElem?, Array.getElem?_setIfInBounds_ne (Ne.symm hji), ← Array.getD_eq_getD_getElem?] at hl
            exact hl
          have old := hG j _ w w' (hI.facts j oj d hoj hd hl') hB
          cases hdo : o.dst with
          | none => exact old
          | some d' =>
            have : d' ≠ d := fun e => orderly_dst hord j i oj o d hoj ho hd (Ne.symm hji) (by rw [hdo, e])
            rw [put_other this]
            exact old
  · intro l a w hI hr
    refine hend a w hI.holds hI.tsize hI.defers hI.base fun i o d ho hd => ?_
    exact hI.facts i o d ho hd (all_listed hord hI.size hr i (Array.getElem?_eq_some_iff.1 ho).1)
  · simp; omega
  · refine ⟨by simp, hn, rfl, hS, fun _ _ => rfl, ?_⟩
    intro i o d ho hd hl
    rw [Array.getD_eq_getD_getElem?] at hl
    by_cases hi : i < ops.size
    · simp [hi] at hl
    · simp [hi] at hl
end
end Go.Proofs.YtkpdmgoldngdaaaGreatDoor

namespace Go.Proofs.YtkpdmgoldngdaaaGreatDoor
open Go.RowKit
set_option maxRecDepth 100000

theorem out_cases (n a b : Int) : (outB n a b = true ∧ (n < a ∨ b < n)) ∨ (outB n a b = false ∧ a ≤ n ∧ n ≤ b) := by
  unfold outB
  by_cases h : n < a ∨ b < n
  · left; exact ⟨decide_eq_true h, h⟩
  · right; exact ⟨decide_eq_false h, by omega⟩

theorem pseudo_any (f t p l : Int) (w : World) :
    Calls Tryz.prog 89 #[.int .i64 f, .int .i64 t, .int .i64 p, .int .i64 l] w fun e w' => e = .returned (.tuple #[.string (pseuV f t p l), .int .i64 (codeB (pseuB f t p l))]) ∧ Below w.heap.size w w' := by
  unfold pseuV pseuB
  rcases out_cases f 0 4294967295 with ⟨h1, _⟩ | ⟨h1, f0, f1⟩
  · rw [h1]
    simp
    go_enter Tryz.func89, Tryz.ntmps89
    go_wp2_with (first | (go_at_call 101; refine (out_any _ _ _ _).mono ?_; rintro e w' ⟨rfl, rfl⟩))
    go_ret2
    exact ⟨rfl, Below.refl _ _⟩
  · rcases out_cases t 0 4294967295 with ⟨h2, _⟩ | ⟨h2, t0, t1⟩
    · rw [h1, h2]
      simp
      go_enter Tryz.func89, Tryz.ntmps89
      go_wp2_with (first | (go_at_call 101; refine (out_any _ _ _ _).mono ?_; rintro e w' ⟨rfl, rfl⟩))
      go_ret2
      exact ⟨rfl, Below.refl _ _⟩
    · rcases out_cases p 0 255 with ⟨h3, _⟩ | ⟨h3, p0, p1⟩
      · rw [h1, h2, h3]
        simp
        go_enter Tryz.func89, Tryz.ntmps89
        go_wp2_with (first | (go_at_call 101; refine (out_any _ _ _ _).mono ?_; rintro e w' ⟨rfl, rfl⟩))
        go_ret2
        exact ⟨rfl, Below.refl _ _⟩
      · rcases out_cases l 0 65535 with ⟨h4, _⟩ | ⟨h4, l0, l1⟩
        · rw [h1, h2, h3, h4]
          simp
          go_enter Tryz.func89, Tryz.ntmps89
          go_wp2_with (first | (go_at_call 101; refine (out_any _ _ _ _).mono ?_; rintro e w' ⟨rfl, rfl⟩))
          go_ret2
          exact ⟨rfl, Below.refl _ _⟩
        · rw [h1, h2, h3, h4]
          simp
          have z1 := txt_size f 4
          have z2 := txt_size t 4
          have z3 := txt_size p 2
          have z4 := txt_size l 2
          go_enter Tryz.func89, Tryz.ntmps89
          go_wp2_with (first | (go_at_call 101; refine (out_any _ _ _ _).mono ?_; rintro e w' ⟨rfl, rfl⟩))
          refine (put_any _ 4 _ (by decide) (by decide)).mono ?_
          rintro e w1 ⟨rfl, b1⟩
          go_wp2_with fail
          refine (put_any _ 4 _ (by decide) (by decide)).mono ?_
          rintro e w2 ⟨rfl, b2⟩
          go_wp2_with fail
          refine (put_any _ 2 _ (by decide) (by decide)).mono ?_
          rintro e w3 ⟨rfl, b3⟩
          go_wp2_with fail
          refine (put_any _ 2 _ (by decide) (by decide)).mono ?_
          rintro e w4 ⟨rfl, b4⟩
          go_wp2
          go_ret2
          exact ⟨rfl, bt (bt (bt b1 b2) b3) b4⟩

end Go.Proofs.YtkpdmgoldngdaaaGreatDoor

namespace Go.Proofs.YtkpdmgoldngdaaaGreatDoor
open Go.RowKit
set_option maxRecDepth 100000
section
variable {P : Program} {ops : Array Oper} {Q : Exit → Act → World → Prop} {md : Region.Mode}
def serialM (md : Region.Mode) (ops : Array Oper) (f m : Nat) : Bool := ((List.range m).all fun j => (waits md ops f m).contains j) && (List.range ops.size).all fun i => decide (i ≤ m) || (waits md ops f i).contains m
theorem serialM_at {m f : Nat} (h : serialM md ops f m = true) {i : Nat} {o : Oper} (ho : ops[i]? = some o) (hi : m ≤ i) {l : Array Bool} (hC : Closed md ops l) (hall : ∀ e ∈ o.after, Region.binds md e = true → l.getD e.on false = true) : (i = m ∧ ∀ j, j < m → l.getD j false = true) ∨ l.getD m false = true := by
  unfold serialM at h
  simp only [Bool.and_eq_true] at h
  by_cases e : i = m
  · subst e
    refine .inl ⟨rfl, fun j hj => ?_⟩
    have h2 := List.all_eq_true.1 h.1 j (List.mem_range.2 hj)
    exact waits_listed hC f i o ho hall j (by simpa using h2)
  · right
    have hio : i < ops.size := (Array.getElem?_eq_some_iff.1 ho).1
    have h1 := List.all_eq_true.1 h.2 i (List.mem_range.2 hio)
    rw [decide_eq_false (by omega), Bool.false_or] at h1
    exact waits_listed hC f i o ho hall m (by simpa using h1)
theorem region_facts_then (S : World → Prop) (G : Nat → Value → World → Prop) {a0 : Act} {n fuel : Nat} (m f : Nat) (hser : serialM md ops f m = true) (hord : orderlyB md ops = true) (hn : a0.tmps.size = n)
    (hdb : dstB ops n = true)
    (hG : ∀ i v w w', G i v w → Below w.heap.size w w' → G i v w')
    (hops : StepsOk P md ops Q S G a0 n (ops.toList.take m) 0)
    (hend : ∀ a w, S w → a.tmps.size = n → a.defers = a0.defers → (∀ k, slotFreeB ops k = true → a.tmps.getD k undef = a0.tmps.getD k undef) → (∀ (i : Nat) (o : Oper) (d : Nat), i < m → ops[i]? = some o → o.dst = some d → G i (a.tmps.getD d undef) w) →
      wpAny P md ops Q (ops.size - m) (maskA ops.size m) a w)
    {w : World} (hS : S w) (hf : ops.size ≤ fuel) : wpAny P md ops Q fuel (Array.replicate ops.size false) a0 w := by
  refine wpAny_inv (I := fun l a w => Closed md ops l ∧ ((Inv ops S G a0 n l a w ∧ ∀ i, m ≤ i → i < ops.size → l.getD i true = false) ∨ ∃ f, wpAny P md ops Q f l a w)) ?_ ?_ fuel _ a0 w ?_ ?_
  · intro l a w i hCC hi
    obtain ⟨hC, hII⟩ := hCC
    obtain ⟨hun, o, ho, hall⟩ := mem_ready.1 hi
    have hio : i < ops.size := (Array.getElem?_eq_some_iff.1 ho).1
    rcases hII with ⟨hI, hm⟩ | ⟨f1, hT⟩
    · by_cases him : i < m
      · refine wpOp_step ho fun K' hK => ?_
        have hop := steps_at (ops.toList.take m) 0 hops i o (by rw [List.getElem?_take, if_pos him]; simpa using ho)
        rw [Nat.zero_add] at hop
        refine hop a w hI.holds hI.tsize hI.base ?_ K' ?_
        · intro e he hb oe d hoe hd
          exact hI.facts e.on oe d hoe hd (hall e he hb)
        · intro v w' hS' hB hg
          apply hK
          refine ⟨closed_set hC ho hall, .inl ⟨?_, ?_⟩⟩
          · have hput : (a.put o.dst v).tmps.size = n ∧ (a.put o.dst v).defers = a.defers := by
              cases o.dst <;> simp [Act.put, hI.tsize]
            refine ⟨by simp [hI.size], hput.1, hput.2.trans hI.defers, hS', ?_, ?_⟩
            · intro k hk
              cases hd : o.dst with
              | none => exact hI.base k hk
              | some d =>
                have : d ≠ k := fun e => slotFree_spec hk i o ho (by rw [hd, e])
                rw [put_other this]
                exact hI.base k hk
            · intro j oj d hoj hd hl
              by_cases hji : j = i
              · subst hji
                obtain rfl : o = oj := Option.some.inj (ho.symm.trans hoj)
                rw [hd, put_self (by rw [hI.tsize]; exact dst_spec hdb j o d ho hd)]
                exact hg
              · have hl' : l.getD j false = true := by rw [← getD_set_ne (Ne.symm hji)]; exact hl
                have old := hG j _ w w' (hI.facts j oj d hoj hd hl') hB
                cases hdo : o.dst with
                | none => exact old
                | some d' =>
                  have : d' ≠ d := fun e => orderly_dst hord j i oj o d hoj ho hd (Ne.symm hji) (by rw [hdo, e])
                  rw [put_other this]
                  exact old
          · intro j hj hjs
            rw [getD_set_ne (by omega)]
            exact hm j hj hjs
      · have hmi : m ≤ i := by omega
        obtain ⟨him', hpre⟩ : i = m ∧ ∀ j, j < m → l.getD j false = true := by
          rcases serialM_at hser ho hmi hC hall with h | h
          · exact h
          · exact (getD_flip h (hm m (Nat.le_refl _) (by omega))).elim
        subst him'
        have hT := hend a w hI.holds hI.tsize hI.defers hI.base (fun j oj d hj hoj hd => hI.facts j oj d hoj hd (hpre j hj))
        have hl : l = maskA ops.size i := mask_of hI.size (fun j hj => hpre j hj) (fun j hj hjs => hm j hj hjs)
        rw [← hl] at hT
        obtain ⟨f, hf1⟩ : ∃ f, ops.size - i = f + 1 := ⟨ops.size - i - 1, by omega⟩
        rw [hf1] at hT
        exact wpOp_mono (fun a' w' hT' => ⟨closed_set hC ho hall, .inr ⟨f, hT'⟩⟩) (hT.2 i hi)
    · cases f1 with
      | zero => rw [hT.1] at hi; cases hi
      | succ f =>
        exact wpOp_mono (fun a' w' hT' => ⟨closed_set hC ho hall, .inr ⟨f, hT'⟩⟩) (hT.2 i hi)
  · intro l a w hCC hr
    obtain ⟨-, hII⟩ := hCC
    rcases hII with ⟨hI, hm⟩ | ⟨f1, hT⟩
    · have hal := all_listed hord hI.size hr
      by_cases hms : m < ops.size
      · exact (getD_flip (hal m hms) (hm m (Nat.le_refl _) hms)).elim
      · have hT := hend a w hI.holds hI.tsize hI.defers hI.base (fun j oj d hj hoj hd => hI.facts j oj d hoj hd (hal j (Array.getElem?_eq_some_iff.1 hoj).1))
        have h0 : ops.size - m = 0 := by omega
        rw [h0] at hT
        exact hT.2
    · cases f1 with
      | zero => exact hT.2
      | succ f => exact hT.1 hr
  · simp; omega
  · refine ⟨closed_none, .inl ⟨⟨by simp, hn, rfl, hS, fun _ _ => rfl, ?_⟩, fun i _ hi => by simp [hi]⟩⟩
    intro i o d ho hd hl
    rw [Array.getD_eq_getD_getElem?] at hl
    by_cases hi : i < ops.size
    · simp [hi] at hl
    · simp [hi] at hl
theorem any_two {f i i2 : Nat} {o o2 : Oper} {l : Array Bool} {a : Act} {w : World} (hr : Region.ready md ops l = [i, i2]) (ho : ops[i]? = some o) (ho2 : ops[i2]? = some o2)
    (h : ∀ K : Act → World → Prop, (∀ a' w', wpAny P md ops Q f (l.setIfInBounds i true) a' w' → K a' w') → if Region.wanted o (yielded ops a.tmps) = true then Oper.wp P o a w K Q else K (a.put o.dst undef) w)
    (h2 : ∀ K : Act → World → Prop, (∀ a' w', wpAny P md ops Q f (l.setIfInBounds i2 true) a' w' → K a' w') → if Region.wanted o2 (yielded ops a.tmps) = true then Oper.wp P o2 a w K Q else K (a.put o2.dst undef) w) : wpAny P md ops Q (f + 1) l a w := by
  refine ⟨fun e => (by rw [hr] at e; cases e), fun j hj => ?_⟩
  rw [hr] at hj
  rcases List.mem_cons.1 hj with rfl | hj
  · exact wpOp_step ho fun K' hK => h K' hK
  · obtain rfl : j = i2 := by simpa using hj
    exact wpOp_step ho2 fun K' hK => h2 K' hK
theorem any_end {l : Array Bool} {a : Act} {w : World} (hr : Region.ready md ops l = []) (h : Q .normal a w) : wpAny P md ops Q 0 l a w := ⟨hr, h⟩
end
end Go.Proofs.YtkpdmgoldngdaaaGreatDoor
