/- the texts Jf, Enc, Dec, Ipm, Whl, Ft, Fu, Fv, Ga, in part, merged by program -/
import Derived.Test.YtcjhniehbafhpaaProg
import Derived.Test.YtcjhniehbafhpaaRows
import Derived.WalkKit
import Derived.WalkSpells
import Derived.Laws.OwnMore
import Derived.Maps.RangeWalk
import Derived.Maps.OwnSet
import Derived.Maps.Ext
import Derived.Maps.Keyed
import Derived.DeepKeys4
import Derived.WalkSmall
import Derived.Deep.Cut
import Derived.Deep.CutRange
import Derived.Deep.MidRow
import Derived.Deep.QuietTactic
import Derived.BigQuiet
import Derived.Deep.RegionWith
import Derived.OwnWalk
import Derived.Laws.CopyRow
import Derived.OrdersHeld
import Derived.Shelf.Spec.SlicesInsert
import Derived.Lib.AppendZerosOnto
import Derived.Maps.AppendAt
import Derived.Lib.Overlaps
import Derived.Shelf.Strings.BuilderK
import Derived.Laws.AppendOwn
import Derived.Laws.AppendOwnNone
import Derived.Carry
import Derived.Shelf.SlSortCmp.WholeK
import Derived.Great.BuildSlice
import Derived.Shelf.SlSortCmp.NoneTotal
import Derived.Deep.RegionHeld3
import Derived.LoopN
import Derived.Test.YtcjhniehbafhpaaMA01
import Derived.Test.YtcjhniehbafhpaaMA02
import Derived.Test.YtcjhniehbafhpaaMA03
import Derived.Test.YtcjhniehbafhpaaMA04
import Derived.Test.YtcjhniehbafhpaaMA05
import Derived.Test.YtcjhniehbafhpaaMA06
import Derived.Test.YtcjhniehbafhpaaMA07
import Derived.Test.YtcjhniehbafhpaaMA08
import Derived.Test.YtcjhniehbafhpaaMA09
import Derived.Test.YtcjhniehbafhpaaMA10
import Derived.Test.YtcjhniehbafhpaaMA15
import Derived.Test.YtcjhniehbafhpaaMA17
namespace Go.Proofs.Ytcjhniehbafhpaa
open Go.RowKit Go.Maps
set_option maxRecDepth 100000
set_option linter.unusedVariables false
set_option linter.unusedSimpArgs false

theorem catL_append (A B : List Pk) : catL (A ++ B) = catL A ++ catL B := by simp [catL]
theorem catL_one (q : Pk) : catL [q] = q.da.data.toList := by simp [catL]
theorem catL_cons (q : Pk) (A : List Pk) : catL (q :: A) = q.da.data.toList ++ catL A := by simp [catL]
theorem da_len (q : Pk) : q.da.data.toList.length = q.da.size := Array.length_toList
theorem gapless_append (A B : List Pk) (a : Int) : gapless a (A ++ B) = (gapless a A && gapless (a + ((catL A).length : Int)) B) := by
  induction A generalizing a with
  | nil => simp [gapless, catL]
  | cons q r ih =>
    show (decide (q.st = a) && gapless q.en (r ++ B)) = _
    rw [ih]
    show _ = ((decide (q.st = a) && gapless q.en r) && _)
    by_cases h : q.st = a
    · have e : q.en + ((catL r).length : Int) = a + ((catL (q :: r)).length : Int) := by
        rw [catL_cons, List.length_append, da_len]
        unfold Pk.en
        unfold Pk.st at h
        omega
      rw [e, Bool.and_assoc]
    · simp [h]
theorem gapless_mem {A : List Pk} {a : Int} (h : gapless a A = true) : ∀ x ∈ A, a ≤ x.st ∧ x.en ≤ a + ((catL A).length : Int) := by
  induction A generalizing a with
  | nil => intro x hx; cases hx
  | cons q r ih =>
    have h' : (decide (q.st = a) && gapless q.en r) = true := h
    rw [Bool.and_eq_true, decide_eq_true_eq] at h'
    obtain ⟨h1, h2⟩ := h'
    intro x hx
    rw [catL_cons, List.length_append, da_len]
    have hq : q.en = q.st + (q.da.size : Int) := rfl
    rcases List.mem_cons.1 hx with rfl | hx
    · exact ⟨by omega, by omega⟩
    · have := ih h2 x hx
      exact ⟨by omega, by omega⟩
theorem apart_of {a b : Pk} (h : clashB a b = false) (hf : a.fr < b.fr) : a.en ≤ b.st := by
  unfold clashB ovB at h
  simp only [Bool.or_eq_false_iff, Bool.and_eq_false_iff, decide_eq_false_iff_not] at h
  have h1 := h.1.1
  unfold Pk.st Pk.en at *
  omega
theorem past_of {a b : Pk} (h : clashB a b = false) : (b.mo = false → a.en ≤ b.en) ∧ (a.mo = false → b.en ≤ a.en) := by
  unfold clashB pastB at h
  simp only [Bool.or_eq_false_iff, Bool.and_eq_false_iff, decide_eq_false_iff_not, Bool.not_eq_false'] at h
  refine ⟨fun hb => ?_, fun ha => ?_⟩
  · have := h.1.2
    rw [hb] at this
    simp at this
    exact this
  · have := h.2
    rw [ha] at this
    simp at this
    exact this
theorem ch_split {S T : List Pk} (hp : S.Perm T) (hs : S.Pairwise (fun a b => a.fr < b.fr)) (hc : S.Pairwise (fun a b => clashB a b = false)) (h0 : ∀ q ∈ S, 0 ≤ q.fr) {d : ByteArray} (hd : Ch T d) :
    ∃ A B, S = A ++ B ∧ gapless 0 A = true ∧ d.data.toList = catL A := by
  induction hd with
  | nil => exact ⟨[], S, rfl, rfl, rfl⟩
  | @step d q hd hq hq1 hq2 ih =>
    obtain ⟨A, B, e, hg, hl⟩ := ih
    have hlen : (d.size : Int) = ((catL A).length : Int) := by rw [← hl, Array.length_toList]; rfl
    have hm : q ∈ A ++ B := e ▸ hp.mem_iff.2 hq
    have hst : q.st = 8 * q.fr := by unfold Pk.st; omega
    have hen : q.en = q.st + (q.da.size : Int) := rfl
    have hA : ∀ x ∈ A, x.en ≤ ((catL A).length : Int) := fun x hx => by have := gapless_mem hg x hx; omega
    rcases List.mem_append.1 hm with hm | hm
    · have := hA q hm
      omega
    · cases B with
      | nil => cases hm
      | cons x r =>
        -- what lies ahead ends at d.size at most, and x begins there at the least
        have hx : ((catL A).length : Int) ≤ x.st := by
          rcases List.eq_nil_or_concat A with rfl | ⟨A', y, rfl⟩
          · have := h0 x (by rw [e]; simp)
            unfold Pk.st
            simp [catL]
            omega
          · rw [e] at hs hc
            rw [List.pairwise_append] at hs hc
            have h1 := hs.2.2 y (by simp) x (by simp)
            have h2 := hc.2.2 y (by simp) x (by simp)
            have h3 := apart_of h2 h1
            rw [List.concat_eq_append, gapless_append, Bool.and_eq_true] at hg
            have h4 : y.st = 0 + ((catL A').length : Int) := by simpa [gapless] using hg.2
            have h5 : y.en = y.st + (y.da.size : Int) := rfl
            rw [List.concat_eq_append, catL_append, catL_one, List.length_append, da_len]
            omega
        have hqx : q = x := by
          rcases List.mem_cons.1 hm with h | h
          · exact h
          · rw [e, List.pairwise_append] at hs
            have h1 := (List.pairwise_cons.1 hs.2.1).1 q h
            unfold Pk.st at hx
            omega
        subst hqx
        refine ⟨A ++ [q], r, by rw [e]; simp, ?_, ?_⟩
        · rw [gapless_append, hg]
          simp [gapless]
          omega
        · rw [catL_append, catL_one, ← hl]
          simp
theorem lastE_spec (T : List Pk) (a : Int) : ((∀ q ∈ T, q.mo = true) ∧ lastE T a = a) ∨ ∃ z ∈ T, z.mo = false ∧ lastE T a = z.en := by
  induction T generalizing a with
  | nil => exact Or.inl ⟨fun q hq => (by cases hq), rfl⟩
  | cons q r ih =>
    show ((∀ x ∈ q :: r, x.mo = true) ∧ lastE r (if q.mo then a else q.en) = a) ∨ ∃ z ∈ q :: r, z.mo = false ∧ lastE r (if q.mo then a else q.en) = z.en
    rcases ih (if q.mo then a else q.en) with ⟨h1, h2⟩ | ⟨z, hz, h1, h2⟩
    · rw [h2]
      cases hq : q.mo with
      | true => exact Or.inl ⟨fun x hx => (List.mem_cons.1 hx).elim (fun he => he ▸ hq) (h1 x), by simp⟩
      | false => exact Or.inr ⟨q, by simp, hq, by simp⟩
    · exact Or.inr ⟨z, List.mem_cons_of_mem _ hz, h1, h2⟩
theorem pair_mem {R : Pk → Pk → Prop} {S : List Pk} (h : S.Pairwise R) {x y : Pk} (hx : x ∈ S) (hy : y ∈ S) : x = y ∨ R x y ∨ R y x := by
  induction S with
  | nil => cases hx
  | cons q r ih =>
    rw [List.pairwise_cons] at h
    rcases List.mem_cons.1 hx with ex | hx' <;> rcases List.mem_cons.1 hy with ey | hy'
    · exact Or.inl (ex.trans ey.symm)
    · exact Or.inr (Or.inl (ex ▸ h.1 y hy'))
    · exact Or.inr (Or.inr (ey ▸ h.1 x hx'))
    · exact ih h.2 hx' hy'
theorem done_same {S T : List Pk} (hp : S.Perm T) (hn : S ≠ []) (hs : S.Pairwise (fun a b => a.fr < b.fr)) (hc : S.Pairwise (fun a b => clashB a b = false)) (h0 : ∀ q ∈ S, 0 ≤ q.fr) (hf : ∀ q ∈ S, q.full)
    {d : ByteArray} (hd : Ch T d) (hend : ∀ q ∈ T, goesOn d.size q = false) :
    (completeB S = (decide ((d.size : Int) = lastE T (-1)) && (firstL T).isSome)) ∧ (completeB S = true → d.data.toList = catL S ∧ firstL T = S.head?) := by
  obtain ⟨A, B, e, hg, hl⟩ := ch_split hp hs hc h0 hd
  have hlen : (d.size : Int) = ((catL A).length : Int) := by rw [← hl, Array.length_toList]; rfl
  have hbig : ∀ x ∈ S, ∀ y ∈ S, y.mo = false → x.en ≤ y.en := by
    intro x hx y hy hm
    rcases pair_mem hc hx hy with rfl | h | h
    · exact Int.le_refl _
    · exact (past_of h).1 hm
    · exact (past_of h).2 hm
  -- what is left begins behind what was gathered
  have hB : ∀ x ∈ B, ((catL A).length : Int) ≤ x.st := by
    intro x hx
    rcases List.eq_nil_or_concat A with rfl | ⟨A', y, rfl⟩
    · have := h0 x (by rw [e]; simp [hx])
      unfold Pk.st
      simp [catL]
      omega
    · rw [e] at hs hc
      rw [List.pairwise_append] at hs hc
      have h1 := hs.2.2 y (by simp) x hx
      have h2 := hc.2.2 y (by simp) x hx
      have h3 := apart_of h2 h1
      rw [List.concat_eq_append, gapless_append, Bool.and_eq_true] at hg
      have h4 : y.st = 0 + ((catL A').length : Int) := by simpa [gapless] using hg.2
      have h5 : y.en = y.st + (y.da.size : Int) := rfl
      rw [List.concat_eq_append, catL_append, catL_one, List.length_append, da_len]
      omega
  -- an empty one tells an end, and is the last one
  have hBe : ∀ x r, B = x :: r → x.st = (d.size : Int) → r = [] ∧ x.da.size = 0 ∧ x.mo = false := by
    intro x r hB1 hx
    have hxm : x ∈ S := by rw [e, hB1]; simp
    have h1 := hend x (hp.mem_iff.1 hxm)
    have h2 : x.da.size = 0 := by
      unfold goesOn at h1
      unfold Pk.st at hx
      simp only [Bool.and_eq_false_iff, decide_eq_false_iff_not] at h1
      omega
    have h3 : x.mo = false := by
      cases hm : x.mo with
      | false => rfl
      | true => have := hf x hxm hm; omega
    refine ⟨?_, h2, h3⟩
    cases r with
    | nil => rfl
    | cons y r' =>
      have hym : y ∈ S := by rw [e, hB1]; simp
      have h4 := hbig y hym x hxm h3
      rw [e, hB1, List.pairwise_append] at hs
      have h5 := (List.pairwise_cons.1 hs.2.1).1 y (by simp)
      unfold Pk.en at h4
      omega
  have hfirst : ∀ x r, S = x :: r → x.fr = 0 → firstL T = some x := by
    intro x r hS hx
    unfold firstL
    cases hfi : T.find? (fun q => decide (q.fr = 0)) with
    | none =>
      have := List.find?_eq_none.1 hfi x (hp.mem_iff.1 (by rw [hS]; simp))
      simp [hx] at this
    | some y =>
      have hy0 : y.fr = 0 := by simpa using List.find?_some hfi
      have hym : y ∈ S := hp.mem_iff.2 (List.mem_of_find?_eq_some hfi)
      rw [hS] at hym hs
      rcases List.mem_cons.1 hym with h | h
      · rw [h]
      · have := (List.pairwise_cons.1 hs).1 y h
        omega
  have hfwd : completeB S = true → ((d.size : Int) = lastE T (-1) ∧ (firstL T).isSome = true) ∧ d.data.toList = catL S ∧ firstL T = S.head? := by
    intro hcs
    unfold completeB at hcs
    rw [Bool.and_eq_true] at hcs
    obtain ⟨hg', hla⟩ := hcs
    rw [e, gapless_append, Bool.and_eq_true] at hg'
    have hcat : catL B = [] := by
      cases hB1 : B with
      | nil => rfl
      | cons x r =>
        have hx : x.st = (d.size : Int) := by
          have := hg'.2
          rw [hB1] at this
          have h' : (decide (x.st = 0 + ((catL A).length : Int)) && gapless x.en r) = true := this
          rw [Bool.and_eq_true, decide_eq_true_eq] at h'
          omega
        obtain ⟨rfl, h2, -⟩ := hBe x r hB1 hx
        rw [catL_one]
        exact List.length_eq_zero_iff.1 (by rw [da_len, h2])
    have hdS : d.data.toList = catL S := by rw [e, catL_append, hcat, List.append_nil, hl]
    have hg2 : gapless 0 S = true := by rw [e, gapless_append, hg'.1, hg'.2]; rfl
    obtain ⟨x, r, hS⟩ : ∃ x r, S = x :: r := by
      cases hS : S with
      | nil => exact absurd hS hn
      | cons x r => exact ⟨x, r, rfl⟩
    have hx0 : x.fr = 0 := by
      rw [hS] at hg2
      have h' : (decide (x.st = 0) && gapless x.en r) = true := hg2
      rw [Bool.and_eq_true, decide_eq_true_eq] at h'
      have := h'.1
      unfold Pk.st at this
      omega
    have hF := hfirst x r hS hx0
    refine ⟨⟨?_, by rw [hF]; rfl⟩, hdS, by rw [hF, hS]; rfl⟩
    rcases List.eq_nil_or_concat S with hS' | ⟨S', z, hS'⟩
    · exact absurd hS' hn
    rw [List.concat_eq_append] at hS'
    have hz : z.mo = false := by
      unfold lastB at hla
      rw [hS'] at hla
      simpa using hla
    have hzm : z ∈ S := by rw [hS']; simp
    have hzen : z.en = (d.size : Int) := by
      have h1 : (d.size : Int) = ((catL S).length : Int) := by rw [← hdS, Array.length_toList]; rfl
      rw [hS', gapless_append, Bool.and_eq_true] at hg2
      have h4 : z.st = 0 + ((catL S').length : Int) := by simpa [gapless] using hg2.2
      have h5 : z.en = z.st + (z.da.size : Int) := rfl
      rw [h1, hS', catL_append, catL_one, List.length_append, da_len]
      omega
    rcases lastE_spec T (-1) with ⟨h1, -⟩ | ⟨y, hy, hym, hye⟩
    · have := h1 z (hp.mem_iff.1 hzm)
      rw [hz] at this
      cases this
    · rw [hye, ← hzen]
      have hyS := hp.mem_iff.2 hy
      have h1 := hbig z hzm y hyS hym
      have h2 := hbig y hyS z hzm hz
      omega
  have hbwd : (d.size : Int) = lastE T (-1) → completeB S = true := by
    intro hle
    rcases lastE_spec T (-1) with ⟨-, h1⟩ | ⟨z, hz, hzm, hze⟩
    · omega
    have hzS := hp.mem_iff.2 hz
    have hall : ∀ x ∈ S, x.en ≤ (d.size : Int) := fun x hx => by
      have := hbig x hx z hzS hzm
      omega
    have hstB : ∀ x ∈ B, x.st = (d.size : Int) := fun x hx => by
      have h1 := hB x hx
      have h2 := hall x (by rw [e]; simp [hx])
      have h3 : x.en = x.st + (x.da.size : Int) := rfl
      omega
    unfold completeB
    rw [Bool.and_eq_true]
    cases hB1 : B with
    | nil =>
      have hSA : S = A := by rw [e, hB1]; simp
      refine ⟨by rw [hSA]; exact hg, ?_⟩
      rcases List.eq_nil_or_concat S with hS' | ⟨S', y, hS'⟩
      · exact absurd hS' hn
      rw [List.concat_eq_append] at hS'
      have hyS : y ∈ S := by rw [hS']; simp
      have hym : y.mo = false := by
        rw [hS'] at hzS
        rcases List.mem_append.1 hzS with h | h
        · rw [hS'] at hs hc
          rw [List.pairwise_append] at hs hc
          have h3 := apart_of (hc.2.2 z h y (by simp)) (hs.2.2 z h y (by simp))
          have h4 := hall y hyS
          have h5 : y.en = y.st + (y.da.size : Int) := rfl
          cases hm : y.mo with
          | false => rfl
          | true => have := hf y hyS hm; omega
        · have : z = y := by simpa using h
          rw [← this]; exact hzm
      unfold lastB
      rw [hS']
      simp [hym]
    | cons x r =>
      have hx := hstB x (by rw [hB1]; simp)
      obtain ⟨rfl, h2, h3⟩ := hBe x r hB1 hx
      constructor
      · rw [e, hB1, gapless_append, hg]
        simp [gapless]
        omega
      · unfold lastB
        rw [e, hB1]
        simp [h3]
  constructor
  · rw [Bool.eq_iff_iff, Bool.and_eq_true, decide_eq_true_eq]
    exact ⟨fun h => (hfwd h).1, fun h => hbwd h.1⟩
  · intro h
    exact (hfwd h).2
theorem clash_symm (a b : Pk) : clashB a b = clashB b a := by
  unfold clashB ovB
  rw [Bool.and_comm (decide (a.st < b.en)), Bool.or_assoc, Bool.or_assoc, Bool.or_comm (pastB a b)]
structure SameP (S T : List Pk) : Prop where
  perm : S.Perm T
  rise : S.Pairwise (fun a b => a.fr < b.fr)
  apart : S.Pairwise (fun a b => clashB a b = false)
  fine : ∀ q ∈ S, q.Fine
  full : ∀ q ∈ S, q.full
  ne : S ≠ []
  len : S.length ≤ 64
theorem SameP.nonneg {S T : List Pk} (h : SameP S T) : ∀ q ∈ S, 0 ≤ q.fr := fun q hq => (h.fine q hq).f0
theorem SameP.one {p : Pk} (hp : p.Fine) (hf : p.full) : SameP [p] [p] :=
  ⟨List.Perm.refl _, List.pairwise_singleton _ _, List.pairwise_singleton _ _, fun q hq => by rw [List.mem_singleton.1 hq]; exact hp, fun q hq => by rw [List.mem_singleton.1 hq]; exact hf, List.cons_ne_nil _ _, (by decide : (1 : Nat) ≤ 64)⟩
theorem has_of {p x : Pk} (hp : p.full) (hx : x.full) (hc : clashB p x = false) (he : x.fr = p.fr) : hasB p x = true := by
  have h1 := past_of hc
  unfold clashB ovB at hc
  simp only [Bool.or_eq_false_iff, Bool.and_eq_false_iff, decide_eq_false_iff_not] at hc
  have h2 := hc.1.1
  unfold Pk.full at hp hx
  unfold Pk.st Pk.en at h2
  unfold Pk.en at h1
  have hz : p.da.size = 0 ∧ x.da.size = 0 ∧ p.mo = false ∧ x.mo = false := by
    clear hc
    generalize p.da.size = ps at *
    generalize x.da.size = xs at *
    generalize p.fr = pf at *
    generalize x.fr = xf at *
    generalize p.mo = pm at *
    generalize x.mo = xm at *
    subst he
    cases pm <;> cases xm <;> simp only [Bool.false_eq_true, Bool.true_eq_false, true_implies, false_implies, and_true, true_and, and_false, false_and] at h1 hp hx ⊢ <;> omega
  obtain ⟨a, b, c, d⟩ := hz
  have hE : ∀ z : ByteArray, z.size = 0 → z = ⟨#[]⟩ := fun z hz => by
    cases z with
    | mk v => rw [ByteArray.mk.injEq]; exact Array.eq_empty_of_size_eq_zero hz
  unfold hasB
  rw [he, c, d, hE _ a, hE _ b]
  simp
theorem SameP.ins {S T : List Pk} (h : SameP S T) {p : Pk} (hp : p.Fine) (hf : p.full) (hh : S.any (hasB p) = false) (hfit : fitsL S p = true) {i : Nat} (hi : i ≤ S.length) (hcut : Cutp S p.fr i i) : SameP (insL S i p) (T ++ [p]) := by
  unfold fitsL at hfit
  simp only [Bool.and_eq_true, decide_eq_true_eq, Bool.not_eq_true', List.any_eq_false] at hfit
  obtain ⟨⟨-, hlen⟩, hno⟩ := hfit
  have hno' : ∀ x ∈ S, clashB p x = false := fun x hx => by simpa using hno x hx
  have hne : ∀ x ∈ S, x.fr ≠ p.fr := fun x hx he => by
    have h1 := has_of hf (h.full x hx) (hno' x hx) he
    have h2 := List.any_eq_false.1 hh x hx
    exact h2 h1
  have hA : ∀ x ∈ S.take i, x.fr < p.fr := fun x hx => by
    obtain ⟨t, ht⟩ := List.mem_iff_getElem?.1 hx
    rw [List.getElem?_take] at ht
    split at ht
    · exact hcut.1 t x ht (by assumption)
    · cases ht
  have hB : ∀ x ∈ S.drop i, p.fr < x.fr := fun x hx => by
    have hm := List.mem_of_mem_drop hx
    obtain ⟨t, ht⟩ := List.mem_iff_getElem?.1 hx
    rw [List.getElem?_drop] at ht
    have h1 := hcut.2 _ x ht (by omega)
    have h2 := hne x hm
    omega
  have hS : S = S.take i ++ S.drop i := (List.take_append_drop i S).symm
  have hr := h.rise
  have ha := h.apart
  rw [hS, List.pairwise_append] at hr ha
  have hmem : ∀ q ∈ insL S i p, q = p ∨ q ∈ S := fun q hq => by
    unfold insL at hq
    rcases List.mem_append.1 hq with hq | hq
    · exact Or.inr (List.mem_of_mem_take hq)
    · rcases List.mem_cons.1 hq with hq | hq
      · exact Or.inl hq
      · exact Or.inr (List.mem_of_mem_drop hq)
  refine ⟨?_, ?_, ?_, fun q hq => ?_, fun q hq => ?_, ?_, ?_⟩
  · unfold insL
    refine List.perm_middle.trans ?_
    rw [← hS]
    exact (List.Perm.cons p h.perm).trans (List.perm_append_comm (l₁ := [p]) (l₂ := T))
  · unfold insL
    rw [List.pairwise_append]
    refine ⟨hr.1, List.pairwise_cons.2 ⟨hB, hr.2.1⟩, fun a ha' b hb => ?_⟩
    rcases List.mem_cons.1 hb with rfl | hb
    · exact hA a ha'
    · exact hr.2.2 a ha' b hb
  · unfold insL
    rw [List.pairwise_append]
    refine ⟨ha.1, List.pairwise_cons.2 ⟨fun x hx => hno' x (List.mem_of_mem_drop hx), ha.2.1⟩, fun a ha' b hb => ?_⟩
    rcases List.mem_cons.1 hb with rfl | hb
    · rw [clash_symm]; exact hno' a (List.mem_of_mem_take ha')
    · exact ha.2.2 a ha' b hb
  · exact (hmem q hq).elim (fun e => e ▸ hp) (h.fine q)
  · exact (hmem q hq).elim (fun e => e ▸ hf) (h.full q)
  · unfold insL
    simp
  · unfold insL
    simp
    omega
theorem SameP.has {S T : List Pk} (h : SameP S T) (p : Pk) : T.any (hasB p) = S.any (hasB p) := by
  rw [Bool.eq_iff_iff, List.any_eq_true, List.any_eq_true]
  exact ⟨fun ⟨x, hx, e⟩ => ⟨x, h.perm.mem_iff.2 hx, e⟩, fun ⟨x, hx, e⟩ => ⟨x, h.perm.mem_iff.1 hx, e⟩⟩
theorem SameP.first {S T : List Pk} (h : SameP S T) {q : Pk} (hq : S[0]? = some q) : firstL T = if q.fr = 0 then some q else none := by
  obtain ⟨r, hS⟩ : ∃ r, S = q :: r := by
    cases hS : S with
    | nil => exact absurd hS h.ne
    | cons x r => rw [hS] at hq; exact ⟨r, by simpa using hq⟩
  have hr := h.rise
  rw [hS, List.pairwise_cons] at hr
  have h0 := h.nonneg q (by rw [hS]; simp)
  cases hfi : firstL T with
  | none =>
    have := List.find?_eq_none.1 hfi q (h.perm.mem_iff.1 (by rw [hS]; simp))
    rw [if_neg (by simpa using this)]
  | some y =>
    have hy0 : y.fr = 0 := by simpa using List.find?_some hfi
    have hym : y ∈ S := h.perm.mem_iff.2 (List.mem_of_find?_eq_some hfi)
    rw [hS] at hym
    rcases List.mem_cons.1 hym with e | e
    · rw [← e, if_pos hy0]
    · have := hr.1 y e
      omega
end Go.Proofs.Ytcjhniehbafhpaa

namespace Go.Proofs.Ytcjhniehbafhpaa
open Go.RowKit
set_option maxRecDepth 100000
end Go.Proofs.Ytcjhniehbafhpaa

namespace Go.Proofs.Ytcjhniehbafhpaa
open Go.RowKit
set_option maxRecDepth 100000
def dT (s : ByteArray) : Int := numS (s.extract 16 20)
end Go.Proofs.Ytcjhniehbafhpaa

namespace Go.Proofs.Ytcjhniehbafhpaa
open Go.RowKit
set_option maxRecDepth 100000
theorem app_inj_toList (l : List UInt8) (a b c : Nat) (hab : a ≤ b) (hbc : b ≤ c) : (l.drop a).take (b - a) ++ (l.drop b).take (c - b) = (l.drop a).take (c - a) := by
  have := cut_join l a (b - a) (c - b)
  rw [show a + (b - a) = b by omega, show b - a + (c - b) = c - a by omega] at this
  exact this
theorem ext_join (s : ByteArray) (a b c : Nat) (hab : a ≤ b) (hbc : b ≤ c) : s.extract a b ++ s.extract b c = s.extract a c := by
  apply ba_toList
  rw [app_toList, ext_toList, ext_toList, ext_toList]
  exact app_inj_toList _ a b c hab hbc
end Go.Proofs.Ytcjhniehbafhpaa

namespace Go.Proofs.Ytcjhniehbafhpaa
open Go.RowKit
set_option maxRecDepth 100000

def catD (ps : List Pk) : ByteArray := ps.foldl (fun a q => a ++ q.da) ⟨#[]⟩
theorem catD_snoc (ps : List Pk) (q : Pk) : catD (ps ++ [q]) = catD ps ++ q.da := by simp [catD]
theorem ext_all (s : ByteArray) : s.extract 0 s.size = s := by
  apply ba_toList
  rw [ext_toList, List.drop_zero, Nat.sub_zero, ← len_toList, List.take_length]
theorem ext_none (s : ByteArray) (a : Nat) : s.extract a a = ⟨#[]⟩ := by
  apply ba_toList
  rw [ext_toList, Nat.sub_self, List.take_zero]
theorem catD_first (p : Pk) (R k : Nat) : catD (firstP p R k) = p.da.extract 0 (k * R) := by
  induction k with
  | zero => rw [Nat.zero_mul, ext_none]; rfl
  | succ k ih =>
    rw [firstP_succ, catD_snoc, ih]
    show p.da.extract 0 (k * R) ++ p.da.extract (k * R) ((k + 1) * R) = _
    exact ext_join _ _ _ _ (Nat.zero_le _) (Nat.mul_le_mul_right R (Nat.le_succ k))
theorem catD_all (p : Pk) (R : Nat) (h : 0 < p.da.size) : catD (allP p R) = p.da := by
  unfold allP
  rw [catD_snoc, catD_first]
  show p.da.extract 0 _ ++ p.da.extract (fullN p.da.size R * R) p.da.size = _
  rw [ext_join _ _ _ _ (Nat.zero_le _) (Nat.le_of_lt (full_mul _ R h)), ext_all]

end Go.Proofs.Ytcjhniehbafhpaa

namespace Go.Proofs.Ytcjhniehbafhpaa
open Go.RowKit Go.Maps
set_option maxRecDepth 100000
set_option linter.unusedVariables false
set_option linter.unusedSimpArgs false

structure Cx (p : Pk) (R N : Nat) : Prop where
  r8 : 8 ≤ R
  rm : R % 8 = 0
  lo : N * R < p.da.size
  hi : p.da.size ≤ (N + 1) * R
  n1 : 1 ≤ N
  fr0 : p.fr = 0
  mo : p.mo = false
  ll : p.da.size ≤ 400
  may : p.may = true
def pc (p : Pk) (R N k : Nat) : Pk := if k < N then pieceN p R k else pieceZ p R k
theorem full_is {p : Pk} {R N : Nat} (h : Cx p R N) : fullN p.da.size R = N := by
  have h1 := h.lo
  have h2 := h.hi
  have h8 := h.r8
  unfold fullN
  rw [Nat.add_mul, Nat.one_mul] at h2
  apply Nat.le_antisymm
  · have : (p.da.size - 1) / R < N + 1 := Nat.div_lt_of_lt_mul (by rw [Nat.mul_comm, Nat.add_mul, Nat.one_mul]; omega)
    omega
  · exact (Nat.le_div_iff_mul_le (by omega)).2 (by omega)
theorem all_is {p : Pk} {R N : Nat} (h : Cx p R N) : allP p R = (List.range (N + 1)).map (pc p R N) := by
  unfold allP firstP
  rw [full_is h, List.range_succ, List.map_append]
  congr 1
  · apply List.map_congr_left
    intro k hk
    unfold pc
    rw [if_pos (List.mem_range.1 hk)]
  · simp [pc]
section
variable {p : Pk} {R N : Nat} (h : Cx p R N)
include h
theorem pc_fr (k : Nat) : (pc p R N k).fr * 8 = ((k * R : Nat) : Int) := by
  have h1 : (pc p R N k).fr = ((k * R : Nat) : Int) / 8 := by
    unfold pc
    split <;> simp [pieceN, pieceZ, h.fr0]
  have h2 : (k * R) % 8 = 0 := by rw [Nat.mul_mod, h.rm]; simp
  rw [h1]
  omega
theorem pc_mono {k j : Nat} (hk : k < j) : (k + 1) * R ≤ j * R := by
  have _ := h.r8
  exact Nat.mul_le_mul_right R hk
theorem pc_size {k : Nat} (hk : k < N) : (pc p R N k).da.size = R := by
  have h1 := h.lo
  have h2 := pc_mono h hk
  unfold pc
  rw [if_pos hk]
  simp only [pieceN]
  rw [ByteArray.size_extract]
  rw [Nat.add_mul, Nat.one_mul] at h2 ⊢
  omega
theorem pc_sizeN : (pc p R N N).da.size = p.da.size - N * R := by
  have _ := h.r8
  unfold pc
  rw [if_neg (Nat.lt_irrefl _)]
  simp only [pieceZ]
  rw [ByteArray.size_extract]
  omega
theorem pc_en {k : Nat} (hk : k < N) : (pc p R N k).en = (((k + 1) * R : Nat) : Int) := by
  unfold Pk.en
  rw [pc_fr h, pc_size h hk, Nat.add_mul, Nat.one_mul]
  omega
theorem pc_enN : (pc p R N N).en = (p.da.size : Int) := by
  have := h.lo
  unfold Pk.en
  rw [pc_fr h, pc_sizeN h]
  omega
theorem pc_mo (k : Nat) : (pc p R N k).mo = decide (k < N) := by
  unfold pc
  split
  · rename_i hk; simp [pieceN, hk]
  · rename_i hk; simp [pieceZ, h.mo, hk]
theorem pc_enle {k : Nat} (hk : k ≤ N) : (pc p R N k).en ≤ (p.da.size : Int) := by
  rcases Nat.lt_or_ge k N with h1 | h1
  · rw [pc_en h h1]
    have := pc_mono h h1
    have := h.lo
    omega
  · obtain rfl : k = N := by omega
    rw [pc_enN h]
    exact Int.le_refl _
theorem pc_head (k : Nat) : (pc p R N k).f = p.f ∧ (pc p R N k).t = p.t ∧ (pc p R N k).tl = p.tl ∧ (pc p R N k).pr = p.pr ∧ (pc p R N k).id = p.id ∧ (pc p R N k).dn = p.dn ∧ (pc p R N k).op = p.op := by
  have _ := h.r8
  unfold pc
  split <;> simp [pieceN, pieceZ]
theorem pc_mk (k : Nat) : mk (pc p R N k) = mk p := by
  obtain ⟨h1, h2, -, h3, h4, -⟩ := pc_head h k
  unfold mk
  rw [h1, h2, h3, h4]
theorem pc_may {k : Nat} (hk : k ≤ N) : (pc p R N k).may = true := by
  obtain ⟨e1, e2, e3, e4, e5, e6, e7⟩ := pc_head h k
  obtain ⟨q1, q2, q3, q4, q5, q6, q7, q8, q9, q10, q11⟩ := mayP_q h.may
  have hf := pc_fr h k
  have hen := pc_enle h hk
  have hll := h.ll
  unfold Pk.en at hen
  have hkl : ((k * R : Nat) : Int) ≥ 0 := by omega
  unfold Pk.may
  rw [e1, e2, e3, e4, e5, e7]
  refine mayP_t ⟨q1, q2, q3, q4, q5, ⟨by omega, by omega⟩, q7, q8, fun hm => ?_, by omega, by omega⟩
  rw [pc_mo h] at hm
  rw [pc_size h (of_decide_eq_true hm)]
  exact ⟨by have := h.r8; omega, h.rm⟩
theorem pc_part {k : Nat} (hk : k ≤ N) : wholeB (pc p R N k).fr (pc p R N k).mo = false := by
  unfold wholeB
  rw [pc_mo h]
  rcases Nat.lt_or_ge k N with h1 | h1
  · rw [decide_eq_true h1]; simp
  · have hf := pc_fr h k
    have h2 : 1 * R ≤ k * R := Nat.mul_le_mul_right R (by have := h.n1; omega)
    have := h.r8
    rw [decide_eq_false (by omega)]
    rfl
theorem pc_ne {k j : Nat} (hk : k ≠ j) : (pc p R N k).fr ≠ (pc p R N j).fr := fun e => by
  have h1 := pc_fr h k
  have h2 := pc_fr h j
  rw [e] at h1
  have h3 : k * R = j * R := by omega
  exact hk (Nat.eq_of_mul_eq_mul_right (by have := h.r8; omega) h3)
theorem pc_lt {k j : Nat} : (pc p R N k).fr < (pc p R N j).fr ↔ k < j := by
  have h1 := pc_fr h k
  have h2 := pc_fr h j
  have h8 := h.r8
  constructor
  · intro hh
    apply Classical.byContradiction
    intro hn
    have : j * R ≤ k * R := Nat.mul_le_mul_right R (by omega)
    omega
  · intro hh
    have := pc_mono h hh
    rw [Nat.add_mul, Nat.one_mul] at this
    omega
theorem pc_has (k j : Nat) : hasB (pc p R N k) (pc p R N j) = decide (j = k) := by
  unfold hasB
  by_cases e : j = k
  · subst e; simp
  · rw [decide_eq_false (pc_ne h e), decide_eq_false e]; rfl
theorem pc_past {k j : Nat} (hk : k ≤ N) (hj : j ≤ N) : pastB (pc p R N k) (pc p R N j) = false := by
  unfold pastB
  rw [pc_mo h]
  rcases Nat.lt_or_ge j N with h1 | h1
  · rw [decide_eq_true h1]; rfl
  · obtain rfl : j = N := by omega
    have := pc_enle h hk
    have h2 : decide ((p.da.size : Int) < (pc p R j k).en) = false := decide_eq_false (by omega)
    rw [pc_enN h, h2]
    simp
theorem pc_clash {k j : Nat} (hk : k ≤ N) (hj : j ≤ N) (hne : k ≠ j) : clashB (pc p R N k) (pc p R N j) = false := by
  unfold clashB
  rw [pc_past h hk hj, pc_past h hj hk]
  have : ovB (pc p R N k) (pc p R N j) = false := by
    unfold ovB Pk.st
    rw [pc_fr h, pc_fr h]
    rcases Nat.lt_or_ge k j with h1 | h1
    · have h2 := pc_en h (k := k) (by omega)
      have h3 := pc_mono h h1
      rw [h2, decide_eq_false (p := ((j * R : Nat) : Int) < _) (by omega)]
      simp
    · have h2 := pc_en h (k := j) (by omega)
      have h3 := pc_mono h (k := j) (j := k) (by omega)
      rw [h2, decide_eq_false (p := ((k * R : Nat) : Int) < _) (by omega)]
      simp
  rw [this]
  rfl
theorem any_has {S : List Nat} {k : Nat} : (S.map (pc p R N)).any (hasB (pc p R N k)) = decide (k ∈ S) := by
  rw [List.any_map]
  by_cases e : k ∈ S
  · rw [decide_eq_true e, List.any_eq_true]
    exact ⟨k, e, by simp [pc_has h]⟩
  · rw [decide_eq_false e, List.any_eq_false]
    intro j hj
    simp only [Function.comp, pc_has h, decide_eq_true_eq]
    intro ee
    rw [ee] at hj
    exact e hj
theorem fits_pc {S : List Nat} {k : Nat} (hk : k ≤ N) (hS : ∀ s ∈ S, s ≤ N) (hn : k ∉ S) (hl : S.length < 64) : fitsL (S.map (pc p R N)) (pc p R N k) = true := by
  unfold fitsL
  have h1 := pc_enle h hk
  have h2 := h.ll
  have h3 : ((pc p R N k).op.size : Int) ≤ 40 := (may_fine (pc_may h hk)).ol
  rw [decide_eq_true (by omega), decide_eq_true (by rw [List.length_map]; exact hl)]
  have : (S.map (pc p R N)).any (clashB (pc p R N k)) = false := by
    rw [List.any_map, List.any_eq_false]
    intro j hj
    simp only [Function.comp]
    rw [pc_clash h hk (hS j hj) (fun e => hn (by rw [e]; exact hj))]
    simp
  rw [this]
  rfl
def insN (S : List Nat) (i k : Nat) : List Nat := S.take i ++ k :: S.drop i
omit h in
theorem ins_map (S : List Nat) (i k : Nat) : insL (S.map (pc p R N)) i (pc p R N k) = (insN S i k).map (pc p R N) := by
  unfold insL insN
  rw [List.map_append, List.map_cons, List.map_take, List.map_drop]
omit h in
theorem insN_mem {S : List Nat} {i k x : Nat} : x ∈ insN S i k ↔ x = k ∨ x ∈ S := by
  unfold insN
  constructor
  · intro hx
    rcases List.mem_append.1 hx with hx | hx
    · exact Or.inr (List.mem_of_mem_take hx)
    · rcases List.mem_cons.1 hx with hx | hx
      · exact Or.inl hx
      · exact Or.inr (List.mem_of_mem_drop hx)
  · rintro (rfl | hx)
    · exact List.mem_append_right _ (List.mem_cons_self ..)
    · rw [← List.take_append_drop i S] at hx
      rcases List.mem_append.1 hx with hx | hx
      · exact List.mem_append_left _ hx
      · exact List.mem_append_right _ (List.mem_cons_of_mem _ hx)
theorem insN_rise {S : List Nat} {i k : Nat} (hS : S.Pairwise (· < ·)) (hn : k ∉ S) (hc : Cutp (S.map (pc p R N)) (pc p R N k).fr i i) : (insN S i k).Pairwise (· < ·) := by
  obtain ⟨h1, h2⟩ := cut_fr hc
  rw [← List.map_take] at h1
  rw [← List.map_drop] at h2
  unfold insN
  rw [List.pairwise_append, List.pairwise_cons]
  have a1 : ∀ s ∈ S.take i, s < k := fun s hs => (pc_lt h).1 (h1 _ (List.mem_map_of_mem hs))
  have a2 : ∀ s ∈ S.drop i, k < s := fun s hs => by
    have := h2 _ (List.mem_map_of_mem hs)
    have h3 : ¬ s < k := fun e => by have := (pc_lt h).2 e; omega
    have h4 : s ≠ k := fun e => hn (by rw [← e]; exact List.mem_of_mem_drop hs)
    omega
  refine ⟨hS.sublist (List.take_sublist _ _), ⟨a2, hS.sublist (List.drop_sublist _ _)⟩, fun x hx y hy => ?_⟩
  have := a1 x hx
  rcases List.mem_cons.1 hy with rfl | hy
  · exact this
  · have := a2 y hy; omega
theorem gl : ∀ (T : List Nat) (c : Nat), T.Pairwise (· < ·) → (∀ t ∈ T, t ≤ N) → c ≤ N → (gapless ((c * R : Nat) : Int) (T.map (pc p R N)) = true → T = List.range' c T.length)
  | [], _, _, _, _, _ => rfl
  | t :: r, c, hp, hN, hc, hg => by
    rw [List.map_cons, gapless_cons, pc_fr h] at hg
    simp only [Bool.and_eq_true, decide_eq_true_eq] at hg
    have htc : t = c := Nat.eq_of_mul_eq_mul_right (m := R) (by have := h.r8; omega) (by omega)
    subst htc
    have hr := (List.pairwise_cons.1 hp).1
    have hen : ((t * R : Nat) : Int) + ((pc p R N t).da.size : Int) = (pc p R N t).en := by unfold Pk.en; rw [pc_fr h]
    rw [hen] at hg
    rw [List.length_cons, List.range'_succ]
    congr 1
    rcases Nat.lt_or_ge t N with h1 | h1
    · rw [pc_en h h1] at hg
      exact gl r (t + 1) (List.pairwise_cons.1 hp).2 (fun x hx => hN x (List.mem_cons_of_mem _ hx)) h1 hg.2
    · cases r with
      | nil => rfl
      | cons y r' =>
        have := hr y (List.mem_cons_self ..)
        have := hN y (by simp)
        omega
omit h in
theorem all_range : ∀ (T : List Nat) (c : Nat), T.Pairwise (· < ·) → (∀ t ∈ T, c ≤ t ∧ t ≤ N) → (∀ x, c ≤ x → x ≤ N → x ∈ T) → T = List.range' c (N + 1 - c)
  | [], c, _, _, hx => by
    have : N + 1 - c = 0 := by
      apply Classical.byContradiction
      intro e
      have := hx c (Nat.le_refl _) (by omega)
      cases this
    rw [this]; rfl
  | t :: r, c, hp, hN, hx => by
    have ht := hN t (List.mem_cons_self ..)
    have htc : t = c := by
      have := hx c (Nat.le_refl _) (by omega)
      rcases List.mem_cons.1 this with e | e
      · exact e.symm
      · have := (List.pairwise_cons.1 hp).1 c e; omega
    subst htc
    rw [show N + 1 - t = (N - t) + 1 by omega, List.range'_succ]
    congr 1
    rw [show N - t = N + 1 - (t + 1) by omega]
    refine all_range r (t + 1) (List.pairwise_cons.1 hp).2 (fun x hx' => ⟨(List.pairwise_cons.1 hp).1 x hx', (hN x (List.mem_cons_of_mem _ hx')).2⟩) (fun x h1 h2 => ?_)
    rcases List.mem_cons.1 (hx x (by omega) h2) with e | e
    · omega
    · exact e
theorem not_all {T : List Nat} (hp : T.Pairwise (· < ·)) (hN : ∀ t ∈ T, t ≤ N) {x : Nat} (hx : x ≤ N) (hn : x ∉ T) : completeB (T.map (pc p R N)) = false := by
  cases hc : completeB (T.map (pc p R N)) with
  | false => rfl
  | true =>
    exfalso
    unfold completeB at hc
    rw [Bool.and_eq_true] at hc
    have hT := gl h T 0 hp hN (Nat.zero_le _) (by rw [Nat.zero_mul]; exact hc.1)
    have hl := hc.2
    unfold lastB at hl
    rw [List.getLast?_map] at hl
    cases hg : T.getLast? with
    | none => rw [hg] at hl; simp at hl
    | some t =>
      rw [hg] at hl
      simp only [Option.map_some, pc_mo h] at hl
      have htN : ¬ t < N := by simpa using hl
      have htm : t ∈ T := List.mem_of_getLast? hg
      have := hN t htm
      obtain rfl : t = N := by omega
      apply hn
      rw [hT]
      rw [List.mem_range'_1]
      rw [hT, List.mem_range'_1] at htm
      omega
omit h in
theorem cat_fold : ∀ (ps : List Pk) (a : ByteArray), (ps.foldl (fun a q => a ++ q.da) a).data.toList = a.data.toList ++ catL ps
  | [], a => by simp [catL]
  | q :: r, a => by
    rw [List.foldl_cons, cat_fold r]
    have : (a ++ q.da).data = a.data ++ q.da.data := by simp [ByteArray.data_append]
    rw [this]
    simp [catL]
theorem all_done {T : List Nat} (hT : T = List.range (N + 1)) : completeB (T.map (pc p R N)) = true ∧ (T.map (pc p R N))[0]? = some (pc p R N 0) ∧ catL (T.map (pc p R N)) = p.da.data.toList := by
  subst hT
  refine ⟨?_, ?_, ?_⟩
  · unfold completeB
    rw [Bool.and_eq_true]
    constructor
    · have go : ∀ (m c : Nat), c + m = N + 1 → gapless ((c * R : Nat) : Int) ((List.range' c m).map (pc p R N)) = true := by
        intro m
        induction m with
        | zero => intro c _; rfl
        | succ m ih =>
          intro c hcm
          rw [List.range'_succ, List.map_cons, gapless_cons, pc_fr h, decide_eq_true rfl, Bool.true_and]
          have hen : ((c * R : Nat) : Int) + ((pc p R N c).da.size : Int) = (pc p R N c).en := by unfold Pk.en; rw [pc_fr h]
          rw [hen]
          rcases Nat.lt_or_ge c N with h1 | h1
          · rw [pc_en h h1]
            exact ih (c + 1) (by omega)
          · obtain rfl : m = 0 := by omega
            rfl
      have := go (N + 1) 0 (by omega)
      rw [Nat.zero_mul] at this
      rw [List.range_eq_range']
      exact this
    · unfold lastB
      rw [List.getLast?_map, List.range_succ, List.getLast?_append]
      simp [pc_mo h]
  · simp
  · rw [← all_is h]
    have h1 := cat_fold (allP p R) ⟨#[]⟩
    have h2 := catD_all p R (by have := h.lo; omega)
    unfold catD at h2
    rw [h2] at h1
    simpa using h1.symm
end
end Go.Proofs.Ytcjhniehbafhpaa

namespace Go.Proofs.Ytcjhniehbafhpaa
open Go.RowKit Go.Maps
set_option maxRecDepth 100000
set_option linter.unusedVariables false
set_option linter.unusedSimpArgs false

def FB (R B M k : Nat) : Prop := k = B ∨ k = M ∨ R ≤ k
def OneB (w : World) (R B M : Nat) (ro pa la tu : Int) (m : Mk) (ps : List Pk) : Prop := (ps = [] ∧ BX w R B M ro pa la tu []) ∨ (ps ≠ [] ∧ ∃ at_ tx v, BX w R B M ro pa la tu [⟨m, at_, tx, v, ps⟩])
theorem OneB.later {w w' : World} {R B M : Nat} {ro pa la tu : Int} {m : Mk} {ps : List Pk} (h : OneB w R B M ro pa la tu m ps) (hb : Below w.heap.size w w') : OneB w' R B M ro pa la tu m ps := by
  rcases h with ⟨h1, h2⟩ | ⟨h1, a, b, c, h2⟩
  · exact Or.inl ⟨h1, h2.later hb⟩
  · exact Or.inr ⟨h1, a, b, c, h2.later hb⟩
theorem fl_fb {R B M : Nat} {w : World} {ro pa la tu : Int} {l : List Pile} (h : BX w R B M ro pa la tu l) (k : Nat) (hk : FL B M l k) : FB R B M k := by
  rcases hk with hk | hk | ⟨x, hx, hk⟩
  · exact Or.inl hk
  · exact Or.inr (Or.inl hk)
  · exact Or.inr (Or.inr ((h.ok x hx).row.ge k hk))
theorem tp_fin {P : List Pile → Prop} {w w' : World} {R B M : Nat} {ro pa la now tu tu' : Int} {l : List Pile} (hBX : BX w R B M ro pa la tu l) {Φ : World → World → Prop} (h : TP w w' R B M ro pa now tu l Φ) (hΦ : ∀ W W', BX W R B M ro pa now tu l → Φ W W' → Turn (FL B M l) W W' ∧ ∃ L, P L ∧ BX W' R B M ro pa now tu' L ∧ ∀ y ∈ L, ∀ k, y.v.ownBlock = some k → (∃ x ∈ l, x.v.ownBlock = some k) ∨ W.heap.size ≤ k) : (∃ L, P L ∧ BX w' R B M ro pa now tu' L) ∧ Turn (FB R B M) w w' := by
  obtain ⟨W, W', hW, ht1, hs, hφ, ht2⟩ := h
  obtain ⟨ht, L, hL, hB, hloc⟩ := hΦ W W' hW hφ
  have hRw := hBX.rw'
  have hbR := hBX.bR
  have hmR := hBX.mR
  refine ⟨⟨L, hL, hB.turn ht2 (by omega) (by omega) (fun y hy k hk e => ?_)⟩, ?_⟩
  · rcases hloc y hy k hk with ⟨x, hx, h⟩ | h
    · have := (hBX.ok x hx).row.lt k h; omega
    · omega
  · exact ((ht1.mono (S' := FB R B M) (fun k e => Or.inl e)).trans (ht.mono (fun k e => fl_fb hW k e))).step ht2 (fun k e => Or.inr (by omega))
section
variable {p : Pk} {Q N : Nat} (h : Cx p Q N)
include h
theorem piece_more {S : List Nat} {k x : Nat} (hk : k ≤ N) (hn : k ∉ S) (hx : x ≤ N) (hxk : x ≠ k) (hxS : x ∉ S) (hS : S.Pairwise (· < ·)) (hSN : ∀ s ∈ S, s ≤ N) (hl : S.length < 64) {w : World} {R B M : Nat} {ro pa la tu : Int} (hO : OneB w R B M ro pa la tu (mk p) (S.map (pc p Q N))) (hro : 1 ≤ ro) (hro2 : ro ≤ 64) (htu0 : 0 ≤ tu) (htu1 : tu ≤ 100000) (now : Int) (hn1 : la ≤ now) (hn2 : now ≤ 1099511627776) :
    Calls Try.prog 13 #[.pointer (some ⟨B, 0, none⟩), .agg #[.int .i64 (pc p Q N k).f, .int .i64 (pc p Q N k).t, .int .i64 (pc p Q N k).tl, .int .i64 (pc p Q N k).pr, .int .i64 (pc p Q N k).id, .int .i64 (pc p Q N k).fr, .bool (pc p Q N k).mo, .bool (pc p Q N k).dn, .string (pc p Q N k).op, .string (pc p Q N k).da], .int .i64 now] w fun e w' => e = .returned (.tuple #[.agg #[.int .i64 0, .int .i64 0, .int .i64 0, .int .i64 0, .int .i64 0, .int .i64 0, .bool false, .bool false, .string ⟨#[]⟩, .string ⟨#[]⟩], .bool false, .int .i64 0]) ∧ (∃ (T : List Nat) (tu' : Int), T.Pairwise (· < ·) ∧ (∀ y, y ∈ T ↔ y = k ∨ y ∈ S) ∧ (tu' = tu ∨ tu' = tu + 1) ∧ OneB w' R B M ro pa now tu' (mk p) (T.map (pc p Q N))) ∧ Turn (FB R B M) w w' := by
  have key : ∀ i, Cutp (S.map (pc p Q N)) (pc p Q N k).fr i i → completeB (insL (S.map (pc p Q N)) i (pc p Q N k)) = false := fun i hc => by
    rw [ins_map]
    exact not_all h (insN_rise h hS hn hc) (fun t ht => (insN_mem.1 ht).elim (fun e => by omega) (fun e => hSN t e)) hx (fun e => (insN_mem.1 e).elim (fun e => hxk e) (fun e => hxS e))
  rcases hO with ⟨e, hB⟩ | ⟨hne, at_, tx, v, hB⟩
  · rw [List.map_eq_nil_iff] at e
    subst e
    have hf := fits_pc h hk hSN hn (by decide)
    have hc0 : completeB [pc p Q N k] = false := key 0 ⟨fun t q hq => by simp at hq, fun t q hq => by simp at hq⟩
    refine (take_no (pc p Q N k) (pc_may h hk) w R B M ro pa la tu _ hB now hn1 hn2 (pc_part h hk) _ (fun W hW => lay_new (pc p Q N k) (may_fine (pc_may h hk)) (may_wf (pc_may h hk)) W R B M ro pa now tu [] hW (by simp) (by simp; omega) hro2 htu0 (by omega) hf hc0) (fun W W' _ h => by obtain ⟨_, _, _, _, _, h, _⟩ := h; exact h)).mono ?_
    rintro e w' ⟨rfl, hT⟩
    obtain ⟨⟨L, ⟨v', hL⟩, hB'⟩, ht⟩ := tp_fin (tu' := tu + 1) (P := fun L => ∃ v', L = [⟨mk (pc p Q N k), now, tu + 1, v', [pc p Q N k]⟩]) hB hT (fun W W' _ hφ => by
      obtain ⟨v', i, hi, hcut, hb, htt, hlo⟩ := hφ
      obtain rfl : i = 0 := by simpa using hi
      exact ⟨htt, _, ⟨v', rfl⟩, hb, fun y hy j hj => by simp at hy; rw [hy] at hj; exact hlo j hj⟩)
    subst hL
    rw [pc_mk h] at hB'
    exact ⟨rfl, ⟨[k], tu + 1, List.pairwise_singleton _ _, fun y => by simp, Or.inr rfl, Or.inr ⟨by simp, now, tu + 1, v', hB'⟩⟩, ht⟩
  · have hf := fits_pc h hk hSN hn hl
    have hh : (S.map (pc p Q N)).any (hasB (pc p Q N k)) = false := by rw [any_has h]; exact decide_eq_false hn
    rw [← pc_mk h k] at hB
    refine (take_no (pc p Q N k) (pc_may h hk) w R B M ro pa la tu _ hB now hn1 hn2 (pc_part h hk) _ (fun W hW => lay_more (pc p Q N k) (may_fine (pc_may h hk)) (may_wf (pc_may h hk)) W R B M ro pa now tu [] [] at_ tx v _ hW hne (by simp) hh hf (fun i _ hc => key i hc)) (fun W W' _ h => by obtain ⟨_, _, _, _, _, h, _⟩ := h; exact h)).mono ?_
    rintro e w' ⟨rfl, hT⟩
    obtain ⟨⟨L, ⟨v', i, hcut, hL⟩, hB'⟩, ht⟩ := tp_fin (tu' := tu) (P := fun L => ∃ v' i, Cutp (S.map (pc p Q N)) (pc p Q N k).fr i i ∧ L = [⟨mk (pc p Q N k), at_, tx, v', insL (S.map (pc p Q N)) i (pc p Q N k)⟩]) hB hT (fun W W' _ hφ => by
      obtain ⟨v', i, hi, hcut, hb, htt, hlo⟩ := hφ
      exact ⟨htt, _, ⟨v', i, hcut, rfl⟩, hb, fun y hy j hj => by simp at hy; rw [hy] at hj; exact hlo j hj⟩)
    subst hL
    rw [pc_mk h, ins_map] at hB'
    refine ⟨rfl, ⟨insN S i k, tu, insN_rise h hS hn hcut, fun y => insN_mem, Or.inl rfl, Or.inr ⟨?_, at_, tx, v', hB'⟩⟩, ht⟩
    intro e
    rw [List.map_eq_nil_iff] at e
    have := (insN_mem (S := S) (i := i) (k := k) (x := k)).2 (Or.inl rfl)
    rw [e] at this
    cases this
theorem piece_last {S : List Nat} {k : Nat} (hk : k ≤ N) (hn : k ∉ S) (hall : ∀ x, x ≤ N → x ≠ k → x ∈ S) (hS : S.Pairwise (· < ·)) (hSN : ∀ s ∈ S, s ≤ N) (hl : S.length < 64) {w : World} {R B M : Nat} {ro pa la tu : Int} (hO : OneB w R B M ro pa la tu (mk p) (S.map (pc p Q N))) (now : Int) (hn1 : la ≤ now) (hn2 : now ≤ 1099511627776) :
    Calls Try.prog 13 #[.pointer (some ⟨B, 0, none⟩), .agg #[.int .i64 (pc p Q N k).f, .int .i64 (pc p Q N k).t, .int .i64 (pc p Q N k).tl, .int .i64 (pc p Q N k).pr, .int .i64 (pc p Q N k).id, .int .i64 (pc p Q N k).fr, .bool (pc p Q N k).mo, .bool (pc p Q N k).dn, .string (pc p Q N k).op, .string (pc p Q N k).da], .int .i64 now] w fun e w' => e = .returned (.tuple #[.agg #[.int .i64 p.f, .int .i64 p.t, .int .i64 p.tl, .int .i64 p.pr, .int .i64 p.id, .int .i64 p.fr, .bool p.mo, .bool p.dn, .string p.op, .string p.da], .bool true, .int .i64 0]) ∧ OneB w' R B M ro pa now tu (mk p) [] ∧ Turn (FB R B M) w w' := by
  have key : ∀ i, Cutp (S.map (pc p Q N)) (pc p Q N k).fr i i → completeB (insL (S.map (pc p Q N)) i (pc p Q N k)) = true ∧ (insL (S.map (pc p Q N)) i (pc p Q N k))[0]? = some (pc p Q N 0) ∧ catL (insL (S.map (pc p Q N)) i (pc p Q N k)) = p.da.data.toList := fun i hc => by
    rw [ins_map]
    refine all_done h ?_
    rw [List.range_eq_range']
    exact all_range _ 0 (insN_rise h hS hn hc) (fun t ht => ⟨Nat.zero_le _, (insN_mem.1 ht).elim (fun e => by omega) (fun e => hSN t e)⟩) (fun x _ hx => insN_mem.2 (if e : x = k then Or.inl e else Or.inr (hall x hx e)))
  have hne : S.map (pc p Q N) ≠ [] := fun e => by
    rw [List.map_eq_nil_iff] at e
    have h1 := h.n1
    have : ∃ x, x ≤ N ∧ x ≠ k := by
      by_cases e : k = 0
      · exact ⟨1, h1, by omega⟩
      · exact ⟨0, Nat.zero_le _, by omega⟩
    obtain ⟨x, hx, hxk⟩ := this
    have := hall x hx hxk
    rw [e] at this
    cases this
  rcases hO with ⟨e, -⟩ | ⟨-, at_, tx, v, hB⟩
  · exact absurd e hne
  have hf := fits_pc h hk hSN hn hl
  have hh : (S.map (pc p Q N)).any (hasB (pc p Q N k)) = false := by rw [any_has h]; exact decide_eq_false hn
  rw [← pc_mk h k] at hB
  have hcon := take_yes (pc p Q N k) (pc_may h hk) w R B M ro pa la tu _ hB now hn1 hn2 (pc p Q N 0) p.da.data.toList (pc_part h hk) _ (fun W hW => lay_whole (pc p Q N k) (may_fine (pc_may h hk)) (may_wf (pc_may h hk)) W R B M ro pa now tu [] [] at_ tx v _ hW hne (pc p Q N 0) p.da.data.toList hh hf (fun i _ hc => key i hc)) (fun W W' _ h => h.2)
  obtain ⟨e1, e2, e3, e4, e5, e6, e7⟩ := pc_head h 0
  have e8 : (pc p Q N 0).fr = 0 := by have := pc_fr h 0; rw [Nat.zero_mul] at this; omega
  rw [e1, e2, e3, e4, e5, e6, e7, e8] at hcon
  refine hcon.mono ?_
  rintro e w' ⟨rfl, hT⟩
  obtain ⟨⟨L, hL, hB'⟩, ht⟩ := tp_fin (P := fun L => L = []) hB hT (fun W W' _ hφ => ⟨hφ.2, _, rfl, hφ.1, fun y hy => by cases hy⟩)
  subst hL
  exact ⟨by rw [h.fr0, h.mo], Or.inl ⟨rfl, hB'⟩, ht⟩
end
end Go.Proofs.Ytcjhniehbafhpaa

namespace Go.Proofs.Ytcjhniehbafhpaa
open Go.RowKit Go.Maps
set_option maxRecDepth 100000
set_option linter.unusedVariables false
set_option linter.unusedSimpArgs false

def p1 : Pk := ⟨1, 2, 9, 0, 0, 0, false, false, ⟨#[]⟩, ⟨#[48, 49, 50, 51, 52, 53, 54, 55, 56, 57]⟩⟩
theorem p1x : Cx p1 8 1 := ⟨by decide, by decide, by decide, by decide, by decide, rfl, rfl, by decide, by decide⟩
theorem p1cut : Cuts 1 2 9 0 0 0 false false ⟨#[]⟩ ⟨#[48, 49, 50, 51, 52, 53, 54, 55, 56, 57]⟩ 28 0 (allP p1 8) := by
  unfold Cuts
  refine Or.inr ⟨by decide, Or.inr (Or.inr ⟨⟨by decide, by decide⟩, Or.inr ⟨by decide, Or.inr ⟨rfl, ?_, rfl⟩⟩⟩)⟩
  rfl
theorem bx_new {w : World} {R B M : Nat} {ro pa : Int} (hA : At w B #[.int .i64 ro, .int .i64 pa, .int .i64 0, .int .i64 0, .map (some M)]) (hG : GM w M []) (h1 : B < R) (h2 : M < R) (h3 : R ≤ w.heap.size) (h4 : B ≠ M) (m : Mk) : OneB w R B M ro pa 0 0 m [] :=
  Or.inl ⟨rfl, ⟨hA, hG, (fun x hx => by cases hx), List.Pairwise.nil, h1, h2, h3, h4⟩⟩
theorem one_len {w : World} {R B M : Nat} {ro pa la tu : Int} {m : Mk} (h : OneB w R B M ro pa la tu m []) : Calls Try.prog 15 #[.pointer (some ⟨B, 0, none⟩)] w fun e w' => e = .returned (.int .i64 0) ∧ w' = w := by
  rcases h with ⟨-, h⟩ | ⟨h, -⟩
  · exact len_any h
  · exact absurd rfl h
set_option maxHeartbeats 8000000 in
theorem works_any (w : World) : Calls Try.prog 9 #[] w fun e w' => e = .returned (.bool true) ∧ Below w.heap.size w w' := by
  go_enter Try.func9, Try.ntmps9
  go_wp2_with fail
  refine (new_t 4 10 w (by decide) (by decide) (by decide) (by decide)).mono ?_
  rintro e w1 ⟨rfl, hA, hG, l1⟩
  have hone : (#[.int .i64 1, .int .i64 2, .int .i64 9, .int .i64 0, .int .i64 0, .int .i64 0, .bool false, .bool false, .string ⟨#[]⟩, .string ⟨#[48, 49, 50, 51, 52, 53, 54, 55, 56, 57]⟩] : Array Value).all (·.oneCell') = true := by simp [Value.oneCell']
  have hB1 := hA.1
  go_upto_region 5 with (first
    | (refine wpList_store_at rfl 32 _ _ rfl _ w1.heap.size #[.int .i64 0, .int .i64 0, .int .i64 0, .int .i64 0, .int .i64 0, .int .i64 0, .bool false, .bool false, .string ⟨#[]⟩, .string ⟨#[]⟩] #[.int .i64 1, .int .i64 2, .int .i64 9, .int .i64 0, .int .i64 0, .int .i64 0, .bool false, .bool false, .string ⟨#[]⟩, .string ⟨#[48, 49, 50, 51, 52, 53, 54, 55, 56, 57]⟩] rfl rfl (At.box w1 #[.int .i64 0, .int .i64 0, .int .i64 0, .int .i64 0, .int .i64 0, .int .i64 0, .bool false, .bool false, .string ⟨#[]⟩, .string ⟨#[]⟩] 32) rfl (by kernel_rfl) hone ?_; intro w2 hP2 ht2)
    | go_in)
  have q2 : Below w1.heap.size w1 w2 := (bel1 w1 (.cells #[.int .i64 0, .int .i64 0, .int .i64 0, .int .i64 0, .int .i64 0, .int .i64 0, .bool false, .bool false, .string ⟨#[]⟩, .string ⟨#[]⟩] 32)).trans (below_turn ht2 (Nat.le_refl _) (bel1 w1 _).size)
  have hA2 := hA.later q2
  have hG2 := hG.later q2
  have l2 := bt l1 q2
  clear hA hG l1 ht2
  go_wp2_with (first | (refine wpList_load_at rfl 32 _ rfl _ w1.heap.size #[.int .i64 1, .int .i64 2, .int .i64 9, .int .i64 0, .int .i64 0, .int .i64 0, .bool false, .bool false, .string ⟨#[]⟩, .string ⟨#[48, 49, 50, 51, 52, 53, 54, 55, 56, 57]⟩] _ rfl hP2 Try.underlying32 (by kernel_rfl) ?_) | fail)
  refine (pieces_any 1 2 9 0 0 0 false false ⟨#[]⟩ ⟨#[48, 49, 50, 51, 52, 53, 54, 55, 56, 57]⟩ 28 0 (allP p1 8) w2 (by decide) (by decide) p1cut).mono ?_
  rintro e w3 ⟨v, rfl, q3, hown⟩
  have hrw : RW w3 w2.heap.size v ((List.range 2).map (pc p1 8 1)) := by rw [← all_is p1x]; exact hown
  clear hown
  obtain ⟨g, c, cur, rfl, hg, hcur, -⟩ := hrw.real (by decide)
  have hgs : g < w3.heap.size := (Array.getElem?_eq_some_iff.1 hcur).1
  clear hcur
  have hln : ((List.range 2).map (pc p1 8 1)).length = 2 := rfl
  rw [hln] at hrw
  rw [hln]
  have hA3 := hA2.later q3
  have hG3 := hG2.later q3
  have hP3 := hP2.later q3
  have l3 := bt l2 q3
  have hs12 := q2.size
  have hs23 := q3.size
  have hp2 := hP2.1
  have hO := bx_new (R := w3.heap.size) hA3 hG3 (by omega) (by omega) (Nat.le_refl _) (by omega) (mk p1)
  clear hA2 hG2 hP2 l2 q2 q3 hA3 hG3
  have hrg : w3.rangeAt g 10 [.int .i64 (pc p1 8 1 1).f, .int .i64 (pc p1 8 1 1).t, .int .i64 (pc p1 8 1 1).tl, .int .i64 (pc p1 8 1 1).pr, .int .i64 (pc p1 8 1 1).id, .int .i64 (pc p1 8 1 1).fr, .bool (pc p1 8 1 1).mo, .bool (pc p1 8 1 1).dn, .string (pc p1 8 1 1).op, .string (pc p1 8 1 1).da] := fun i u hu => hrw.cells (i := 1) (p := pc p1 8 1 1) rfl i u hu
  have hcon := piece_more p1x (S := []) (k := 1) (x := 0) (by decide) (by decide) (by decide) (by decide) (by decide) List.Pairwise.nil (fun s hs => by cases hs) (by decide) (w := w3) (R := w3.heap.size) (B := w.heap.size + 1) (M := w.heap.size) (ro := 4) (pa := 10) (la := 0) (tu := 0) hO (by decide) (by decide) (by decide) (by decide) 1 (by decide) (by decide)
  go_wp2_with (first | (refine wpList_load_mid rfl 32 _ rfl g 10 (by first | rfl | simp) _ _ hrg Try.underlying32 rfl (by kernel_rfl) ?_) | fail)
  refine hcon.mono ?_
  rintro e w4 ⟨rfl, ⟨T, tu', hTp, hTm, htu, hO4⟩, ht4⟩
  have hT1 : T = [1] := by
    have : T = List.range' 1 (1 + 1 - 1) := all_range T 1 hTp (fun t ht => by have := (hTm t).1 ht; simp at this; omega) (fun x h1 h2 => (hTm x).2 (Or.inl (by omega)))
    exact this
  subst hT1
  have hnF : ∀ k, k < w3.heap.size → k ≠ w.heap.size + 1 → k ≠ w.heap.size → ¬ FB w3.heap.size (w.heap.size + 1) w.heap.size k := fun k h1 h2 h3 e => by unfold FB at e; omega
  have hP4 := hP3.turn ht4 (hnF _ (by omega) (by omega) (by omega))
  have hr4 := hrw.turn ht4 (fun k hk => by simp [Value.ownBlock] at hk; exact hnF _ (by omega) (by omega) (by omega))
  have hb4 : Below w.heap.size w w4 := l3.trans (ht4.below (by omega) (fun k hk e => by unfold FB at e; omega))
  have hs34 := ht4.size
  clear hcon hrg hP3 hrw l3 ht4 hO hTp hTm
  have hone2 : (#[.int .i64 0, .int .i64 0, .int .i64 0, .int .i64 0, .int .i64 0, .int .i64 0, .bool false, .bool false, .string ⟨#[]⟩, .string ⟨#[]⟩] : Array Value).all (·.oneCell') = true := oneZ
  go_upto_region 9 with (first
    | (refine wpList_store_at rfl 32 _ _ rfl _ w4.heap.size #[.int .i64 0, .int .i64 0, .int .i64 0, .int .i64 0, .int .i64 0, .int .i64 0, .bool false, .bool false, .string ⟨#[]⟩, .string ⟨#[]⟩] #[.int .i64 0, .int .i64 0, .int .i64 0, .int .i64 0, .int .i64 0, .int .i64 0, .bool false, .bool false, .string ⟨#[]⟩, .string ⟨#[]⟩] rfl rfl (At.box w4 #[.int .i64 0, .int .i64 0, .int .i64 0, .int .i64 0, .int .i64 0, .int .i64 0, .bool false, .bool false, .string ⟨#[]⟩, .string ⟨#[]⟩] 32) rfl (by kernel_rfl) hone2 ?_; intro w5 hQ5 ht5)
    | go_in)
  have q5 : Below w4.heap.size w4 w5 := (bel1 w4 (.cells #[.int .i64 0, .int .i64 0, .int .i64 0, .int .i64 0, .int .i64 0, .int .i64 0, .bool false, .bool false, .string ⟨#[]⟩, .string ⟨#[]⟩] 32)).trans (below_turn ht5 (Nat.le_refl _) (bel1 w4 _).size)
  have hP5 := hP4.later q5
  have hr5 := hr4.later q5
  have hO5 := hO4.later q5
  have hb5 := bt hb4 q5
  have hs45 := q5.size
  clear hP4 hr4 hO4 hb4 ht5 hQ5 q5
  have hrg : w5.rangeAt g 0 [.int .i64 (pc p1 8 1 0).f, .int .i64 (pc p1 8 1 0).t, .int .i64 (pc p1 8 1 0).tl, .int .i64 (pc p1 8 1 0).pr, .int .i64 (pc p1 8 1 0).id, .int .i64 (pc p1 8 1 0).fr, .bool (pc p1 8 1 0).mo, .bool (pc p1 8 1 0).dn, .string (pc p1 8 1 0).op, .string (pc p1 8 1 0).da] := fun i u hu => by have := hr5.cells (i := 0) (p := pc p1 8 1 0) rfl i u hu; rwa [Nat.zero_mul] at this
  have hcon : Calls Try.prog 13 #[.pointer (some ⟨w.heap.size + 1, 0, none⟩), .agg #[.int .i64 (pc p1 8 1 0).f, .int .i64 (pc p1 8 1 0).t, .int .i64 (pc p1 8 1 0).tl, .int .i64 (pc p1 8 1 0).pr, .int .i64 (pc p1 8 1 0).id, .int .i64 (pc p1 8 1 0).fr, .bool (pc p1 8 1 0).mo, .bool (pc p1 8 1 0).dn, .string (pc p1 8 1 0).op, .string (pc p1 8 1 0).da], .int .i64 2] w5 fun e w' => e = .returned (.tuple #[.agg #[.int .i64 1, .int .i64 2, .int .i64 9, .int .i64 0, .int .i64 0, .int .i64 0, .bool false, .bool false, .string ⟨#[]⟩, .string ⟨#[48, 49, 50, 51, 52, 53, 54, 55, 56, 57]⟩], .bool true, .int .i64 0]) ∧ OneB w' w3.heap.size (w.heap.size + 1) w.heap.size 4 10 2 tu' (mk p1) [] ∧ Turn (FB w3.heap.size (w.heap.size + 1) w.heap.size) w5 w' := piece_last p1x (S := [1]) (k := 0) (by decide) (by decide) (fun x h1 h2 => List.mem_singleton.2 (by omega)) (List.pairwise_singleton _ _) (fun s hs => by simp at hs; omega) (by decide) hO5 2 (by decide) (by decide)
  go_wp2_with (first | (refine wpList_load_mid rfl 32 _ rfl g 0 (by first | rfl | simp) _ _ hrg Try.underlying32 rfl (by kernel_rfl) ?_) | fail)
  refine hcon.mono ?_
  rintro e w6 ⟨rfl, hO6, ht6⟩
  have hP6 := hP5.turn ht6 (hnF _ (by omega) (by omega) (by omega))
  have hb6 : Below w.heap.size w w6 := hb5.trans (ht6.below (by omega) (fun k hk e => by unfold FB at e; omega))
  have hs56 := ht6.size
  clear hcon hrg hP5 hr5 hb5 ht6 hO5
  go_upto_region 10 with (first
    | (refine wpList_store_at rfl 32 _ _ rfl _ w6.heap.size #[.int .i64 0, .int .i64 0, .int .i64 0, .int .i64 0, .int .i64 0, .int .i64 0, .bool false, .bool false, .string ⟨#[]⟩, .string ⟨#[]⟩] #[.int .i64 1, .int .i64 2, .int .i64 9, .int .i64 0, .int .i64 0, .int .i64 0, .bool false, .bool false, .string ⟨#[]⟩, .string ⟨#[48, 49, 50, 51, 52, 53, 54, 55, 56, 57]⟩] rfl rfl (At.box w6 #[.int .i64 0, .int .i64 0, .int .i64 0, .int .i64 0, .int .i64 0, .int .i64 0, .bool false, .bool false, .string ⟨#[]⟩, .string ⟨#[]⟩] 32) rfl (by kernel_rfl) hone ?_; intro w7 hQ7 ht7)
    | go_in)
  have q7 : Below w6.heap.size w6 w7 := (bel1 w6 (.cells #[.int .i64 0, .int .i64 0, .int .i64 0, .int .i64 0, .int .i64 0, .int .i64 0, .bool false, .bool false, .string ⟨#[]⟩, .string ⟨#[]⟩] 32)).trans (below_turn ht7 (Nat.le_refl _) (bel1 w6 _).size)
  have hP7 := hP6.later q7
  have hO7 := hO6.later q7
  have hb7 := bt hb6 q7
  clear hP6 hO6 hb6 ht7 q7
  obtain ⟨⟨a0, a1, a2, a3, a4, a5, a6, a7, a8, a9⟩, -, -⟩ := hQ7.ten
  obtain ⟨⟨b0, b1, b2, b3, b4, b5, b6, b7, b8, b9⟩, -, -⟩ := hP7.ten
  go_wp2_with fail
  refine (one_len hO7).mono ?_
  rintro e w8 ⟨rfl, rfl⟩
  go_wp2
  go_ret
  exact ⟨rfl, hb7⟩
end Go.Proofs.Ytcjhniehbafhpaa

namespace Go.Proofs.Ytcjhniehbafhpaa
open Go.RowKit Go.Maps
set_option maxRecDepth 100000
set_option linter.unusedVariables false
set_option linter.unusedSimpArgs false
def Locs (w : World) (l l' : List Pile) : Prop := ∀ y ∈ l', ∀ k, y.v.ownBlock = some k → (∃ x ∈ l, x.v.ownBlock = some k) ∨ w.heap.size ≤ k
theorem tp_fin2 {P : List Pile → Prop} {w w' : World} {R B M : Nat} {ro pa la now tu tu' : Int} {l : List Pile} (hBX : BX w R B M ro pa la tu l) {Φ : World → World → Prop} (h : TP w w' R B M ro pa now tu l Φ) (hΦ : ∀ W W', BX W R B M ro pa now tu l → Φ W W' → Turn (FL B M l) W W' ∧ ∃ L, P L ∧ BX W' R B M ro pa now tu' L ∧ ∀ y ∈ L, ∀ k, y.v.ownBlock = some k → (∃ x ∈ l, x.v.ownBlock = some k) ∨ W.heap.size ≤ k) : (∃ L, P L ∧ BX w' R B M ro pa now tu' L ∧ Locs w l L) ∧ Turn (FL B M l) w w' := by
  obtain ⟨W, W', hW, ht1, hs, hφ, ht2⟩ := h
  obtain ⟨ht, L, hL, hB, hloc⟩ := hΦ W W' hW hφ
  have hRw := hBX.rw'
  have hbR := hBX.bR
  have hmR := hBX.mR
  have hs1 := ht1.size
  refine ⟨⟨L, hL, hB.turn ht2 (by omega) (by omega) (fun y hy k hk e => ?_), fun y hy k hk => ?_⟩, ?_⟩
  · rcases hloc y hy k hk with ⟨x, hx, h⟩ | h
    · have := (hBX.ok x hx).row.lt k h; omega
    · omega
  · rcases hloc y hy k hk with h | h
    · exact Or.inl h
    · exact Or.inr (by omega)
  · exact ((ht1.mono (S' := FL B M l) (fun k e => Or.inl e)).trans ht).step ht2 (fun k e => Or.inr (by omega))
section
variable {p : Pk} {Q N : Nat} (h : Cx p Q N)
include h
end
end Go.Proofs.Ytcjhniehbafhpaa
