/- The document's list of what was learnt, and the map's, hold the same: what follows for the answers. -/
import Derived.Test.YtajknafmlghcgaaRd
import Derived.Test.YtajknafmlghcgaaBh
namespace Go.Proofs.Ytajknafmlghcgaa
open Go.RowKit Go.Maps
set_option maxRecDepth 100000
set_option linter.unusedVariables false
set_option linter.unusedSimpArgs false

def rportL (ag k now : Int) (L : List En) : Int × Bool :=
  match L.find? (fun e => e.1 == k && decide (now < e.2.2 + ag)) with
  | some e => (e.2.1, true)
  | none => (0, false)
theorem rport_is {l L : List En} (hr : Rise l) (hp : L.Perm l) (ag k now : Int) : rportL ag k now L = portL l ag k now := by
  unfold rportL portL
  cases hq : lk l k with
  | none =>
    have hf : L.find? (fun e => e.1 == k && decide (now < e.2.2 + ag)) = none := by
      rw [List.find?_eq_none]
      intro e he
      have h1 : e ∈ l := hp.mem_iff.1 he
      obtain ⟨ea, ep, et⟩ := e
      by_cases hk : ea = k
      · subst hk
        rw [lk_of_mem hr h1] at hq
        cases hq
      · simp [hk]
    rw [hf]
  | some c =>
    obtain ⟨p, t⟩ := c
    have hm := lk_mem hq
    by_cases ho : t + ag ≤ now
    · have hf : L.find? (fun e => e.1 == k && decide (now < e.2.2 + ag)) = none := by
        rw [List.find?_eq_none]
        intro e he
        have h1 : e ∈ l := hp.mem_iff.1 he
        by_cases hk : e.1 = k
        · have := uniq hr h1 hm hk
          subst this
          simp; omega
        · simp [hk]
      rw [hf]
      simp [ho]
    · cases hf : L.find? (fun e => e.1 == k && decide (now < e.2.2 + ag)) with
      | none =>
        rw [List.find?_eq_none] at hf
        have := hf _ (hp.mem_iff.2 hm)
        simp at this
        omega
      | some e =>
        have h1 := List.find?_some hf
        have h2 : e ∈ l := hp.mem_iff.1 (List.mem_of_find?_eq_some hf)
        simp at h1
        have := uniq hr h2 hm h1.1
        subst this
        simp [ho]
theorem ins_perm (e : En) : ∀ l : List En, (ins e l).Perm (e :: l)
  | [] => List.Perm.refl _
  | y :: r => by
    unfold ins
    split
    · exact List.Perm.refl _
    · exact ((ins_perm e r).cons y).trans (List.Perm.swap _ _ _)
theorem filt_lt {l : List En} {k : Int} (h : (lk l k).isSome = true) : (l.filter fun x => x.1 != k).length < l.length := by
  cases hq : lk l k with
  | none => rw [hq] at h; cases h
  | some c =>
    have hm := lk_mem (p := c.1) (t := c.2) hq
    rcases Nat.lt_or_ge (l.filter fun x => x.1 != k).length l.length with h1 | h1
    · exact h1
    · exfalso
      have h2 : (l.filter fun x => x.1 != k).length = l.length := Nat.le_antisymm (List.length_filter_le _ _) h1
      rw [List.length_filter_eq_length_iff] at h2
      have := h2 _ hm
      simp at this
theorem filt_all {l : List En} {k : Int} (h : (lk l k).isSome = false) : (l.filter fun x => x.1 != k) = l := by
  rw [List.filter_eq_self]
  intro e he
  by_cases hk : e.1 = k
  · exfalso
    have : (l.any fun e => e.1 == k) = true := List.any_eq_true.2 ⟨e, he, by simp [hk]⟩
    rw [← has_toD, has_lk, h] at this
    cases this
  · simp [hk]
theorem rlearn_is {l L : List En} (hp : L.Perm l) (ag ro : Int) (e : En) (hlen : (l.length : Int) ≤ ro) : (rlearnL ag ro L e).Perm (learnL ro (oldL ag e.2.2 l) e) := by
  have hf : (L.filter fun x => decide (e.2.2 < x.2.2 + ag) && x.1 != e.1).Perm ((oldL ag e.2.2 l).filter fun x => x.1 != e.1) := by
    unfold oldL
    rw [List.filter_filter]
    have : (fun x : En => decide (e.2.2 < x.2.2 + ag) && x.1 != e.1) = fun x : En => (x.1 != e.1) && !(decide (x.2.2 + ag ≤ e.2.2)) := by
      funext x
      rw [Bool.and_comm]
      congr 1
      by_cases h : e.2.2 < x.2.2 + ag
      · rw [decide_eq_true h, decide_eq_false (by omega)]; rfl
      · rw [decide_eq_false h, decide_eq_true (by omega)]; rfl
    rw [this]
    exact hp.filter _
  have hol : (oldL ag e.2.2 l).length ≤ l.length := List.length_filter_le _ _
  unfold rlearnL learnL
  generalize (L.filter fun x => decide (e.2.2 < x.2.2 + ag) && x.1 != e.1) = g at *
  generalize oldL ag e.2.2 l = q at *
  rw [hf.length_eq]
  have hput : (g ++ [e]).Perm (putL q e) := (List.perm_append_comm.trans (hf.cons e)).trans (ins_perm e _).symm
  cases hs : (lk q e.1).isSome with
  | true =>
    have := filt_lt hs
    rw [if_pos (by omega)]
    simp only [Bool.true_or, if_true]
    exact hput
  | false =>
    rw [filt_all hs] at hf ⊢
    by_cases hl : (q.length : Int) < ro
    · rw [if_pos hl, decide_eq_true hl]
      exact hput
    · rw [if_neg hl, decide_eq_false hl]
      exact hf
theorem learn_len {q : List En} {ro : Int} {e : En} (hlen : (q.length : Int) ≤ ro) (h1 : 1 ≤ ro) : ((learnL ro q e).length : Int) ≤ ro := by
  unfold learnL
  split
  · rename_i h
    unfold putL
    rw [len_ins]
    cases hs : (lk q e.1).isSome with
    | true => have := filt_lt hs; omega
    | false =>
      rw [hs] at h
      have hl : (q.length : Int) < ro := by simpa using h
      have := List.length_filter_le (fun x : En => x.1 != e.1) q
      omega
  · exact hlen
theorem mem_learn {q : List En} {ro : Int} {e x : En} (h : x ∈ learnL ro q e) : x = e ∨ x ∈ q := by
  unfold learnL at h
  split at h
  · rcases mem_ins.1 h with h | h
    · exact Or.inl h
    · exact Or.inr (List.mem_filter.1 h).1
  · exact Or.inr h
/-- The document's ways. -/
def rwaysL (po : Int) (g : Bool) (pk : Int × Bool) (from_ : Int) (n : Nat) : List Int := ((List.range n).map (fun i : Nat => (i : Int))).filter fun i => i != from_ && (g || !pk.2 || i == pk.1)
theorem rways_succ (po : Int) (g : Bool) (pk : Int × Bool) (f : Int) (n : Nat) : rwaysL po g pk f (n + 1) = if ((n : Int) != f && (g || !pk.2 || (n : Int) == pk.1)) = true then rwaysL po g pk f n ++ [(n : Int)] else rwaysL po g pk f n := by
  unfold rwaysL
  rw [List.range_succ, List.map_append, List.filter_append]
  by_cases h : ((n : Int) != f && (g || !pk.2 || (n : Int) == pk.1)) = true
  · rw [if_pos h]
    simp [List.filter_cons, h]
  · rw [if_neg h]
    simp [List.filter_cons, h]
theorem rways_len (po : Int) (g : Bool) (pk : Int × Bool) (f : Int) (n : Nat) : (rwaysL po g pk f n).length ≤ n := by
  unfold rwaysL
  exact Nat.le_trans (List.length_filter_le _ _) (by simp)
theorem range_one : ∀ (n : Nat) (c : Int), 0 ≤ c → c < n → ((List.range n).map (fun i : Nat => (i : Int))).filter (fun i => i == c) = [c]
  | 0, c, h0, h1 => by omega
  | n + 1, c, h0, h1 => by
    rw [List.range_succ, List.map_append, List.filter_append]
    by_cases h : c = n
    · subst h
      have : ((List.range n).map (fun i : Nat => (i : Int))).filter (fun i => i == (n : Int)) = [] := by
        rw [List.filter_eq_nil_iff]
        intro x hx
        obtain ⟨i, hi, rfl⟩ := List.mem_map.1 hx
        have := List.mem_range.1 hi
        simp; omega
      rw [this]
      simp
    · rw [range_one n c h0 (by omega)]
      have h2 : ((n : Int) == c) = false := by simp; omega
      simp [h2]
theorem rways_is {l : List En} {po ag from_ td now : Int} (hfr : ∀ e ∈ l, ¬ e.2.2 + ag ≤ now) (hpo : ∀ e ∈ l, 0 ≤ e.2.1 ∧ e.2.1 < po) :
    rwaysL po (macB td && grpB td) (portL l ag td now) from_ po.toNat = waysL po l from_ td := by
  have hoth : ∀ pk : Int × Bool, ((macB td && grpB td) || !pk.2) = true → rwaysL po (macB td && grpB td) pk from_ po.toNat = othL from_ po.toNat := by
    intro pk h
    unfold rwaysL othL
    congr 1
    funext i
    rw [h]
    simp
  cases hq : lk l td with
  | none =>
    have hL : portL l ag td now = (0, false) := by unfold portL; rw [hq]
    have hW : waysL po l from_ td = othL from_ po.toNat := by unfold waysL; rw [hq]
    rw [hL, hW]
    exact hoth _ (by simp)
  | some c =>
    obtain ⟨p, t⟩ := c
    have hm := lk_mem hq
    have h1 := hfr _ hm
    have h2 := hpo _ hm
    have hL : portL l ag td now = (p, true) := by unfold portL; rw [hq]; simp at h1 ⊢; omega
    rw [hL]
    cases hg : (macB td && grpB td) with
    | true =>
      have hW : waysL po l from_ td = othL from_ po.toNat := by unfold waysL; rw [hq]; simp [hg]
      rw [hW, ← hg]
      exact hoth _ (by rw [hg]; rfl)
    | false =>
      have hW : waysL po l from_ td = if p = from_ then [] else [p] := by unfold waysL; rw [hq]; simp [hg]
      rw [hW]
      unfold rwaysL
      simp only [Bool.false_or, Bool.not_true]
      by_cases hp : p = from_
      · subst hp
        rw [if_pos rfl, List.filter_eq_nil_iff]
        intro x hx
        by_cases e : x = p <;> simp [e]
      · rw [if_neg hp]
        have h3 := range_one po.toNat p h2.1 (by have := h2.2; simp at this; omega)
        rw [← h3]
        refine List.filter_congr fun x hx => ?_
        by_cases e : x = p
        · subst e; simp [hp]
        · simp [e]
def insS (x : Int) : List Int → List Int
  | [] => [x]
  | y :: r => if y < x then y :: insS x r else x :: y :: r
theorem insS_perm (x : Int) : ∀ l : List Int, (insS x l).Perm (x :: l)
  | [] => List.Perm.refl _
  | y :: r => by
    unfold insS
    split
    · exact ((insS_perm x r).cons y).trans (List.Perm.swap _ _ _)
    · exact List.Perm.refl _
theorem insS_rise (x : Int) : ∀ l : List Int, l.Pairwise (· ≤ ·) → (insS x l).Pairwise (· ≤ ·)
  | [], _ => by simp [insS]
  | y :: r, h => by
    have hy := List.pairwise_cons.1 h
    unfold insS
    split
    · rename_i hl
      refine List.pairwise_cons.2 ⟨fun z hz => ?_, insS_rise x r hy.2⟩
      rcases List.mem_cons.1 ((insS_perm x r).mem_iff.1 hz) with rfl | hz
      · omega
      · exact hy.1 z hz
    · rename_i hl
      refine List.pairwise_cons.2 ⟨fun z hz => ?_, h⟩
      rcases List.mem_cons.1 hz with rfl | hz
      · omega
      · have := hy.1 z hz; omega
theorem insS_at (x : Int) : ∀ (l : List Int) (k : Nat), k ≤ l.length → (∀ j, j < k → l.getD j 0 < x) → (k = l.length ∨ ¬ l.getD k 0 < x) → insS x l = l.take k ++ [x] ++ l.drop k
  | [], k, hk, _, _ => by simp at hk; subst hk; rfl
  | y :: r, 0, _, _, h => by
    unfold insS
    rcases h with h | h
    · simp at h
    · simp at h
      rw [if_neg (by omega)]
      rfl
  | y :: r, k + 1, hk, ha, h => by
    unfold insS
    have h0 := ha 0 (by omega)
    simp at h0
    rw [if_pos h0, insS_at x r k (by simpa using hk) (fun j hj => by have := ha (j + 1) (by omega); simpa using this) (by simpa using h)]
    simp
/-- The document's Known. -/
def rknownL (ag now : Int) (L : List En) : List Int := ((L.filter fun x => decide (now < x.2.2 + ag)).map (·.1)).foldl (fun a x => insS x a) []
theorem fold_perm : ∀ (l a : List Int), (l.foldl (fun a x => insS x a) a).Perm (l ++ a)
  | [], a => List.Perm.refl _
  | x :: r, a => by
    have h := fold_perm r (insS x a)
    refine (show ((x :: r).foldl (fun a x => insS x a) a).Perm _ from h).trans ?_
    exact ((insS_perm x a).append_left r).trans List.perm_middle
theorem fold_rise : ∀ (l a : List Int), a.Pairwise (· ≤ ·) → (l.foldl (fun a x => insS x a) a).Pairwise (· ≤ ·)
  | [], a, h => h
  | x :: r, a, h => fold_rise r (insS x a) (insS_rise x a h)
theorem rknown_is {l L : List En} (hr : Rise l) (hp : L.Perm l) (ag now : Int) : rknownL ag now L = knownL ag now l := by
  refine sorted_eq ?_ (fold_rise _ _ List.Pairwise.nil) (known_rise hr)
  unfold rknownL knownL oldL
  refine (fold_perm _ _).trans ?_
  rw [List.append_nil]
  refine List.Perm.map _ ?_
  have : (fun x : En => decide (now < x.2.2 + ag)) = fun x : En => !(decide (x.2.2 + ag ≤ now)) := by
    funext x
    by_cases h : now < x.2.2 + ag
    · rw [decide_eq_true h, decide_eq_false (by omega)]; rfl
    · rw [decide_eq_false h, decide_eq_true (by omega)]; rfl
  rw [this]
  exact hp.filter _
end Go.Proofs.Ytajknafmlghcgaa
