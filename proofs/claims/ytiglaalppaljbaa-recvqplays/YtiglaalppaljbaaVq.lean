/- Stretches of a rising list; RecvqApart in plain words. -/
import Derived.Test.YtiglaalppaljbaaVm
namespace Go.Proofs.Ytiglaalppaljbaa
open Go.RowKit Go.Maps Go.Lib
set_option maxRecDepth 100000
set_option linter.unusedVariables false
set_option linter.unusedSimpArgs false


/-- acc is the stretches of ps. -/
structure SOk (ps : List Nat) (acc : List St) : Prop where
  rise : acc.Pairwise (fun x y => x.2 < y.1)
  ok : ∀ e ∈ acc, e.1 < e.2
  mem : ∀ x, (∃ e ∈ acc, e.1 ≤ x ∧ x < e.2) ↔ x ∈ ps
  sum : (acc.map fun e => e.2 - e.1).sum = ps.length
theorem sok_nil : SOk [] [] := ⟨List.Pairwise.nil, (fun e h => by cases h), fun x => ⟨(fun ⟨e, h, _⟩ => by cases h), (fun h => by cases h)⟩, rfl⟩
theorem sok_step {ps : List Nat} {acc : List St} (h : SOk ps acc) {p : Nat} (hp : ∀ x ∈ ps, x < p) : SOk (ps ++ [p]) (snoc acc p) := by
  unfold snoc
  cases hq : acc.getLast? with
  | none =>
    have ha : acc = [] := List.getLast?_eq_none_iff.1 hq
    subst ha
    have hps : ps = [] := by
      cases ps with
      | nil => rfl
      | cons y r => obtain ⟨e, he, -⟩ := (h.mem y).2 (List.mem_cons_self ..); cases he
    subst hps
    refine ⟨by simp, by simp, fun x => ?_, by simp⟩
    constructor
    · rintro ⟨e, he, h1, h2⟩; simp at he; subst he; simp at h1 h2 ⊢; omega
    · intro hx; simp at hx; subst hx; exact ⟨(x, x + 1), by simp, Nat.le_refl _, Nat.lt_succ_self _⟩
  | some e =>
    obtain ⟨ini, rfl⟩ := List.getLast?_eq_some_iff.1 hq
    have he := h.ok e (by simp)
    have hr := List.pairwise_append.1 h.rise
    have hlt : e.2 ≤ p := by
      have := (h.mem (e.2 - 1)).1 ⟨e, by simp, by omega, by omega⟩
      have := hp _ this
      omega
    have hini : ∀ x ∈ ini, x.2 < e.1 := fun x hx => hr.2.2 x hx e (by simp)
    dsimp only
    by_cases hep : e.2 = p
    · rw [if_pos hep]
      have hset : (ini ++ [e]).set ((ini ++ [e]).length - 1) (e.1, p + 1) = ini ++ [(e.1, p + 1)] := by
        rw [List.length_append, List.length_singleton, Nat.add_sub_cancel, List.set_append_right _ _ (Nat.le_refl _), Nat.sub_self]
        rfl
      rw [hset]
      refine ⟨?_, ?_, fun x => ?_, ?_⟩
      · rw [List.pairwise_append]
        exact ⟨hr.1, by simp, fun x hx y hy => by simp at hy; subst hy; exact hini x hx⟩
      · intro x hx
        rcases List.mem_append.1 hx with h1 | h1
        · exact h.ok x (by simp [h1])
        · simp at h1; subst h1; show e.1 < p + 1; omega
      · rw [List.mem_append, ← h.mem]
        constructor
        · rintro ⟨y, hy, h1, h2⟩
          rcases List.mem_append.1 hy with h3 | h3
          · exact Or.inl ⟨y, by simp [h3], h1, h2⟩
          · simp at h3; subst h3
            simp only at h1 h2
            by_cases hx : x = p
            · exact Or.inr (by simp [hx])
            · exact Or.inl ⟨e, by simp, h1, by omega⟩
        · rintro (⟨y, hy, h1, h2⟩ | hx)
          · rcases List.mem_append.1 hy with h3 | h3
            · exact ⟨y, by simp [h3], h1, h2⟩
            · simp at h3; subst h3
              exact ⟨(y.1, p + 1), by simp, h1, by show x < p + 1; omega⟩
          · simp at hx; subst hx
            exact ⟨(e.1, x + 1), by simp, by show e.1 ≤ x; omega, Nat.lt_succ_self _⟩
      · have := h.sum
        simp only [List.map_append, List.sum_append, List.map_cons, List.map_nil, List.sum_cons, List.sum_nil, List.length_append, List.length_singleton] at this ⊢
        omega
    · rw [if_neg hep]
      refine ⟨?_, ?_, fun x => ?_, ?_⟩
      · rw [List.pairwise_append]
        refine ⟨h.rise, by simp, fun x hx y hy => ?_⟩
        simp at hy; subst hy
        rcases List.mem_append.1 hx with h1 | h1
        · have := hini x h1; show x.2 < p; omega
        · simp at h1; subst h1; show x.2 < p; omega
      · intro x hx
        rcases List.mem_append.1 hx with h1 | h1
        · exact h.ok x h1
        · simp at h1; subst h1; exact Nat.lt_succ_self _
      · rw [List.mem_append, ← h.mem]
        constructor
        · rintro ⟨y, hy, h1, h2⟩
          rcases List.mem_append.1 hy with h3 | h3
          · exact Or.inl ⟨y, h3, h1, h2⟩
          · simp at h3; subst h3
            simp only at h1 h2
            exact Or.inr (by simp; omega)
        · rintro (⟨y, hy, h1, h2⟩ | hx)
          · exact ⟨y, List.mem_append_left _ hy, h1, h2⟩
          · simp at hx; subst hx
            exact ⟨(x, x + 1), by simp, Nat.le_refl _, Nat.lt_succ_self _⟩
      · have := h.sum
        simp only [List.map_append, List.sum_append, List.map_cons, List.map_nil, List.sum_cons, List.sum_nil, List.length_append, List.length_singleton] at this ⊢
        omega
theorem sok_fold : ∀ (r : List Nat) {ps : List Nat} {acc : List St}, SOk ps acc → (ps ++ r).Pairwise (· < ·) → SOk (ps ++ r) (r.foldl snoc acc)
  | [], ps, acc, h, _ => by simpa using h
  | p :: r, ps, acc, h, hp => by
    have h1 : SOk (ps ++ [p]) (snoc acc p) := sok_step h (fun x hx => (List.pairwise_append.1 hp).2.2 x hx p (List.mem_cons_self ..))
    have h2 := sok_fold r h1 (by simpa using hp)
    simpa using h2
theorem sok_str {ps : List Nat} (h : ps.Pairwise (· < ·)) : SOk ps (strL ps) := by
  have := sok_fold ps sok_nil (by simpa using h)
  unfold strL
  simpa using this
/-! ### The law's queue -/
def aQ (D : Nat → Bool) : Rq := ⟨80, 4294967276, [], fun x => if D x = true then some 120 else none⟩
def dNew (D : Nat → Bool) (d n : Nat) : Nat → Bool := fun x => D x || (decide (d ≤ x) && decide (x < d + n) && decide (x < 80))
structure DI (D : Nat → Bool) : Prop where
  z : D 0 = false
  hi : ∀ x, D x = true → x < 80
theorem aQ_fine {D : Nat → Bool} (h : DI D) : (aQ D).Fine := by
  refine ⟨by show 1 ≤ 80; omega, by show 80 ≤ 65536; omega, by show (0 : Int) ≤ 4294967276; omega, by show (4294967276 : Int) ≤ 4294967295; omega, Nat.zero_le _, fun d hd => ?_⟩
  have hD : D d = true := by
    cases hq : D d with
    | true => rfl
    | false => have : (if D d = true then some (120 : UInt8) else none).isSome = true := hd; rw [hq] at this; cases this
  refine ⟨?_, h.hi d hD⟩
  rcases Nat.eq_zero_or_pos d with e | e
  · rw [e, h.z] at hD; cases hD
  · exact e
theorem dNew_di {D : Nat → Bool} (h : DI D) {d n : Nat} (hd : 1 ≤ d) : DI (dNew D d n) := by
  refine ⟨?_, fun x hx => ?_⟩
  · unfold dNew; rw [h.z, decide_eq_false (show ¬ d ≤ 0 by omega)]; rfl
  · unfold dNew at hx
    rcases Bool.or_eq_true_iff.1 hx with h1 | h1
    · exact h.hi x h1
    · simp at h1; omega
theorem cut_far {d n : Nat} (hd1 : 1 ≤ d) (hd : d ≤ 100) (hn : n ≤ 100) :
    cutS ((4294967276 + (d : Int)) % 4294967296) (n : Int) 4294967276 (80 : Int) = 0 ∧ cutK ((4294967276 + (d : Int)) % 4294967296) (n : Int) 4294967276 (80 : Int) = ((min n (80 - d) : Nat) : Int) := by
  obtain ⟨hB, -⟩ := cut_plain (a := (4294967276 + (d : Int)) % 4294967296) (t := 4294967276) (n := (n : Int)) (win := 80) (by omega) (by omega) (by omega) (by omega) (by omega) (by omega) (by omega) (by omega)
  have hdd : ((4294967276 : Int) - (4294967276 + (d : Int)) % 4294967296) % 4294967296 = 4294967296 - (d : Int) := by omega
  unfold cutS cutK
  simp only [if_pos hB, hdd]
  have h1 : ¬ (4294967296 - (d : Int) < 2147483648) := by omega
  simp only [if_neg h1]
  refine ⟨trivial, ?_⟩
  split
  · omega
  · split <;> omega
theorem ap_sk {D : Nat → Bool} {d n : Nat} (hd1 : 1 ≤ d) (hd : d ≤ 100) (hn : n ≤ 100) : skN (aQ D) ((4294967276 + (d : Int)) % 4294967296) n = 0 ∧ keN (aQ D) ((4294967276 + (d : Int)) % 4294967296) n = min n (80 - d) ∧ putD (aQ D) ((4294967276 + (d : Int)) % 4294967296) n = d := by
  obtain ⟨h1, h2⟩ := cut_far hd1 hd hn
  have e1 : skN (aQ D) ((4294967276 + (d : Int)) % 4294967296) n = 0 := by
    unfold skN
    show (cutS ((4294967276 + (d : Int)) % 4294967296) (n : Int) 4294967276 (80 : Int)).toNat = 0
    rw [h1]; rfl
  refine ⟨e1, ?_, ?_⟩
  · unfold keN
    show (cutK ((4294967276 + (d : Int)) % 4294967296) (n : Int) 4294967276 (80 : Int)).toNat = _
    rw [h2]; omega
  · unfold putD offN
    rw [e1]
    show ((((4294967276 + (d : Int)) % 4294967296 + ((0 : Nat) : Int)) % 4294967296 - 4294967276) % 4294967296).toNat = d
    omega
/-- Bytes x, apart. -/
theorem ap_x {D : Nat → Bool} (h : DI D) {d n : Nat} (hd1 : 1 ≤ d) (hd : d ≤ 100) (hn : n ≤ 100) : putA (aQ D) ((4294967276 + (d : Int)) % 4294967296) (List.replicate n 120) = (aQ (dNew D d n)).ap := by
  obtain ⟨h1, h2, h3⟩ := ap_sk (D := D) hd1 hd hn
  unfold putA putS
  rw [List.length_replicate, h1, h2, h3]
  funext x
  unfold addAp
  show (if (if D x = true then some (120 : UInt8) else none).isSome = true then (if D x = true then some (120 : UInt8) else none) else _) = if dNew D d n x = true then some 120 else none
  unfold dNew
  cases hc : D x with
  | true => simp
  | false =>
    simp only [Bool.false_eq_true, if_false, Option.isSome_none, Bool.false_or, List.drop_zero, List.take_replicate, List.getElem?_replicate, Bool.and_eq_true, decide_eq_true_eq]
    by_cases h4 : d ≤ x
    · rw [if_pos h4]
      by_cases h5 : x - d < min (min n (80 - d)) n
      · rw [if_pos h5, if_pos ⟨⟨h4, by omega⟩, by omega⟩]
      · rw [if_neg h5, if_neg (by omega)]
    · rw [if_neg h4, if_neg (fun h => h4 h.1.1)]
/-- Bytes that come again. -/
theorem ap_again {D : Nat → Bool} (h : DI D) {d n : Nat} {s : List UInt8} (hd1 : 1 ≤ d) (hd : d ≤ 100) (hs : s.length ≤ n) (hn : n ≤ 100) (hin : ∀ x, d ≤ x → x < d + n → D x = true) : putA (aQ D) ((4294967276 + (d : Int)) % 4294967296) s = (aQ D).ap := by
  obtain ⟨h1, h2, h3⟩ := ap_sk (D := D) (n := s.length) hd1 hd (by omega)
  unfold putA putS
  rw [h1, h2, h3]
  funext x
  unfold addAp
  show (if (if D x = true then some (120 : UInt8) else none).isSome = true then (if D x = true then some (120 : UInt8) else none) else _) = if D x = true then some 120 else none
  cases hc : D x with
  | true => simp
  | false =>
    simp only [Bool.false_eq_true, if_false, Option.isSome_none, List.drop_zero]
    by_cases h4 : d ≤ x
    · rw [if_pos h4]
      refine List.getElem?_eq_none ?_
      rw [List.length_take]
      rcases Nat.lt_or_ge x (d + n) with h5 | h5
      · rw [hin x h4 h5] at hc; cases hc
      · omega
    · rw [if_neg h4]
theorem run_zero {D : Nat → Bool} (h : DI D) : Run (aQ D).ap [] := ⟨fun i b hb => by simp at hb, by show (if D 0 = true then some (120 : UInt8) else none) = none; rw [h.z]; rfl⟩
theorem go_zero (D D' : Nat → Bool) : goQ (aQ D) (aQ D').ap [] = aQ D' := rfl
def yL (D : Nat → Bool) : List UInt8 := (List.range 80).map fun x => if D x = true then 120 else 121
theorem ap_y {D : Nat → Bool} (h : DI D) : putA (aQ D) 4294967276 (List.replicate 90 121) = fun x => if x < 80 then some (if D x = true then 120 else 121) else none := by
  have e1 : skN (aQ D) 4294967276 90 = 0 := by show (cutS 4294967276 90 4294967276 80).toNat = 0; decide +kernel
  have e2 : keN (aQ D) 4294967276 90 = 80 := by show (cutK 4294967276 90 4294967276 80).toNat = 80; decide +kernel
  have e3 : putD (aQ D) 4294967276 90 = 0 := by unfold putD offN; rw [e1]; rfl
  unfold putA putS
  rw [List.length_replicate, e1, e2, e3]
  funext x
  unfold addAp
  show (if (if D x = true then some (120 : UInt8) else none).isSome = true then (if D x = true then some (120 : UInt8) else none) else _) = _
  cases hc : D x with
  | true => have := h.hi x hc; simp [this]
  | false =>
    simp only [Bool.false_eq_true, if_false, Option.isSome_none, List.drop_zero, List.take_replicate, List.getElem?_replicate, Nat.zero_le, if_true, Nat.sub_zero]
    rfl
theorem run_y (D : Nat → Bool) : Run (fun x => if x < 80 then some (if D x = true then (120 : UInt8) else 121) else none) (yL D) := by
  have hl : (yL D).length = 80 := by unfold yL; rw [List.length_map, List.length_range]
  refine ⟨fun i b hb => ?_, by rw [hl]; rfl⟩
  have hi := (List.getElem?_eq_some_iff.1 hb).1
  rw [hl] at hi
  unfold yL at hb
  rw [List.getElem?_map, List.getElem?_range hi] at hb
  simp only [if_pos hi]
  exact hb
theorem yL_len (D : Nat → Bool) : (yL D).length = 80 := by unfold yL; rw [List.length_map, List.length_range]
theorem yL_at (D : Nat → Bool) {i : Nat} (hi : i < 80) : (yL D)[i]? = some (if D i = true then 120 else 121) := by unfold yL; rw [List.getElem?_map, List.getElem?_range hi]; rfl
/-- How many of the first i are x. -/
def cntD (D : Nat → Bool) (i : Nat) : Nat := ((List.range i).filter fun x => D x).length
theorem cntD_succ (D : Nat → Bool) (i : Nat) : cntD D (i + 1) = cntD D i + if D i = true then 1 else 0 := by
  unfold cntD
  rw [List.range_succ, List.filter_append, List.length_append]
  cases h : D i <;> simp [h]
theorem offs_aQ (D : Nat → Bool) : offs (aQ D) = (List.range 80).filter fun x => D x := by
  unfold offs
  show (List.range 80).filter _ = _
  refine List.filter_congr fun x _ => ?_
  show (if D x = true then some (120 : UInt8) else none).isSome = D x
  cases D x <;> rfl
end Go.Proofs.Ytiglaalppaljbaa
