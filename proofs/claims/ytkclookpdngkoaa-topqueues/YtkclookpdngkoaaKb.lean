/- Stretches; what is told apart; how long it may go on. -/
import Derived.Test.YtkclookpdngkoaaKa
namespace Go.Proofs.Ytkclookpdngkoaa
open Go.RowKit Go.Maps Go.Lib
set_option maxRecDepth 100000
set_option linter.unusedVariables false
set_option linter.unusedSimpArgs false

/-- acc is the stretches of ps. -/
structure SOk (ps : List Nat) (acc : List V.St) : Prop where
  rise : acc.Pairwise (fun x y => x.2 < y.1)
  ok : ∀ e ∈ acc, e.1 < e.2
  mem : ∀ x, (∃ e ∈ acc, e.1 ≤ x ∧ x < e.2) ↔ x ∈ ps
  sum : (acc.map fun e => e.2 - e.1).sum = ps.length
theorem sok_nil : SOk [] [] := ⟨List.Pairwise.nil, (fun e h => by cases h), fun x => ⟨(fun ⟨e, h, _⟩ => by cases h), (fun h => by cases h)⟩, rfl⟩
theorem sok_step {ps : List Nat} {acc : List V.St} (h : SOk ps acc) {p : Nat} (hp : ∀ x ∈ ps, x < p) : SOk (ps ++ [p]) (V.snoc acc p) := by
  unfold V.snoc
  cases hq : acc.getLast? with
  | none =>
    have ha : acc = [] := List.getLast?_eq_none_iff.1 hq
    subst ha
    have hps : ps = [] := by
      cases ps with
      | nil => rfl
      | cons y r => obtain ⟨e, he, -⟩ := (h.mem y).2 (List.mem_cons_self ..); cases he
    subst hps
    refine ⟨by simp, by simp, fun x => ?_, by simp⟩
    constructor
    · rintro ⟨e, he, h1, h2⟩; simp at he; subst he; simp at h1 h2 ⊢; omega
    · intro hx; simp at hx; subst hx; exact ⟨(x, x + 1), by simp, Nat.le_refl _, Nat.lt_succ_self _⟩
  | some e =>
    obtain ⟨ini, rfl⟩ := List.getLast?_eq_some_iff.1 hq
    have he := h.ok e (by simp)
    have hr := List.pairwise_append.1 h.rise
    have hlt : e.2 ≤ p := by
      have := (h.mem (e.2 - 1)).1 ⟨e, by simp, by omega, by omega⟩
      have := hp _ this
      omega
    have hini : ∀ x ∈ ini, x.2 < e.1 := fun x hx => hr.2.2 x hx e (by simp)
    dsimp only
    by_cases hep : e.2 = p
    · rw [if_pos hep]
      have hset : (ini ++ [e]).set ((ini ++ [e]).length - 1) (e.1, p + 1) = ini ++ [(e.1, p + 1)] := by
        rw [List.length_append, List.length_singleton, Nat.add_sub_cancel, List.set_append_right _ _ (Nat.le_refl _), Nat.sub_self]
        rfl
      rw [hset]
      refine ⟨?_, ?_, fun x => ?_, ?_⟩
      · rw [List.pairwise_append]
        exact ⟨hr.1, by simp, fun x hx y hy => by simp at hy; subst hy; exact hini x hx⟩
      · intro x hx
        rcases List.mem_append.1 hx with h1 | h1
        · exact h.ok x (by simp [h1])
        · simp at h1; subst h1; show e.1 < p + 1; omega
      · rw [List.mem_append, ← h.mem]
        constructor
        · rintro ⟨y, hy, h1, h2⟩
          rcases List.mem_append.1 hy with h3 | h3
          · exact Or.inl ⟨y, by simp [h3], h1, h2⟩
          · simp at h3; subst h3
            simp only at h1 h2
            by_cases hx : x = p
            · exact Or.inr (by simp [hx])
            · exact Or.inl ⟨e, by simp, h1, by omega⟩
        · rintro (⟨y, hy, h1, h2⟩ | hx)
          · rcases List.mem_append.1 hy with h3 | h3
            · exact ⟨y, by simp [h3], h1, h2⟩
            · simp at h3; subst h3
              exact ⟨(y.1, p + 1), by simp, h1, by show x < p + 1; omega⟩
          · simp at hx; subst hx
            exact ⟨(e.1, x + 1), by simp, by show e.1 ≤ x; omega, Nat.lt_succ_self _⟩
      · have := h.sum
        simp only [List.map_append, List.sum_append, List.map_cons, List.map_nil, List.sum_cons, List.sum_nil, List.length_append, List.length_singleton] at this ⊢
        omega
    · rw [if_neg hep]
      refine ⟨?_, ?_, fun x => ?_, ?_⟩
      · rw [List.pairwise_append]
        refine ⟨h.rise, by simp, fun x hx y hy => ?_⟩
        simp at hy; subst hy
        rcases List.mem_append.1 hx with h1 | h1
        · have := hini x h1; show x.2 < p; omega
        · simp at h1; subst h1; show x.2 < p; omega
      · intro x hx
        rcases List.mem_append.1 hx with h1 | h1
        · exact h.ok x h1
        · simp at h1; subst h1; exact Nat.lt_succ_self _
      · rw [List.mem_append, ← h.mem]
        constructor
        · rintro ⟨y, hy, h1, h2⟩
          rcases List.mem_append.1 hy with h3 | h3
          · exact Or.inl ⟨y, h3, h1, h2⟩
          · simp at h3; subst h3
            simp only at h1 h2
            exact Or.inr (by simp; omega)
        · rintro (⟨y, hy, h1, h2⟩ | hx)
          · exact ⟨y, List.mem_append_left _ hy, h1, h2⟩
          · simp at hx; subst hx
            exact ⟨(x, x + 1), by simp, Nat.le_refl _, Nat.lt_succ_self _⟩
      · have := h.sum
        simp only [List.map_append, List.sum_append, List.map_cons, List.map_nil, List.sum_cons, List.sum_nil, List.length_append, List.length_singleton] at this ⊢
        omega
theorem sok_fold : ∀ (r : List Nat) {ps : List Nat} {acc : List V.St}, SOk ps acc → (ps ++ r).Pairwise (· < ·) → SOk (ps ++ r) (r.foldl V.snoc acc)
  | [], ps, acc, h, _ => by simpa using h
  | p :: r, ps, acc, h, hp => by
    have h1 : SOk (ps ++ [p]) (V.snoc acc p) := sok_step h (fun x hx => (List.pairwise_append.1 hp).2.2 x hx p (List.mem_cons_self ..))
    have h2 := sok_fold r h1 (by simpa using hp)
    simpa using h2
theorem sok_str {ps : List Nat} (h : ps.Pairwise (· < ·)) : SOk ps (V.strL ps) := by
  have := sok_fold ps sok_nil (by simpa using h)
  unfold V.strL
  simpa using this

theorem str_few {N : Nat} : ∀ (l : List V.St) (b : Nat), b ≤ N + 1 → l.Pairwise (fun x y => x.2 < y.1) → (∀ e ∈ l, b ≤ e.1 ∧ e.1 < e.2 ∧ e.2 ≤ N) → 2 * l.length + b ≤ N + 1
  | [], b, h, _, _ => by simp; omega
  | x :: l, b, h, hp, hm => by
    have h1 := hm x (List.mem_cons_self ..)
    obtain ⟨h2, h3⟩ := List.pairwise_cons.1 hp
    have := str_few (N := N) l (x.2 + 1) (by omega) h3 (fun e he => by
      have h4 := hm e (List.mem_cons_of_mem _ he)
      have h5 := h2 e he
      omega)
    rw [List.length_cons]; omega
theorem rQ_offs {T : List UInt8} {fi : Int} {C : Nat → Bool} {p r s : Nat} (h : TI T C p r s) (x : Nat) : x ∈ V.offs (rQ T fi C p r) ↔ C (p + x) = true := by
  have h1 := h.rp; have h2 := h.ps; have h3 := h.sT; have h4 := h.w
  unfold V.offs
  rw [List.mem_filter, List.mem_range]
  constructor
  · rintro ⟨-, hx⟩
    cases hq : C (p + x) with
    | true => rfl
    | false => have : (if C (p + x) = true then T[p + x]? else none).isSome = true := hx; rw [hq] at this; cases this
  · intro hx
    have := h.hi _ hx
    refine ⟨by show x < 150; omega, ?_⟩
    show (if C (p + x) = true then T[p + x]? else none).isSome = true
    rw [if_pos hx, List.getElem?_eq_getElem (by omega)]; rfl
theorem rQ_str {T : List UInt8} {fi : Int} {C : Nat → Bool} {p r s : Nat} (h : TI T C p r s) :
    V.apartL (rQ T fi C p r) 99 = (V.strL (V.offs (rQ T fi C p r))).map (V.numR ((fi + (p : Int)) % 4294967296)) ∧ SOk (V.offs (rQ T fi C p r)) (V.strL (V.offs (rQ T fi C p r))) ∧ ∀ e ∈ V.strL (V.offs (rQ T fi C p r)), 0 < e.1 ∧ e.1 < e.2 ∧ p + e.2 ≤ s := by
  have h1 := h.rp; have h2 := h.ps; have h3 := h.sT; have h4 := h.w
  have hs := sok_str (V.offs_rise (rQ T fi C p r))
  have hm : ∀ e ∈ V.strL (V.offs (rQ T fi C p r)), 0 < e.1 ∧ e.1 < e.2 ∧ p + e.2 ≤ s := fun e he => by
    have h5 := hs.ok e he
    have h6 := (rQ_offs h _).1 ((hs.mem e.1).1 ⟨e, he, Nat.le_refl _, h5⟩)
    have h7 := h.hi _ ((rQ_offs h _).1 ((hs.mem (e.2 - 1)).1 ⟨e, he, by omega, by omega⟩))
    refine ⟨?_, h5, by omega⟩
    rcases Nat.eq_zero_or_pos e.1 with e0 | e0
    · rw [e0, Nat.add_zero, h.at_] at h6; cases h6
    · exact e0
  refine ⟨?_, hs, hm⟩
  have hl := str_few (N := 150) _ 0 (by omega) hs.rise (fun e he => by have := hm e he; omega)
  unfold V.apartL
  rw [List.take_of_length_le (by show _ ≤ (99 : Int).toNat; omega)]
  rfl
theorem str_len {T : List UInt8} {fi : Int} {C : Nat → Bool} {p r s : Nat} (h : TI T C p r s) : (V.apartL (rQ T fi C p r) 99).length ≤ 100 := by
  unfold V.apartL
  rw [List.length_map, List.length_take]
  show min (99 : Int).toNat _ ≤ 100
  omega
/-- No stretch begins where the hole does. -/
theorem no_from {T : List UInt8} {fi : Int} {C : Nat → Bool} {p r s : Nat} (h : TI T C p r s) {x : V.Rg} (hx : x ∈ V.apartL (rQ T fi C p r) 99) : ((fi + (p : Int)) % 4294967296 == x.1) = false := by
  have h1 := h.rp; have h2 := h.ps; have h3 := h.sT; have h4 := h.w
  obtain ⟨he, -, hm⟩ := rQ_str (fi := fi) h
  rw [he] at hx
  obtain ⟨e, h5, rfl⟩ := List.mem_map.1 hx
  have h6 := hm e h5
  rw [beq_eq_false_iff_ne]
  show (fi + (p : Int)) % 4294967296 ≠ ((fi + (p : Int)) % 4294967296 + (e.1 : Int)) % 4294967296
  omega
theorem ti_apart {T : List UInt8} {fi : Int} {C C0 : Nat → Bool} {p r s : Nat} {ps L : List S.Pt} (h : TI T C p r s) (hC : ∀ j, C0 j = true → C j = true) (hc : cov C0 p ps) (hA : S.AI (sQ T fi p s ps) (V.apartL (rQ T fi C p r) 99) L) :
    S.PsOk (s - p) L ∧ cov C p L := by
  have h1 := h.rp; have h2 := h.ps; have h3 := h.sT; have h4 := h.w
  refine ⟨hA.1, fun k => ?_⟩
  obtain ⟨he, hs, hm⟩ := rQ_str (fi := fi) h
  rw [hA.2 k, he]
  have hok : ∀ e ∈ V.strL (V.offs (rQ T fi C p r)), (S.okI (sQ T fi p s ps) (V.numR ((fi + (p : Int)) % 4294967296) e) k ↔ e.1 ≤ k ∧ k < e.2) := fun e he => by
    have h5 := hm e he
    have e1 : (V.numR ((fi + (p : Int)) % 4294967296) e).1 = (fi + ((p + e.1 : Nat) : Int)) % 4294967296 := by
      show ((fi + (p : Int)) % 4294967296 + (e.1 : Int)) % 4294967296 = _
      omega
    have e2 : (V.numR ((fi + (p : Int)) % 4294967296) e).2 = (fi + ((p + e.2 : Nat) : Int)) % 4294967296 := by
      show ((fi + (p : Int)) % 4294967296 + (e.2 : Int)) % 4294967296 = _
      omega
    unfold S.okI
    rw [e1, e2, place_is (by omega) (by omega) (by omega), place_is (by omega) (by omega) (by omega), off_is (by omega) (by omega), off_is (by omega) (by omega)]
    constructor
    · rintro ⟨-, -, h6, h7⟩; omega
    · intro h6; exact ⟨rfl, rfl, by omega, by omega⟩
  constructor
  · rintro (h5 | ⟨x, hx, h6⟩)
    · exact hC _ ((hc k).1 h5)
    · obtain ⟨e, h7, rfl⟩ := List.mem_map.1 hx
      exact (rQ_offs h k).1 ((hs.mem k).1 ⟨e, h7, (hok e h7).1 h6⟩)
  · intro h5
    obtain ⟨e, h6, h7⟩ := (hs.mem k).2 ((rQ_offs (fi := fi) h k).2 h5)
    exact Or.inr ⟨_, List.mem_map.2 ⟨e, h6, rfl⟩, (hok e h6).2 h7⟩
/-! ### How long it may go on -/
/-- How many of the first n did not come. -/
def cnt (C : Nat → Bool) : Nat → Nat
  | 0 => 0
  | n + 1 => cnt C n + if C n = true then 0 else 1
theorem cnt_le {C : Nat → Bool} {p : Nat} (h : ∀ j, j < p → C j = true) : ∀ n, cnt C n ≤ n - p
  | 0 => by simp [cnt]
  | n + 1 => by
    have := cnt_le h n
    unfold cnt
    by_cases hn : n < p
    · rw [if_pos (h n hn)]; omega
    · split <;> omega
theorem cnt_mono {C C' : Nat → Bool} : ∀ n, (∀ j, j < n → C j = true → C' j = true) → cnt C' n ≤ cnt C n
  | 0, _ => Nat.le_refl _
  | n + 1, h => by
    have := cnt_mono n (fun j hj => h j (by omega))
    unfold cnt
    by_cases hc : C n = true
    · rw [if_pos hc, if_pos (h n (by omega) hc)]; omega
    · rw [if_neg hc]; split <;> omega
theorem cnt_lt {C C' : Nat → Bool} {p : Nat} (hp : C p = false) (hp' : C' p = true) : ∀ n, (∀ j, j < n → C j = true → C' j = true) → p < n → cnt C' n < cnt C n
  | 0, _, hn => by omega
  | n + 1, h, hn => by
    by_cases hpn : p = n
    · subst hpn
      have := cnt_mono p (fun j hj => h j (by omega))
      unfold cnt
      rw [hp, hp', if_pos rfl, if_neg (by simp)]; omega
    · have := cnt_lt hp hp' n (fun j hj => h j (by omega)) (by omega)
      unfold cnt
      by_cases hc : C n = true
      · rw [if_pos hc, if_pos (h n (by omega) hc)]; omega
      · rw [if_neg hc]; split <;> omega
theorem cnt_add {C : Nat → Bool} {s : Nat} : ∀ n, (∀ j, s ≤ j → j < s + n → C j = true) → cnt C (s + n) = cnt C s
  | 0, _ => rfl
  | n + 1, h => by
    show cnt C (s + n) + (if C (s + n) = true then 0 else 1) = _
    rw [cnt_add n (fun j h1 h2 => h j h1 (by omega)), if_pos (h (s + n) (by omega) (by omega))]; omega
def pot (N p r s m : Nat) : Nat := 2 * m + 3 * ((N - s + 30) / 31) + (N - p) / 50 + min (r + 150 - s) 1 + min (p - r) 1
/-- What is sent in a turn, of at most m bytes: the bytes from a to e. -/
def Sent (N p r s m a e s1 : Nat) : Prop :=
  (a = s ∧ e = s1 ∧ s < s1 ∧ s1 = s + min (min (N - s) (r + 150 - s)) m) ∨ (a = p ∧ s1 = s ∧ min (N - s) (r + 150 - s) = 0 ∧ p ≤ e ∧ e ≤ s ∧ (p < s → p < e))
theorem pot_first {T : List UInt8} {C : Nat → Bool} {p r s : Nat} (h : TI T C p r s) : pot T.length p r s (cnt C s) ≤ 337 := by
  have h1 := h.rp; have h2 := h.ps; have h3 := h.sT; have h4 := h.w; have h5 := h.room
  have h6 := cnt_le h.lo s
  unfold pot
  omega
theorem ar_gap {N p r s e r' m m' : Nat} (hN : s ≤ N) (hp : p < s) (hr : r ≤ p) (h50 : p - r ≤ 50) (hw : s ≤ r + 150) (hlt : s < e) (hn : e = s + min (min (N - s) (r + 150 - s)) 31) (hr' : r' = r + min 100 (p - r)) (hm : m' ≤ m) : pot N p r' e m' + 1 ≤ pot N p r s m := by
  obtain rfl : r' = p := by omega
  have k1 : min (r + 150 - s) 1 = 1 := by omega
  have k2 : min (r' - r') 1 = 0 := by omega
  have hc : (e = N ∧ N - s ≤ 31) ∨ (e = s + 31 ∧ s + 31 ≤ N) ∨ (e = r + 150 ∧ e < N ∧ e < s + 31) := by omega
  unfold pot
  rw [k1, k2]
  generalize (N - r') / 50 = q
  clear k1 k2 hn
  rcases hc with ⟨rfl, h1⟩ | ⟨rfl, h1⟩ | ⟨rfl, h1, h2⟩
  · have k3 : 1 ≤ (e - s + 30) / 31 := by omega
    have k4 : (e - e + 30) / 31 = 0 := by omega
    rw [k4]
    have k5 : min (r' + 150 - e) 1 ≤ 1 := Nat.min_le_right _ _
    omega
  · have k3 : (N - s + 30) / 31 = (N - (s + 31) + 30) / 31 + 1 := by omega
    have k5 : min (r' + 150 - (s + 31)) 1 ≤ 1 := Nat.min_le_right _ _
    omega
  · have k3 : (N - (r + 150) + 30) / 31 ≤ (N - s + 30) / 31 := by omega
    have k5 : min (r' + 150 - (r + 150)) 1 = min (r' - r) 1 := by omega
    omega
theorem ar_no {N r s e r' m m' : Nat} (hN : s ≤ N) (hr : r ≤ s) (h50 : s - r ≤ 50) (hw : e ≤ r + 150) (he : e ≤ N) (hlt : s < e) (hn : e = s + min (min (N - s) (r + 150 - s)) 31) (hr' : r' = r + min 100 (e - r)) (hm : m' ≤ m) : pot N e r' e m' + 1 ≤ pot N s r s m := by
  obtain rfl : r' = e := by omega
  have hc : (r' = N ∧ N - s ≤ 31) ∨ (r' = s + 31 ∧ s + 31 ≤ N) := by omega
  have k1 : min (r + 150 - s) 1 = 1 := by omega
  have k2 : min (r' - r') 1 = 0 := by omega
  have k6 : min (r' + 150 - r') 1 = 1 := by omega
  have k7 : (N - r') / 50 ≤ (N - s) / 50 := by omega
  unfold pot
  rw [k1, k2, k6]
  have k3 : (N - r' + 30) / 31 + 1 ≤ (N - s + 30) / 31 := by rcases hc with ⟨rfl, h1⟩ | ⟨rfl, h1⟩ <;> omega
  omega
theorem ar_hole {N p r s p' r' m m' : Nat} (hN : s ≤ N) (hr : r ≤ p) (h50 : p - r ≤ 50) (hw : s ≤ r + 150) (hp : p < p') (hps : p' ≤ s) (hr' : r' = r + min 100 (p' - r)) (hm : m' < m) : pot N p' r' s m' + 1 ≤ pot N p r s m := by
  unfold pot
  generalize (N - s + 30) / 31 = q
  have k1 : min (r' + 150 - s) 1 ≤ 1 := Nat.min_le_right _ _
  by_cases hb : p' - r ≤ 100
  · have k2 : min (p' - r') 1 = 0 := by omega
    have k3 : (N - p') / 50 ≤ (N - p) / 50 := by omega
    omega
  · have k2 : min (p' - r') 1 ≤ 1 := Nat.min_le_right _ _
    have k3 : (N - p') / 50 + 1 ≤ (N - p) / 50 := by omega
    omega
theorem live {T : List UInt8} {C : Nat → Bool} {p r s a e s1 p' r' : Nat} (h : TI T C p r s) (hS : Sent T.length p r s 31 a e s1) (h' : TI T (cNew C a e) p' r s1) (hpp : p ≤ p') (hr : r' = r + min 100 (p' - r)) (h50 : p - r ≤ 50) (hno : ¬ (a = e ∧ r = T.length)) :
    pot T.length p' r' s1 (cnt (cNew C a e) s1) + 1 ≤ pot T.length p r s (cnt C s) := by
  have h1 := h.rp; have h2 := h.ps; have h3 := h.sT; have h4 := h.w; have h5 := h.room
  have g1 := h'.rp; have g2 := h'.ps; have g3 := h'.sT; have g4 := h'.w; have g5 := h'.room
  rcases hS with ⟨rfl, rfl, hlt, hn⟩ | ⟨rfl, rfl, hz, hpe, hes, hlt⟩
  · have hm : cnt (cNew C a e) e ≤ cnt C a := by
      have := cnt_add (C := cNew C a e) (s := a) (e - a) (fun j j1 j2 => cNew_is.2 (Or.inr ⟨j1, by omega⟩))
      rw [show a + (e - a) = e by omega] at this
      rw [this]
      exact cnt_mono a (fun j _ hj => cNew_is.2 (Or.inl hj))
    rcases Nat.lt_or_ge p a with hg | hg
    · have hp' : p' = p := by
        rcases Nat.lt_or_ge p p' with q | q
        · have := h'.lo p q
          rcases cNew_is.1 this with q2 | q2
          · rw [h.at_] at q2; cases q2
          · omega
        · omega
      subst hp'
      exact ar_gap h3 hg h1 h50 h4 hlt hn hr hm
    · have hp' : p' = e := by
        rcases Nat.lt_or_ge p' e with q | q
        · have := h'.at_
          rw [cNew_is.2 (Or.inr ⟨by omega, q⟩)] at this
          cases this
        · omega
      subst hp'
      obtain rfl : p = a := by omega
      exact ar_no h3 h1 h50 g4 g3 hlt hn hr hm
  · rcases Nat.lt_or_ge a s1 with hg | hg
    · have he := hlt hg
      have hp' : a < p' := by
        rcases Nat.eq_or_lt_of_le hpp with q | q
        · have := h'.at_
          rw [← q, cNew_is.2 (Or.inr ⟨Nat.le_refl _, he⟩)] at this
          cases this
        · exact q
      have hm := cnt_lt (C := C) (C' := cNew C a e) h.at_ (cNew_is.2 (Or.inr ⟨Nat.le_refl _, he⟩)) s1 (fun j _ hj => cNew_is.2 (Or.inl hj)) hg
      exact ar_hole h3 h1 h50 h4 hp' g2 hr hm
    · have e1 : a = e := by omega
      have e2 : r ≠ T.length := fun q => hno ⟨e1, q⟩
      have hm := cnt_mono (C := C) (C' := cNew C a e) s1 (fun j _ hj => cNew_is.2 (Or.inl hj))
      obtain rfl : a = s1 := by omega
      obtain rfl : p' = a := by omega
      obtain rfl : r' = p' := by omega
      have e3 : T.length = r' := by omega
      have e4 : r < r' := by omega
      unfold pot
      rw [e3]
      have k1 : min (r + 150 - r') 1 = 1 := by omega
      have k2 : min (r' + 150 - r') 1 = 1 := by omega
      have k3 : min (r' - r') 1 = 0 := by omega
      have k4 : min (r' - r) 1 = 1 := by omega
      rw [k1, k2, k3, k4]
      omega
theorem after50 {T : List UInt8} {C : Nat → Bool} {p' r r' s1 : Nat} (h' : TI T C p' r s1) (hr : r' = r + min 100 (p' - r)) : p' - r' ≤ 50 := by
  have g2 := h'.ps; have g4 := h'.w
  omega
end Go.Proofs.Ytkclookpdngkoaa
