/- The document's side: plain facts. -/
import Derived.Test.YtadmpdeegnppjaaGreatDoorPa
namespace Go.Proofs.YtadmpdeegnppjaaGreatDoor
open Go.WideAt Go.WideShapes
set_option maxRecDepth 100000
set_option linter.unusedVariables false
set_option linter.unusedSimpArgs false

def dig (b : UInt8) : Bool := decide (48 ≤ b.toNat) && decide (b.toNat ≤ 57)
theorem dig_iff {b : UInt8} : dig b = true ↔ 48 ≤ b.toNat ∧ b.toNat ≤ 57 := by simp [dig]
def dstep (a : Nat) (b : UInt8) : Nat := a * 10 + (b.toNat - 48)
def dval (a : Nat) (s : By) : Nat := s.foldl dstep a
theorem dval_app (s : By) (a : Nat) (b : UInt8) : dval a (s ++ [b]) = dval a s * 10 + (b.toNat - 48) := by
  unfold dval
  rw [List.foldl_append, List.foldl_cons, List.foldl_nil]
  generalize List.foldl dstep a s = x
  unfold dstep
  exact Eq.refl _
theorem dval_cons (a : Nat) (b : UInt8) (r : By) : dval a (b :: r) = dval (dstep a b) r := by
  unfold dval
  rw [List.foldl_cons]
theorem dval_nil (a : Nat) : dval a [] = a := rfl
theorem dval_lt : ∀ (u : By) (a : Nat), u.all dig = true → dval a u < (a + 1) * 10 ^ u.length
  | [], a, _ => by
    rw [dval_nil, List.length_nil, Nat.pow_zero]
    omega
  | b :: r, a, h => by
    simp only [List.all_cons, Bool.and_eq_true] at h
    have hb := dig_iff.1 h.1
    have := dval_lt r (a * 10 + (b.toNat - 48)) h.2
    rw [dval_cons, List.length_cons, Nat.pow_succ]
    unfold dstep
    refine Nat.lt_of_lt_of_le this ?_
    rw [show (a + 1) * (10 ^ r.length * 10) = ((a + 1) * 10) * 10 ^ r.length by rw [Nat.mul_comm (10 ^ r.length) 10, Nat.mul_assoc]]
    have hle : a * 10 + (b.toNat - 48) + 1 ≤ (a + 1) * 10 := by omega
    exact Nat.mul_le_mul_right _ hle
structure Canon (u : By) : Prop where
  ne : u ≠ []
  len : u.length ≤ 9
  head : 1 < u.length → u.head? ≠ some 48
  all : u.all dig = true
theorem canon_dec : ∀ (n : Nat) (u : By), u.length = n → u ≠ [] → (1 < u.length → u.head? ≠ some 48) → u.all dig = true → Go.Lib.decDigits (dval 0 u) = u := by
  intro n
  induction n with
  | zero => intro u hl h0; exact absurd (List.length_eq_zero_iff.1 hl) h0
  | succ n ih =>
    intro u hl h0 h1 h2
    obtain ⟨a, b, rfl⟩ : ∃ a b, u = a ++ [b] := ⟨u.dropLast, u.getLast h0, (List.dropLast_concat_getLast h0).symm⟩
    rw [List.all_append] at h2
    simp only [Bool.and_eq_true, List.all_cons, List.all_nil, and_true] at h2
    have hb := dig_iff.1 h2.2
    have eb : UInt8.ofNat (48 + (b.toNat - 48)) = b := by rw [show 48 + (b.toNat - 48) = b.toNat by omega]; exact UInt8.ofNat_toNat
    rw [dval_app]
    cases a with
    | nil =>
      rw [dval_nil, Go.Lib.decDigits_one (by omega), show 48 + (0 * 10 + (b.toNat - 48)) = 48 + (b.toNat - 48) by omega, eb]
      rfl
    | cons x r =>
      have hx : x ≠ 48 := by
        have := h1 (by simp)
        simpa using this
      have ia := ih (x :: r) (by simpa using hl) (by simp) (fun _ => by simpa using hx) h2.1
      have hp : 0 < dval 0 (x :: r) := by
        rcases Nat.eq_zero_or_pos (dval 0 (x :: r)) with h | h
        · rw [h, Go.Lib.decDigits_one (by decide)] at ia
          injection ia with e
          exact absurd e.symm hx
        · exact h
      rw [Go.Lib.decDigits, dif_neg (by omega), show (dval 0 (x :: r) * 10 + (b.toNat - 48)) / 10 = dval 0 (x :: r) by omega, show (dval 0 (x :: r) * 10 + (b.toNat - 48)) % 10 = b.toNat - 48 by omega, ia, eb]
theorem Canon.dec {u : By} (h : Canon u) : Go.Lib.decDigits (dval 0 u) = u := canon_dec _ u rfl h.ne h.head h.all
theorem Canon.lt {u : By} (h : Canon u) : dval 0 u < 1000000000 := by
  have h1 := dval_lt u 0 h.all
  have h2 : 10 ^ u.length ≤ 10 ^ 9 := Nat.pow_le_pow_right (by decide) h.len
  omega
theorem dec_len {n : Nat} (h : n < 1000000000) : (Go.Lib.decDigits n).length ≤ 9 := by
  rw [Go.Lib.decDigits_length]
  have e1 : ∀ a : Nat, a < 10 → Go.Lib.nDigits a ≤ 1 := fun a ha => by rw [Go.Lib.nDigits_small ha]; omega
  have e2 : ∀ a n : Nat, Go.Lib.nDigits (a / 10) ≤ n → 1 ≤ n + 1 → Go.Lib.nDigits a ≤ n + 1 := fun a n h _ => by
    by_cases ha : a < 10
    · rw [Go.Lib.nDigits_small ha]; omega
    · rw [Go.Lib.nDigits_big ha]; omega
  exact e2 _ 8 (e2 _ 7 (e2 _ 6 (e2 _ 5 (e2 _ 4 (e2 _ 3 (e2 _ 2 (e2 _ 1 (e1 _ (by omega)) (by omega)) (by omega)) (by omega)) (by omega)) (by omega)) (by omega)) (by omega)) (by omega)
theorem dec_head : ∀ n : Nat, 10 ≤ n → ∃ x r, Go.Lib.decDigits n = x :: r ∧ x ≠ 48 := by
  intro n
  induction n using Nat.strongRecOn with
  | _ n ih =>
    intro h
    rw [Go.Lib.decDigits, dif_neg (by omega)]
    by_cases h1 : n / 10 < 10
    · rw [Go.Lib.decDigits_one h1]
      refine ⟨_, _, rfl, fun e => ?_⟩
      have := congrArg UInt8.toNat e
      rw [UInt8.toNat_ofNat'] at this
      simp at this
      omega
    · obtain ⟨x, r, e, hx⟩ := ih (n / 10) (by omega) (by omega)
      rw [e]
      exact ⟨x, _, rfl, hx⟩
theorem dec_canon {n : Nat} (h : n < 1000000000) : Canon (Go.Lib.decDigits n) := by
  refine ⟨dec_ne n, dec_len h, fun hl => ?_, List.all_eq_true.2 fun b hb => dig_iff.2 (dec_digit n b hb)⟩
  by_cases h1 : n < 10
  · rw [Go.Lib.decDigits_one h1] at hl; simp at hl
  · obtain ⟨x, r, e, hx⟩ := dec_head n (by omega)
    rw [e]
    simpa using hx
theorem num_pos {u : By} (h : Canon u) : numF u = some (dval 0 u : Int) := by
  have hl := h.lt
  have := num_of (v := (dval 0 u : Int)) (by omega) (by omega)
  rw [Go.Lib.itoa_nonneg, h.dec] at this
  exact this
theorem num_neg {u : By} (h : Canon u) (h0 : dval 0 u ≠ 0) : numF (45 :: u) = some (-(dval 0 u : Int)) := by
  have hl := h.lt
  have := num_of (v := -(dval 0 u : Int)) (by omega) (by omega)
  unfold Go.Lib.itoa at this
  rw [if_pos (by omega), show (-(dval 0 u : Int)).natAbs = dval 0 u by omega, h.dec] at this
  exact this
theorem num_some {s : By} {v : Int} (h : numF s = some v) : (v < 0 ∧ ∃ u, s = 45 :: u ∧ Canon u ∧ Go.Lib.decDigits v.natAbs = u) ∨ (0 ≤ v ∧ Canon s ∧ s.head? ≠ some 45) := by
  obtain ⟨h0, h1, h2⟩ := num_is h
  unfold Go.Lib.itoa at h2
  split at h2
  · rename_i hv
    exact Or.inl ⟨hv, _, h2.symm, dec_canon (by omega), rfl⟩
  · refine Or.inr ⟨by omega, by rw [← h2]; exact dec_canon (by omega), fun e => ?_⟩
    rw [← h2] at e
    have := List.mem_of_mem_head? (by rw [e]; rfl)
    have := dec_digit _ _ this
    simp at this
theorem canon_45 {u : By} (h : Canon (45 :: u)) : False := by
  have := h.all
  simp only [List.all_cons, Bool.and_eq_true] at this
  have := dig_iff.1 this.1
  simp at this
theorem num_nopos {s : By} (h : ¬ Canon s) (h0 : s.head? ≠ some 45) : numF s = none := by
  cases hn : numF s with
  | none => rfl
  | some v =>
    rcases num_some hn with ⟨-, u, rfl, -⟩ | ⟨-, hc, -⟩
    · exact absurd rfl h0
    · exact absurd hc h
theorem num_noneg {u : By} (h : ¬ Canon u) : numF (45 :: u) = none := by
  cases hn : numF (45 :: u) with
  | none => rfl
  | some v =>
    rcases num_some hn with ⟨-, u', e, hc, -⟩ | ⟨-, hc, -⟩
    · cases e; exact absurd hc h
    · exact (canon_45 hc).elim
theorem num_zero {u : By} (h : Canon u) (h0 : dval 0 u = 0) : numF (45 :: u) = none := by
  cases hn : numF (45 :: u) with
  | none => rfl
  | some v =>
    rcases num_some hn with ⟨hv, u', e, hc, he⟩ | ⟨-, hc, -⟩
    · cases e
      have h1 := h.dec
      rw [h0, Go.Lib.decDigits_one (by decide)] at h1
      by_cases h2 : v.natAbs < 10
      · rw [Go.Lib.decDigits_one h2, ← h1] at he
        injection he with he
        have := congrArg UInt8.toNat he
        rw [UInt8.toNat_ofNat', UInt8.toNat_ofNat'] at this
        omega
      · obtain ⟨x, r, e, hx⟩ := dec_head _ (by omega : 10 ≤ v.natAbs)
        rw [e, ← h1] at he
        injection he with he
        exact absurd he hx
    · exact (canon_45 hc).elim
/-! A map's places. -/
theorem mput_set : ∀ (m : Mp) (i : Nat) (k x t : By), Rise m → m[i]? = some (k, x) → mput m (k, t) = m.set i (k, t)
  | [], i, k, x, t, _, h => by simp at h
  | y :: r, 0, k, x, t, hr, h => by
    obtain rfl : y = (k, x) := by simpa using h
    have hy := List.pairwise_cons.1 hr
    have hn : mget r k = none := mget_none.2 fun z hz e => by have := hy.1 z hz; rw [e] at this; exact absurd rfl (bb_ne this)
    have hd : mdel ((k, x) :: r) k = r := by
      have := mdel_of_none hn
      unfold mdel at this ⊢
      rw [List.filter_cons, if_neg (by simp), this]
    unfold mput
    rw [hd]
    cases r with
    | nil => rfl
    | cons z r' =>
      show mins (k, t) (z :: r') = _
      unfold mins
      rw [if_pos (hy.1 z (List.mem_cons_self ..))]
      rfl
  | y :: r, i + 1, k, x, t, hr, h => by
    have hy := List.pairwise_cons.1 hr
    have h' : r[i]? = some (k, x) := by simpa using h
    have hb := hy.1 (k, x) (List.mem_of_getElem? h')
    have hd : mdel (y :: r) k = y :: mdel r k := by
      unfold mdel
      rw [List.filter_cons, if_pos (by simpa using bb_ne hb)]
    have ih := mput_set r i k x t hy.2 h'
    unfold mput at ih ⊢
    rw [hd]
    show mins (k, t) (y :: mdel r k) = _
    unfold mins
    rw [if_neg (fun q => by have := bb_trans hb q; rw [bb_irrefl] at this; cases this)]
    rw [ih]
    rfl
theorem mins_at : ∀ (m : Mp) (i : Nat) (k t : By), (∀ j y, j < i → m[j]? = some y → ¬ bytesBefore k y.1 = true) → (∀ y, m[i]? = some y → bytesBefore k y.1 = true) → i ≤ m.length → mins (k, t) m = m.take i ++ (k, t) :: m.drop i
  | [], i, k, t, _, _, h => by
    obtain rfl : i = 0 := by simpa using h
    rfl
  | y :: r, 0, k, t, _, h2, _ => by
    unfold mins
    rw [if_pos (h2 y rfl)]
    rfl
  | y :: r, i + 1, k, t, h1, h2, h3 => by
    unfold mins
    rw [if_neg (h1 0 y (Nat.zero_lt_succ _) rfl), mins_at r i k t (fun j z hj hz => h1 (j + 1) z (Nat.succ_lt_succ hj) (by simpa using hz)) (fun z hz => h2 z (by simpa using hz)) (by simpa using h3)]
    rfl
theorem mput_at {m : Mp} {i : Nat} {k t : By} (hn : mget m k = none) (h1 : ∀ j y, j < i → m[j]? = some y → bytesBefore y.1 k = true) (h2 : ∀ y, m[i]? = some y → ¬ bytesBefore y.1 k = true) (h3 : i ≤ m.length) : mput m (k, t) = m.take i ++ (k, t) :: m.drop i := by
  unfold mput
  rw [mdel_of_none hn]
  refine mins_at m i k t (fun j y hj hy q => ?_) (fun y hy => ?_) h3
  · have := bb_trans (h1 j y hj hy) q
    rw [bb_irrefl] at this
    cases this
  · rcases bytes_total y.1 k (mget_none.1 hn y (List.mem_of_getElem? hy)) with h | h
    · exact absurd h (h2 y hy)
    · exact h
theorem mdel_at : ∀ (m : Mp) (i : Nat) (k x : By), Rise m → m[i]? = some (k, x) → mdel m k = m.take i ++ m.drop (i + 1)
  | [], i, k, x, _, h => by simp at h
  | y :: r, 0, k, x, hr, h => by
    obtain rfl : y = (k, x) := by simpa using h
    have hy := List.pairwise_cons.1 hr
    have hn : mget r k = none := mget_none.2 fun z hz e => by have := hy.1 z hz; rw [e] at this; exact absurd rfl (bb_ne this)
    have := mdel_of_none hn
    unfold mdel at this ⊢
    rw [List.filter_cons, if_neg (by simp), this]
    rfl
  | y :: r, i + 1, k, x, hr, h => by
    have hy := List.pairwise_cons.1 hr
    have h' : r[i]? = some (k, x) := by simpa using h
    have hb := hy.1 (k, x) (List.mem_of_getElem? h')
    have ih := mdel_at r i k x hy.2 h'
    unfold mdel at ih ⊢
    rw [List.filter_cons, if_pos (by simpa using bb_ne hb), ih]
    rfl
/-! A line, as the document's side reads it. -/
theorem okN_32 {s : By} (h : ∃ b ∈ s, b = 32) : okName s = false := by
  obtain ⟨b, hb, rfl⟩ := h
  unfold okName
  have : s.all okByte = false := List.all_eq_false.2 ⟨32, hb, by decide⟩
  rw [this]
  simp
theorem cut_with {c : UInt8} : ∀ {s : By}, (cutC c s).2.2 = true → ∃ b ∈ s, b = c := by
  intro s h
  have := (cut_short c s h).2
  exact ⟨c, by rw [this]; simp, rfl⟩
def lineR (m : Mp) (c d : By × By × Bool) : By × Mp × Bool :=
  if c.2.2 = false ∨ okName d.1 = false then (bBAD, m, false)
  else if d.2.2 = false ∧ c.1 = cGET then (getF m d.1, m, false)
  else if d.2.2 = false ∧ c.1 = cDEL then ((dropF m d.1).1, (dropF m d.1).2, false)
  else if d.2.2 = true ∧ c.1 = cPUT then ((keepF m d.1 d.2.1 bOK).1, (keepF m d.1 d.2.1 bOK).2, false)
  else if d.2.2 = true ∧ c.1 = cADD then ((addF m d.1 d.2.1).1, (addF m d.1 d.2.1).2, false)
  else if d.2.2 = true ∧ c.1 = cAPP then ((growF m d.1 d.2.1).1, (growF m d.1 d.2.1).2, false)
  else (bBAD, m, false)
theorem ans_line (m : Mp) (line : By) (h1 : line ≠ cLIST) (h2 : line ≠ cCOUNT) (h3 : line ≠ cQUIT) : ansF m line = lineR m (cutC 32 line) (cutC 32 (cutC 32 line).2.1) := by
  have hne : (cutC 32 line).2.2 = false → (cutC 32 line).1 = line ∧ (cutC 32 line).2.1 = [] := fun h => ⟨(cut_none 32 line h).1, (cut_none 32 line h).2.1⟩
  have hd0 : (cutC 32 (cutC 32 line).2.1).2.2 = false → (cutC 32 (cutC 32 line).2.1).1 = (cutC 32 line).2.1 := fun h => (cut_none 32 _ h).1
  have hd1 : (cutC 32 (cutC 32 line).2.1).2.2 = true → okName (cutC 32 line).2.1 = false := fun h => okN_32 (cut_with h)
  unfold ansF readF lineR
  simp only
  generalize hc : cutC 32 line = c at hne hd0 hd1 ⊢
  generalize hd : cutC 32 c.2.1 = d at hd0 hd1 ⊢
  obtain ⟨a, r, f⟩ := c
  obtain ⟨k, t, g⟩ := d
  simp only at hne hd0 hd1 hd ⊢
  have hf : f = false → g = false ∧ k = [] := fun h => by
    obtain ⟨-, e⟩ := hne h
    subst e
    have e2 : (([], [], false) : By × By × Bool) = (k, t, g) := hd
    injection e2 with e3 e4
    injection e4 with e4 e5
    exact ⟨e5.symm, e3.symm⟩
  by_cases v1 : a = cPUT ∨ a = cAPP ∨ a = cADD
  · rw [if_pos v1]
    by_cases hk : okName k = true
    · cases g
      · have hx : f = false ∨ okName k = false ∨ true = true := Or.inr (Or.inr rfl)
        rw [if_neg (by simp)]
        simp only
        split
        · rfl
        · rw [if_neg (by rcases v1 with h | h | h <;> subst h <;> decide), if_neg (by rcases v1 with h | h | h <;> subst h <;> decide)]
          simp
      · have hf1 : ¬ (f = false ∨ okName k = false) := by
          rintro (h | h)
          · cases (hf h).1
          · rw [hk] at h; cases h
        rw [if_pos ⟨rfl, hk⟩, if_neg hf1]
        simp only
        rcases v1 with h | h | h <;> subst h <;> simp
    · have hk' : okName k = false := by simpa using hk
      rw [if_neg (by simp [hk']), if_pos (Or.inr hk')]
  · rw [if_neg v1]
    have n1 : a ≠ cPUT := fun e => v1 (Or.inl e)
    have n2 : a ≠ cAPP := fun e => v1 (Or.inr (Or.inl e))
    have n3 : a ≠ cADD := fun e => v1 (Or.inr (Or.inr e))
    by_cases v2 : a = cGET ∨ a = cDEL
    · rw [if_pos v2]
      cases g
      · have hkr := hd0 rfl
        rw [← hkr]
        by_cases hk : okName k = true
        · have hf1 : ¬ (f = false ∨ okName k = false) := by
            rintro (h | h)
            · have := (hf h).2; subst this; cases hk
            · rw [hk] at h; cases h
          rw [if_pos hk, if_neg hf1]
          simp only
          rcases v2 with h | h <;> subst h <;> simp
        · have hk' : okName k = false := by simpa using hk
          rw [if_neg hk, if_pos (Or.inr hk')]
      · rw [if_neg (by rw [hd1 rfl]; simp)]
        simp only
        split
        · rfl
        · simp [n1, n2, n3]
    · rw [if_neg v2]
      have n4 : a ≠ cGET := fun e => v2 (Or.inl e)
      have n5 : a ≠ cDEL := fun e => v2 (Or.inr e)
      have hR : (if f = false ∨ okName k = false then (bBAD, m, false) else if g = false ∧ a = cGET then (getF m k, m, false) else if g = false ∧ a = cDEL then ((dropF m k).1, (dropF m k).2, false) else if g = true ∧ a = cPUT then ((keepF m k t bOK).1, (keepF m k t bOK).2, false) else if g = true ∧ a = cADD then ((addF m k t).1, (addF m k t).2, false) else if g = true ∧ a = cAPP then ((growF m k t).1, (growF m k t).2, false) else (bBAD, m, false)) = ((bBAD, m, false) : By × Mp × Bool) := by
        split
        · rfl
        rw [if_neg (fun q => n4 q.2), if_neg (fun q => n5 q.2), if_neg (fun q => n1 q.2), if_neg (fun q => n3 q.2), if_neg (fun q => n2 q.2)]
      rw [hR]
      by_cases v3 : a = cLIST ∨ a = cCOUNT ∨ a = cQUIT
      · rw [if_pos v3]
        cases f
        · have := (hne rfl).1
          subst this
          rcases v3 with h | h | h
          · exact absurd h h1
          · exact absurd h h2
          · exact absurd h h3
        · rfl
      · rw [if_neg v3]
end Go.Proofs.YtadmpdeegnppjaaGreatDoor
