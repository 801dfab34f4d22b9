/- What a session is asked and answers, in plain words. -/
import Derived.Lib.ItoaNum
import Derived.Lib.ItoaMem
import Derived.Lib.AtoiAll
import Derived.Lib.IndexMore
import Derived.Lib.IndexBytes
import Derived.WideAt
import Derived.WideShapes
namespace Go.Proofs.YtadmpdeegnppjaaGreatDoor
open Go.WideAt Go.WideShapes
set_option maxRecDepth 100000
set_option linter.unusedVariables false
set_option linter.unusedSimpArgs false

abbrev By := List UInt8
/-- A text at the first sign c: what stands ahead of it, what behind it, whether it is there. -/
def cutC (c : UInt8) : By → By × By × Bool
  | [] => ([], [], false)
  | b :: r => if b = c then ([], r, true) else (b :: (cutC c r).1, (cutC c r).2.1, (cutC c r).2.2)
theorem cut_one (c : UInt8) : ∀ s : By, Go.Lib.cut s [c] = cutC c s := by
  intro s
  have key : ∀ s : By, (Go.Lib.indexByte s c = -1 ∧ (cutC c s) = (s, [], false)) ∨ (∃ i : Nat, Go.Lib.indexByte s c = i ∧ cutC c s = (s.take i, s.drop (i + 1), true)) := by
    intro s
    induction s with
    | nil => left; exact ⟨by simp [Go.Lib.indexByte], rfl⟩
    | cons b r ih =>
      by_cases h : b = c
      · right
        refine ⟨0, ?_, ?_⟩
        · simp [Go.Lib.indexByte, h]
        · simp [cutC, h]
      · rcases ih with ⟨h1, h2⟩ | ⟨i, h1, h2⟩
        · left
          refine ⟨?_, ?_⟩
          · simp [Go.Lib.indexByte, h, h1]
          · simp [cutC, h, h2]
        · right
          refine ⟨i + 1, ?_, ?_⟩
          · simp [Go.Lib.indexByte, h, h1]
          · simp [cutC, h, h2]
  unfold Go.Lib.cut
  rw [Go.Lib.index_one]
  rcases key s with ⟨h1, h2⟩ | ⟨i, h1, h2⟩
  · rw [h1, h2]; rfl
  · rw [h1, h2, if_pos (by omega)]
    simp
theorem cut_len (c : UInt8) : ∀ s : By, (cutC c s).1.length ≤ s.length ∧ (cutC c s).2.1.length ≤ s.length
  | [] => by simp [cutC]
  | b :: r => by
    have := cut_len c r
    unfold cutC
    split
    · simp
    · simp; omega
theorem cut_short (c : UInt8) : ∀ s : By, (cutC c s).2.2 = true → (cutC c s).2.1.length < s.length ∧ s = (cutC c s).1 ++ c :: (cutC c s).2.1
  | [] => by simp [cutC]
  | b :: r => by
    have := cut_short c r
    unfold cutC
    split
    · rename_i h; simp [h]
    · intro h
      obtain ⟨h1, h2⟩ := this h
      refine ⟨by simp; omega, ?_⟩
      simp only [List.cons_append]
      rw [← h2]
theorem cut_none (c : UInt8) : ∀ s : By, (cutC c s).2.2 = false → (cutC c s).1 = s ∧ (cutC c s).2.1 = [] ∧ ∀ b ∈ s, b ≠ c
  | [] => by simp [cutC]
  | b :: r => by
    have := cut_none c r
    unfold cutC
    split
    · simp
    · rename_i hb
      intro h
      obtain ⟨h1, h2, h3⟩ := this h
      simp [h1, h2]
      exact ⟨hb, h3⟩
theorem cut_head (c : UInt8) : ∀ s : By, ∀ b ∈ (cutC c s).1, b ≠ c
  | [] => by simp [cutC]
  | b :: r => by
    have := cut_head c r
    unfold cutC
    split
    · simp
    · rename_i hb
      simp
      exact ⟨hb, this⟩
/-- A text without the sign, the sign, and whatever stands behind it. -/
theorem cut_of (c : UInt8) : ∀ (a r : By), (∀ b ∈ a, b ≠ c) → cutC c (a ++ c :: r) = (a, r, true)
  | [], r, _ => by simp [cutC]
  | b :: a, r, h => by
    have hb : b ≠ c := h b (List.mem_cons_self ..)
    have := cut_of c a r (fun x hx => h x (List.mem_cons_of_mem _ hx))
    simp [cutC, hb, this]
theorem cut_no (c : UInt8) : ∀ (a : By), (∀ b ∈ a, b ≠ c) → cutC c a = (a, [], false)
  | [], _ => rfl
  | b :: a, h => by
    have hb : b ≠ c := h b (List.mem_cons_self ..)
    have := cut_no c a (fun x hx => h x (List.mem_cons_of_mem _ hx))
    simp [cutC, hb, this]

/-! A map from texts to texts, as a rising list. -/
abbrev Mp := List (By × By)
def mget (m : Mp) (k : By) : Option By := (m.find? (fun e => e.1 == k)).map (·.2)
def mins (e : By × By) : Mp → Mp
  | [] => [e]
  | y :: r => if bytesBefore e.1 y.1 = true then e :: y :: r else y :: mins e r
def mdel (m : Mp) (k : By) : Mp := m.filter fun x => x.1 != k
def mput (m : Mp) (e : By × By) : Mp := mins e (mdel m e.1)
def Rise (m : Mp) : Prop := m.Pairwise (fun x y => bytesBefore x.1 y.1 = true)
theorem mem_mins {e x : By × By} : ∀ {l : Mp}, x ∈ mins e l ↔ x = e ∨ x ∈ l
  | [] => by simp [mins]
  | y :: r => by
    unfold mins
    split
    · simp
    · simp only [List.mem_cons, mem_mins (l := r)]
      constructor
      · rintro (h | h | h) <;> simp [h]
      · rintro (h | h | h) <;> simp [h]
theorem len_mins (e : By × By) : ∀ l : Mp, (mins e l).length = l.length + 1
  | [] => rfl
  | y :: r => by
    unfold mins
    split
    · simp
    · simp [len_mins e r]
theorem bb_irrefl (a : By) : bytesBefore a a = false := bytes_irrefl a
theorem bb_trans {a b c : By} (h : bytesBefore a b = true) (k : bytesBefore b c = true) : bytesBefore a c = true := bytes_trans a b c h k
theorem bb_ne {a b : By} (h : bytesBefore a b = true) : a ≠ b := by
  intro e
  subst e
  rw [bb_irrefl] at h
  cases h
theorem mins_rise {e : By × By} : ∀ {l : Mp}, Rise l → (∀ x ∈ l, x.1 ≠ e.1) → Rise (mins e l)
  | [], _, _ => List.pairwise_singleton _ _
  | y :: r, h, hn => by
    have hy := List.pairwise_cons.1 h
    unfold mins
    split
    · rename_i hb
      exact List.pairwise_cons.2 ⟨fun x hx => by
        rcases List.mem_cons.1 hx with rfl | hx
        · exact hb
        · exact bb_trans hb (hy.1 x hx), h⟩
    · rename_i hb
      refine List.pairwise_cons.2 ⟨fun x hx => ?_, mins_rise hy.2 (fun x hx => hn x (List.mem_cons_of_mem _ hx))⟩
      rcases mem_mins.1 hx with rfl | hx
      · rcases bytes_total y.1 x.1 (hn y (List.mem_cons_self ..)) with h1 | h1
        · exact h1
        · exact absurd h1 hb
      · exact hy.1 x hx
theorem mdel_rise {l : Mp} (h : Rise l) (k : By) : Rise (mdel l k) := List.Pairwise.filter _ h
theorem mput_rise {l : Mp} (h : Rise l) (e : By × By) : Rise (mput l e) := mins_rise (mdel_rise h _) (fun x hx => by simpa using (List.mem_filter.1 hx).2)
theorem mget_mem {l : Mp} {k v : By} (h : mget l k = some v) : (k, v) ∈ l := by
  unfold mget at h
  cases hf : l.find? (fun e => e.1 == k) with
  | none => rw [hf] at h; cases h
  | some e =>
    rw [hf] at h
    have h1 := List.find?_some hf
    have h2 := List.mem_of_find?_eq_some hf
    simp at h1 h
    subst h1 h
    exact h2
theorem muniq {l : Mp} (h : Rise l) {e e' : By × By} (he : e ∈ l) (he' : e' ∈ l) (hk : e.1 = e'.1) : e = e' := by
  induction l with
  | nil => cases he
  | cons y r ih =>
    have hy := List.pairwise_cons.1 h
    rcases List.mem_cons.1 he with h1 | h1
    · rcases List.mem_cons.1 he' with h2 | h2
      · rw [h1, h2]
      · have := hy.1 _ h2; rw [h1] at hk; exact absurd hk (bb_ne this)
    · rcases List.mem_cons.1 he' with h2 | h2
      · have := hy.1 _ h1; rw [h2] at hk; exact absurd hk.symm (bb_ne this)
      · exact ih hy.2 h1 h2
theorem mget_of {l : Mp} (hr : Rise l) {k v : By} (h : (k, v) ∈ l) : mget l k = some v := by
  unfold mget
  cases hf : l.find? (fun e => e.1 == k) with
  | none =>
    rw [List.find?_eq_none] at hf
    have := hf _ h
    simp at this
  | some e =>
    have h1 := List.find?_some hf
    have h2 := List.mem_of_find?_eq_some hf
    simp at h1
    have := muniq hr h2 h h1
    subst this
    rfl
theorem mget_put {l : Mp} {k x v : By} (hl : Rise l) : mget (mput l (k, v)) x = if x = k then some v else mget l x := by
  have hr := mput_rise hl (k, v)
  by_cases hx : x = k
  · rw [if_pos hx, hx]
    exact mget_of hr (mem_mins.2 (Or.inl rfl))
  · rw [if_neg hx]
    cases hq : mget l x with
    | some c => exact mget_of hr (mem_mins.2 (Or.inr (List.mem_filter.2 ⟨mget_mem hq, by simpa using hx⟩)))
    | none =>
      cases hq2 : mget (mput l (k, v)) x with
      | none => rfl
      | some c =>
        rcases mem_mins.1 (mget_mem hq2) with h | h
        · exact absurd (congrArg Prod.fst h) hx
        · rw [mget_of hl (List.mem_filter.1 h).1] at hq
          cases hq
theorem mget_none {l : Mp} {k : By} : mget l k = none ↔ ∀ x ∈ l, x.1 ≠ k := by
  unfold mget
  rw [Option.map_eq_none_iff, List.find?_eq_none]
  simp
theorem mdel_of_none {l : Mp} {k : By} (h : mget l k = none) : mdel l k = l := by
  rw [mget_none] at h
  unfold mdel
  rw [List.filter_eq_self]
  intro x hx
  simpa using h x hx
theorem mdel_len {l : Mp} (hl : Rise l) {k v : By} (h : mget l k = some v) : (mdel l k).length + 1 = l.length := by
  induction l with
  | nil => cases h
  | cons y r ih =>
    have hy := List.pairwise_cons.1 hl
    by_cases hk : y.1 = k
    · have : mget r k = none := mget_none.2 (fun x hx e => by have := hy.1 x hx; rw [hk, ← e] at this; exact absurd rfl (bb_ne this))
      have h2 := mdel_of_none this
      unfold mdel at h2 ⊢
      rw [List.filter_cons, if_neg (by simpa using hk), h2]
      rfl
    · have h3 : mget r k = some v := by
        unfold mget at h ⊢
        rw [List.find?_cons] at h
        have : (y.1 == k) = false := by simpa using hk
        rw [this] at h
        exact h
      have := ih hy.2 h3
      unfold mdel at this ⊢
      rw [List.filter_cons, if_pos (by simpa using hk)]
      simp only [List.length_cons]
      omega
theorem mput_len {l : Mp} (hl : Rise l) (k v : By) : (mput l (k, v)).length = if mget l k = none then l.length + 1 else l.length := by
  unfold mput
  rw [len_mins]
  cases h : mget l k with
  | none => rw [mdel_of_none h]; rfl
  | some c => rw [mdel_len hl h]; rfl
theorem mem_mput {l : Mp} {e x : By × By} (h : x ∈ mput l e) : x = e ∨ x ∈ l := by
  rcases mem_mins.1 h with h | h
  · exact Or.inl h
  · exact Or.inr (List.mem_filter.1 h).1
theorem mget_del {l : Mp} (hl : Rise l) {k x : By} : mget (mdel l k) x = if x = k then none else mget l x := by
  by_cases hx : x = k
  · rw [if_pos hx, hx]
    exact mget_none.2 fun y hy => by simpa using (List.mem_filter.1 hy).2
  · rw [if_neg hx]
    cases hq : mget l x with
    | some c => exact mget_of (mdel_rise hl k) (List.mem_filter.2 ⟨mget_mem hq, by simpa using hx⟩)
    | none =>
      refine mget_none.2 fun y hy => ?_
      exact mget_none.1 hq y (List.mem_filter.1 hy).1

/-! Numbers as texts. -/
theorem parse_dec : ∀ (u : Nat) (r : By), u < 1000000000000000000 → Go.Lib.parseUint10 0 (Go.Lib.decDigits u ++ r) = Go.Lib.parseUint10 u r := by
  intro u
  induction u using Nat.strongRecOn with
  | _ u ih =>
    intro r hu
    have hd : ∀ d : Nat, d < 10 → (UInt8.ofNat (48 + d)).toNat = 48 + d := fun d hd => by rw [UInt8.toNat_ofNat']; omega
    by_cases h : u < 10
    · rw [Go.Lib.decDigits, dif_pos h]
      simp only [List.cons_append, List.nil_append]
      conv => lhs; unfold Go.Lib.parseUint10
      rw [hd u h, if_pos (by omega), if_neg (by omega), if_neg (by omega)]
      congr 1
      omega
    · rw [Go.Lib.decDigits, dif_neg h, List.append_assoc, ih (u / 10) (by omega) _ (by omega)]
      simp only [List.cons_append, List.nil_append]
      conv => lhs; unfold Go.Lib.parseUint10
      rw [hd (u % 10) (by omega), if_pos (by omega), if_neg (by omega), if_neg (by omega)]
      congr 1
      omega
theorem dec_ne (u : Nat) : Go.Lib.decDigits u ≠ [] := by
  intro h
  have := congrArg List.length h
  rw [Go.Lib.decDigits_length] at this
  have := Go.Lib.nDigits_pos u
  simp at *
  omega
theorem dec_digit : ∀ (u : Nat), ∀ b ∈ Go.Lib.decDigits u, 48 ≤ b.toNat ∧ b.toNat ≤ 57 := by
  intro u
  induction u using Nat.strongRecOn with
  | _ u ih =>
    have hd : ∀ d : Nat, d < 10 → (UInt8.ofNat (48 + d)).toNat = 48 + d := fun d hd => by rw [UInt8.toNat_ofNat']; omega
    by_cases h : u < 10
    · rw [Go.Lib.decDigits, dif_pos h]
      intro b hb
      rw [List.mem_singleton.1 hb, hd u h]
      omega
    · rw [Go.Lib.decDigits, dif_neg h]
      intro b hb
      rcases List.mem_append.1 hb with hb | hb
      · exact ih (u / 10) (by omega) b hb
      · rw [List.mem_singleton.1 hb, hd (u % 10) (by omega)]
        omega
theorem atoi_itoa {v : Int} (h0 : -1000000000000000000 < v) (h1 : v < 1000000000000000000) : Go.Lib.atoiAll (Go.Lib.itoa v) = .ok v := by
  have hp : ∀ u : Nat, u < 1000000000000000000 → Go.Lib.parseUint10 0 (Go.Lib.decDigits u) = .ok u := fun u hu => by
    have := parse_dec u [] hu
    rw [List.append_nil] at this
    rw [this]; rfl
  unfold Go.Lib.itoa
  by_cases hn : v < 0
  · rw [if_pos hn]
    have hm : Go.Lib.parseMag (Go.Lib.decDigits v.natAbs) = .ok v.natAbs := by
      unfold Go.Lib.parseMag
      rw [if_neg (dec_ne _), hp _ (by omega)]
    unfold Go.Lib.atoiAll
    simp only [show ((45 : UInt8).toNat = 45) from rfl, or_true, if_true, hm, not_true, false_and, true_and, if_false]
    rw [if_neg (by omega)]
    congr 1
    omega
  · rw [if_neg hn]
    have hm : Go.Lib.parseMag (Go.Lib.decDigits v.toNat) = .ok v.toNat := by
      unfold Go.Lib.parseMag
      rw [if_neg (dec_ne _), hp _ (by omega)]
    cases hc : Go.Lib.decDigits v.toNat with
    | nil => exact absurd hc (dec_ne _)
    | cons c r =>
      have hd := dec_digit v.toNat c (by rw [hc]; exact List.mem_cons_self ..)
      rw [hc] at hm
      unfold Go.Lib.atoiAll
      simp only
      rw [if_neg (by omega), hm]
      simp only
      have hc45 : ¬ c.toNat = 45 := by omega
      simp only [hc45, not_false_eq_true, true_and, false_and, if_false]
      rw [if_neg (by omega)]
      congr 1
      omega
def numF (s : By) : Option Int := match Go.Lib.atoiAll s with
  | .ok v => if -999999999 ≤ v ∧ v ≤ 999999999 ∧ Go.Lib.itoa v = s then some v else none
  | _ => none
theorem num_of {v : Int} (h0 : -999999999 ≤ v) (h1 : v ≤ 999999999) : numF (Go.Lib.itoa v) = some v := by
  unfold numF
  rw [atoi_itoa (by omega) (by omega)]
  simp only
  rw [if_pos ⟨h0, h1, trivial⟩]
theorem num_is {s : By} {v : Int} (h : numF s = some v) : -999999999 ≤ v ∧ v ≤ 999999999 ∧ Go.Lib.itoa v = s := by
  unfold numF at h
  cases ha : Go.Lib.atoiAll s with
  | ok u =>
    rw [ha] at h
    simp only at h
    split at h
    · rename_i hc
      cases h
      exact hc
    · cases h
  | «syntax» => rw [ha] at h; cases h
  | range => rw [ha] at h; cases h
theorem itoa_len {v : Int} (h0 : -1000000000 < v) (h1 : v < 1000000000) : (Go.Lib.itoa v).length ≤ 10 := by
  have hd : ∀ u : Nat, u < 1000000000 → (Go.Lib.decDigits u).length ≤ 9 := fun u hu => by
    rw [Go.Lib.decDigits_length]
    have e1 : ∀ a : Nat, a < 10 → Go.Lib.nDigits a ≤ 1 := fun a ha => by rw [Go.Lib.nDigits_small ha]; omega
    have e2 : ∀ a n : Nat, Go.Lib.nDigits (a / 10) ≤ n → 1 ≤ n + 1 → Go.Lib.nDigits a ≤ n + 1 := fun a n h _ => by
      by_cases ha : a < 10
      · rw [Go.Lib.nDigits_small ha]; omega
      · rw [Go.Lib.nDigits_big ha]; omega
    exact e2 _ 8 (e2 _ 7 (e2 _ 6 (e2 _ 5 (e2 _ 4 (e2 _ 3 (e2 _ 2 (e2 _ 1 (e1 _ (by omega)) (by omega)) (by omega)) (by omega)) (by omega)) (by omega)) (by omega)) (by omega)) (by omega)
  unfold Go.Lib.itoa
  split
  · have := hd v.natAbs (by omega)
    simp; omega
  · have := hd v.toNat (by omega)
    omega
theorem itoa_byte {v : Int} : ∀ b ∈ Go.Lib.itoa v, b = 45 ∨ (48 ≤ b.toNat ∧ b.toNat ≤ 57) := by
  intro b hb
  unfold Go.Lib.itoa at hb
  split at hb
  · rcases List.mem_cons.1 hb with h | h
    · exact Or.inl h
    · exact Or.inr (dec_digit _ b h)
  · exact Or.inr (dec_digit _ b hb)
abbrev cPUT : By := [80, 85, 84]
abbrev cGET : By := [71, 69, 84]
abbrev cDEL : By := [68, 69, 76]
abbrev cLIST : By := [76, 73, 83, 84]
abbrev cCOUNT : By := [67, 79, 85, 78, 84]
abbrev cADD : By := [65, 68, 68]
abbrev cAPP : By := [65, 80, 80]
abbrev cQUIT : By := [81, 85, 73, 84]
abbrev bBAD : By := [66, 65, 68]
abbrev bOK : By := [79, 75]
abbrev bFULL : By := [70, 85, 76, 76]
abbrev bNONE : By := [78, 79, 78, 69]
abbrev bBYE : By := [66, 89, 69]
abbrev bVALUE : By := [86, 65, 76, 85, 69, 32]
abbrev bCOUNT : By := [67, 79, 85, 78, 84, 32]
def okByte (b : UInt8) : Bool := decide (32 < b.toNat) && decide (b.toNat < 127)
def okName (s : By) : Bool := !s.isEmpty && (decide (s.length ≤ 32) && s.all okByte)
def readF (line : By) : Option (By × By × By) :=
  let c := cutC 32 line
  if c.1 = cPUT ∨ c.1 = cAPP ∨ c.1 = cADD then
    let d := cutC 32 c.2.1
    if d.2.2 = true ∧ okName d.1 = true then some (c.1, d.1, d.2.1) else none
  else if c.1 = cGET ∨ c.1 = cDEL then
    if okName c.2.1 = true then some (c.1, c.2.1, []) else none
  else if c.1 = cLIST ∨ c.1 = cCOUNT ∨ c.1 = cQUIT then
    if c.2.2 = true then none else some (c.1, [], [])
  else none
def keepF (m : Mp) (k t told : By) : By × Mp := if mget m k = none ∧ 64 ≤ m.length then (bFULL, m) else (told, mput m (k, t))
def getF (m : Mp) (k : By) : By := match mget m k with
  | none => bNONE
  | some v => bVALUE ++ v
def dropF (m : Mp) (k : By) : By × Mp := match mget m k with
  | none => (bNONE, m)
  | some _ => (bOK, mdel m k)
def valF (m : Mp) (k : By) : By := (mget m k).getD []
def numV (v : By) : Int := (numF v).getD 0
def addF (m : Mp) (k t : By) : By × Mp := match numF t with
  | none => (bBAD, m)
  | some n => if -999999999 ≤ numV (valF m k) + n ∧ numV (valF m k) + n ≤ 999999999 then keepF m k (Go.Lib.itoa (numV (valF m k) + n)) (bVALUE ++ Go.Lib.itoa (numV (valF m k) + n)) else (bBAD, m)
def growF (m : Mp) (k t : By) : By × Mp :=
  if 200 < (valF m k ++ t).length then (bFULL, m) else keepF m k (valF m k ++ t) (bCOUNT ++ Go.Lib.itoa ((valF m k ++ t).length : Int))
def listF (m : Mp) : By := cLIST ++ (m.map fun e => (32 : UInt8) :: e.1).flatten
/-- What a whole line is answered, what is behind a name then, and whether the session is over. -/
def ansF (m : Mp) (line : By) : By × Mp × Bool := match readF line with
  | none => (bBAD, m, false)
  | some (v, k, t) =>
    if v = cPUT then ((keepF m k t bOK).1, (keepF m k t bOK).2, false)
    else if v = cGET then (getF m k, m, false)
    else if v = cDEL then ((dropF m k).1, (dropF m k).2, false)
    else if v = cLIST then (listF m, m, false)
    else if v = cCOUNT then (bCOUNT ++ Go.Lib.itoa (m.length : Int), m, false)
    else if v = cADD then ((addF m k t).1, (addF m k t).2, false)
    else if v = cAPP then ((growF m k t).1, (growF m k t).2, false)
    else (bBYE, m, true)
structure St where
  m : Mp
  line : By
  long : Bool
  over : Bool
def st0 : St := ⟨[], [], false, false⟩
def endF (s : St) : By × St := if s.long = true then (bBAD, ⟨s.m, [], false, s.over⟩) else ((ansF s.m s.line).1, ⟨(ansF s.m s.line).2.1, [], false, (ansF s.m s.line).2.2⟩)
def gath (s : St) (p : By) : St := ⟨s.m, s.line ++ p.take (256 - s.line.length), s.long || decide (256 - s.line.length < p.length), s.over⟩
def byteF (s : St) (b : UInt8) : By × St := if s.over = true then ([], s) else if b = 10 then ((endF s).1 ++ [10], (endF s).2) else ([], gath s [b])
def takeF (s : St) : By → By × St
  | [] => ([], s)
  | b :: r => ((byteF s b).1 ++ (takeF (byteF s b).2 r).1, (takeF (byteF s b).2 r).2)
theorem take_app : ∀ (a b : By) (s : St), takeF s (a ++ b) = ((takeF s a).1 ++ (takeF (takeF s a).2 b).1, (takeF (takeF s a).2 b).2)
  | [], b, s => rfl
  | x :: a, b, s => by
    simp only [List.cons_append, takeF]
    rw [take_app a b]
    simp [List.append_assoc]
theorem take_over : ∀ (a : By) (s : St), s.over = true → takeF s a = ([], s)
  | [], s, _ => rfl
  | x :: a, s, h => by
    have hb : byteF s x = ([], s) := if_pos h
    simp only [takeF]
    rw [hb, take_over a s h]
    rfl
theorem gath_nil (s : St) : gath s [] = s := by
  cases s
  simp [gath]
theorem gath_app (s : St) (a b : By) (hl : s.line.length ≤ 256) : gath (gath s a) b = gath s (a ++ b) := by
  unfold gath
  simp only [List.length_append, List.length_take]
  congr 1
  · have e : 256 - (s.line.length + min (256 - s.line.length) a.length) = 256 - s.line.length - a.length := by omega
    rw [List.append_assoc, List.take_append, e]
  · cases s.long
    · simp only [Bool.false_or]
      by_cases h : 256 - s.line.length < a.length
      · simp [h]; omega
      · simp only [h, decide_false, Bool.false_or]
        congr 1
        apply propext
        constructor <;> intro h2 <;> omega
    · rfl
theorem gath_line (s : St) (a : By) (hl : s.line.length ≤ 256) : (gath s a).line.length ≤ 256 := by
  simp [gath]
  omega
theorem take_piece : ∀ (p : By) (s : St), s.over = false → s.line.length ≤ 256 → (∀ b ∈ p, b ≠ 10) → takeF s p = ([], gath s p)
  | [], s, _, _, _ => by rw [gath_nil]; rfl
  | x :: p, s, ho, hl, h => by
    have hb : byteF s x = ([], gath s [x]) := by
      unfold byteF
      rw [if_neg (by rw [ho]; exact Bool.false_ne_true), if_neg (h x (List.mem_cons_self ..))]
    simp only [takeF]
    rw [hb, take_piece p (gath s [x]) ho (gath_line s _ hl) (fun b hb => h b (List.mem_cons_of_mem _ hb)), gath_app s _ _ hl]
    rfl
theorem take_line (s : St) (p r : By) (ho : s.over = false) (hl : s.line.length ≤ 256) (h : ∀ b ∈ p, b ≠ 10) :
    takeF s (p ++ 10 :: r) = ((endF (gath s p)).1 ++ [10] ++ (takeF (endF (gath s p)).2 r).1, (takeF (endF (gath s p)).2 r).2) := by
  rw [take_app, take_piece p s ho hl h]
  simp only [takeF, List.nil_append]
  have hb : byteF (gath s p) 10 = ((endF (gath s p)).1 ++ [10], (endF (gath s p)).2) := by
    unfold byteF
    rw [if_neg (by show ¬ s.over = true; rw [ho]; exact Bool.false_ne_true), if_pos rfl]
  rw [hb]
/-- What every state of a session keeps. -/
structure Ok (s : St) : Prop where
  rise : Rise s.m
  size : s.m.length ≤ 64
  keys : ∀ e ∈ s.m, e.1.length ≤ 32 ∧ e.2.length ≤ 300
  line : s.line.length ≤ 256
theorem ok0 : Ok st0 := ⟨List.Pairwise.nil, Nat.zero_le _, (by intro e he; cases he), Nat.zero_le _⟩
structure OkM (m : Mp) : Prop where
  rise : Rise m
  size : m.length ≤ 64
  keys : ∀ e ∈ m, e.1.length ≤ 32 ∧ e.2.length ≤ 300
theorem val_len {m : Mp} (h : OkM m) (k : By) : (valF m k).length ≤ 300 := by
  unfold valF
  cases hg : mget m k with
  | none => simp
  | some v => exact (h.keys _ (mget_mem hg)).2
theorem keep_ok {m : Mp} (h : OkM m) {k t told : By} (hk : k.length ≤ 32) (ht : t.length ≤ 300) (ho : told.length ≤ 2200) : OkM (keepF m k t told).2 ∧ (keepF m k t told).1.length ≤ 2200 := by
  unfold keepF
  split
  · exact ⟨h, by simp⟩
  · rename_i hc
    refine ⟨⟨mput_rise h.rise _, ?_, fun e he => ?_⟩, ho⟩
    · rw [mput_len h.rise]
      split
      · rename_i hn
        have : ¬ 64 ≤ m.length := fun q => hc ⟨hn, q⟩
        omega
      · exact h.size
    · rcases mem_mput he with rfl | he
      · exact ⟨hk, ht⟩
      · exact h.keys e he
theorem drop_ok {m : Mp} (h : OkM m) (k : By) : OkM (dropF m k).2 ∧ (dropF m k).1.length ≤ 2200 := by
  unfold dropF
  cases hg : mget m k with
  | none => exact ⟨h, by simp⟩
  | some v =>
    have := mdel_len h.rise hg
    have := h.size
    exact ⟨⟨mdel_rise h.rise k, by simp only; omega, fun e he => h.keys e (List.mem_filter.1 he).1⟩, by simp⟩
theorem add_ok {m : Mp} (h : OkM m) {k : By} (t : By) (hk : k.length ≤ 32) : OkM (addF m k t).2 ∧ (addF m k t).1.length ≤ 2200 := by
  unfold addF
  cases hn : numF t with
  | none => exact ⟨h, by simp⟩
  | some n =>
    simp only
    split
    · rename_i hc
      have := itoa_len (v := numV (valF m k) + n) (by omega) (by omega)
      exact keep_ok h hk (by omega) (by simp; omega)
    · exact ⟨h, by simp⟩
theorem grow_ok {m : Mp} (h : OkM m) {k : By} (t : By) (hk : k.length ≤ 32) : OkM (growF m k t).2 ∧ (growF m k t).1.length ≤ 2200 := by
  unfold growF
  split
  · exact ⟨h, by simp⟩
  · rename_i hc
    have := itoa_len (v := ((valF m k ++ t).length : Int)) (by omega) (by omega)
    exact keep_ok h hk (by omega) (by rw [List.length_append]; simp only [bCOUNT, List.length_cons, List.length_nil]; omega)
theorem flat_len : ∀ (m : Mp) (n : Nat), (∀ e ∈ m, e.1.length ≤ n) → ((m.map fun e => (32 : UInt8) :: e.1).flatten).length ≤ m.length * (n + 1)
  | [], n, _ => by simp
  | e :: m, n, h => by
    have h1 := h e (List.mem_cons_self ..)
    have h2 := flat_len m n (fun x hx => h x (List.mem_cons_of_mem _ hx))
    rw [List.map_cons, List.flatten_cons, List.length_append]
    simp only [List.length_cons]
    rw [Nat.succ_mul]
    omega
theorem list_len {m : Mp} (h : OkM m) : (listF m).length ≤ 2200 := by
  unfold listF
  have := flat_len m 32 (fun e he => (h.keys e he).1)
  have := h.size
  rw [List.length_append]
  simp only [List.length_cons, List.length_nil]
  omega
theorem get_len {m : Mp} (h : OkM m) (k : By) : (getF m k).length ≤ 2200 := by
  unfold getF
  cases hg : mget m k with
  | none => simp
  | some v =>
    have := (h.keys _ (mget_mem hg)).2
    simp only [List.length_append, List.length_cons, List.length_nil]
    simp only at this
    omega
theorem okName_len {s : By} (h : okName s = true) : s.length ≤ 32 := by
  unfold okName at h
  simp only [Bool.and_eq_true, decide_eq_true_eq] at h
  exact h.2.1
theorem read_ok {line : By} {v k t : By} (h : readF line = some (v, k, t)) : k.length ≤ 32 ∧ t.length ≤ line.length := by
  unfold readF at h
  simp only at h
  split at h
  · split at h
    · rename_i hc
      cases h
      have h1 := cut_len 32 line
      have h2 := cut_len 32 (cutC 32 line).2.1
      exact ⟨okName_len hc.2, by omega⟩
    · cases h
  · split at h
    · split at h
      · rename_i hc
        cases h
        exact ⟨okName_len hc, Nat.zero_le _⟩
      · cases h
    · split at h
      · split at h
        · cases h
        · cases h
          exact ⟨Nat.zero_le _, Nat.zero_le _⟩
      · cases h
theorem ans_ok {m : Mp} (h : OkM m) {line : By} (hl : line.length ≤ 256) : OkM (ansF m line).2.1 ∧ (ansF m line).1.length ≤ 2200 := by
  unfold ansF
  cases hr : readF line with
  | none => exact ⟨h, by simp⟩
  | some x =>
    obtain ⟨v, k, t⟩ := x
    obtain ⟨hk, ht⟩ := read_ok hr
    simp only
    split
    · exact keep_ok h hk (by omega) (by simp)
    · split
      · exact ⟨h, get_len h k⟩
      · split
        · exact drop_ok h k
        · split
          · exact ⟨h, list_len h⟩
          · split
            · refine ⟨h, ?_⟩
              have := itoa_len (v := (m.length : Int)) (by omega) (by have := h.size; omega)
              rw [List.length_append]
              simp only [List.length_cons, List.length_nil]
              omega
            · split
              · exact add_ok h t hk
              · split
                · exact grow_ok h t hk
                · exact ⟨h, by simp⟩
theorem Ok.toM {s : St} (h : Ok s) : OkM s.m := ⟨h.rise, h.size, h.keys⟩
theorem OkM.toS {m : Mp} (h : OkM m) {l : By} (hl : l.length ≤ 256) (a b : Bool) : Ok ⟨m, l, a, b⟩ := ⟨h.rise, h.size, h.keys, hl⟩
theorem end_ok {s : St} (h : Ok s) : Ok (endF s).2 ∧ (endF s).1.length ≤ 2200 := by
  unfold endF
  split
  · exact ⟨h.toM.toS (Nat.zero_le _) _ _, by simp⟩
  · have := ans_ok h.toM h.line
    exact ⟨this.1.toS (Nat.zero_le _) _ _, this.2⟩
theorem gath_ok {s : St} (h : Ok s) (p : By) : Ok (gath s p) := ⟨h.rise, h.size, h.keys, gath_line s p h.line⟩
theorem byte_ok {s : St} (h : Ok s) (b : UInt8) : Ok (byteF s b).2 ∧ (byteF s b).1.length ≤ 2201 := by
  unfold byteF
  split
  · exact ⟨h, by simp⟩
  · split
    · have := end_ok h
      exact ⟨this.1, by simp; omega⟩
    · exact ⟨gath_ok h _, by simp⟩
theorem take_ok : ∀ {s : St} (_ : Ok s) (d : By), Ok (takeF s d).2 ∧ (takeF s d).1.length ≤ 2201 * d.length
  | s, h, [] => ⟨h, by simp [takeF]⟩
  | s, h, b :: r => by
    have h1 := byte_ok h b
    have h2 := take_ok h1.1 r
    refine ⟨h2.1, ?_⟩
    simp only [takeF, List.length_append, List.length_cons]
    omega
end Go.Proofs.YtadmpdeegnppjaaGreatDoor
