/- RecvqStream in plain words: what a piece of a text makes of a queue. -/
import Derived.Test.YtiglaalppaljbaaVm
namespace Go.Proofs.Ytiglaalppaljbaa
open Go.RowKit Go.Maps Go.Lib
set_option maxRecDepth 100000
set_option linter.unusedVariables false
set_option linter.unusedSimpArgs false


/-- The queue of a text: p bytes came in order, r of them were read, C came. -/
def tQ (T : List UInt8) (fi : Int) (C : Nat → Bool) (p r : Nat) : Rq := ⟨100, (fi + (p : Int)) % 4294967296, (T.take p).drop r, fun x => if C (p + x) = true then T[p + x]? else none⟩
structure SI (T : List UInt8) (C : Nat → Bool) (p r : Nat) : Prop where
  rp : r ≤ p
  pN : p ≤ T.length
  lo : ∀ j, j < p → C j = true
  at_ : C p = false
  hi : ∀ j, C j = true → j < T.length
  w : p ≤ r + 100
def cNew (C : Nat → Bool) (a e lim : Nat) : Nat → Bool := fun j => C j || (decide (a ≤ j) && decide (j < e) && decide (j < lim))
theorem tQ_len {T : List UInt8} {fi : Int} {C : Nat → Bool} {p r : Nat} (h : SI T C p r) : (tQ T fi C p r).bs.length = p - r := by
  show ((T.take p).drop r).length = _
  rw [List.length_drop, List.length_take]
  have := h.pN
  omega
theorem cut_below {fi : Int} {a p n win : Nat} (f0 : 0 ≤ fi) (f1 : fi ≤ 4294967295) (ha : a ≤ 300) (hp : p ≤ 300) (hap : a ≤ p) (hn : n ≤ 300) (hw : win ≤ 100) :
    cutS ((fi + (a : Int)) % 4294967296) (n : Int) ((fi + (p : Int)) % 4294967296) (win : Int) = ((min (p - a) n : Nat) : Int) ∧ cutK ((fi + (a : Int)) % 4294967296) (n : Int) ((fi + (p : Int)) % 4294967296) (win : Int) = ((min (n - (p - a)) win : Nat) : Int) := by
  obtain ⟨hB, -⟩ := cut_plain (a := (fi + (a : Int)) % 4294967296) (t := (fi + (p : Int)) % 4294967296) (n := (n : Int)) (win := (win : Int)) (by omega) (by omega) (by omega) (by omega) (by omega) (by omega) (by omega) (by omega)
  have hd : ((fi + (p : Int)) % 4294967296 - (fi + (a : Int)) % 4294967296) % 4294967296 = ((p - a : Nat) : Int) := by omega
  unfold cutS cutK
  simp only [if_pos hB, hd]
  have h1 : ((p - a : Nat) : Int) < 2147483648 := by omega
  simp only [if_pos h1]
  by_cases h : ((p - a : Nat) : Int) < (n : Int)
  · simp only [if_pos h]
    refine ⟨by omega, ?_⟩
    split <;> omega
  · simp only [if_neg h]
    omega
theorem cut_above {fi : Int} {a p n win : Nat} (f0 : 0 ≤ fi) (f1 : fi ≤ 4294967295) (ha : a ≤ 300) (hp : p ≤ 300) (hap : p < a) (hn : n ≤ 300) (hw : win ≤ 100) :
    cutS ((fi + (a : Int)) % 4294967296) (n : Int) ((fi + (p : Int)) % 4294967296) (win : Int) = 0 ∧ cutK ((fi + (a : Int)) % 4294967296) (n : Int) ((fi + (p : Int)) % 4294967296) (win : Int) = ((min n (win - (a - p)) : Nat) : Int) := by
  obtain ⟨hB, -⟩ := cut_plain (a := (fi + (a : Int)) % 4294967296) (t := (fi + (p : Int)) % 4294967296) (n := (n : Int)) (win := (win : Int)) (by omega) (by omega) (by omega) (by omega) (by omega) (by omega) (by omega) (by omega)
  have hd : ((fi + (p : Int)) % 4294967296 - (fi + (a : Int)) % 4294967296) % 4294967296 = 4294967296 - ((a - p : Nat) : Int) := by omega
  unfold cutS cutK
  simp only [if_pos hB, hd]
  have h1 : ¬ (4294967296 - ((a - p : Nat) : Int) < 2147483648) := by omega
  simp only [if_neg h1]
  refine ⟨trivial, ?_⟩
  split
  · omega
  · split <;> omega
theorem piece_at {T : List UInt8} {a e i : Nat} (he : e ≤ T.length) : ((T.take e).drop a)[i]? = if a + i < e then T[a + i]? else none := by
  rw [List.getElem?_drop, List.getElem?_take]
theorem st_putA {T : List UInt8} {fi : Int} {C : Nat → Bool} {p r a e : Nat} (h : SI T C p r) (f0 : 0 ≤ fi) (f1 : fi ≤ 4294967295) (hN : T.length ≤ 300) (hae : a ≤ e) (he : e ≤ T.length) :
    putA (tQ T fi C p r) ((fi + (a : Int)) % 4294967296) ((T.take e).drop a) = fun x => if cNew C a e (p + (100 - (p - r))) (p + x) = true then T[p + x]? else none := by
  have hpN := h.pN
  have hrp := h.rp
  have hln : ((T.take e).drop a).length = e - a := by rw [List.length_drop, List.length_take]; omega
  have hbl := tQ_len (fi := fi) h
  have hroom : (tQ T fi C p r).room = 100 := rfl
  have hkey : ∀ (d : Nat) (S : List UInt8), putD (tQ T fi C p r) ((fi + (a : Int)) % 4294967296) (e - a) = d → putS (tQ T fi C p r) ((fi + (a : Int)) % 4294967296) ((T.take e).drop a) = S → (∀ x, (if d ≤ x then S[x - d]? else none) = if a ≤ p + x ∧ p + x < e ∧ x < 100 - (p - r) then T[p + x]? else none) → putA (tQ T fi C p r) ((fi + (a : Int)) % 4294967296) ((T.take e).drop a) = fun x => if cNew C a e (p + (100 - (p - r))) (p + x) = true then T[p + x]? else none := by
    intro d S hd hS hx
    unfold putA
    rw [hln, hd, hS]
    funext x
    unfold addAp
    rw [hx]
    show (if (if C (p + x) = true then T[p + x]? else none).isSome = true then (if C (p + x) = true then T[p + x]? else none) else _) = _
    unfold cNew
    cases hc : C (p + x) with
    | true =>
      have := h.hi _ hc
      simp [List.getElem?_eq_getElem this]
    | false =>
      simp only [Bool.false_eq_true, if_false, Option.isSome_none, Bool.false_or, Bool.and_eq_true, decide_eq_true_eq]
      have : (a ≤ p + x ∧ p + x < e ∧ x < 100 - (p - r)) ↔ ((a ≤ p + x ∧ p + x < e) ∧ p + x < p + (100 - (p - r))) := by omega
      simp only [this]
  have hnx : (tQ T fi C p r).next = (fi + (p : Int)) % 4294967296 := rfl
  by_cases hap : a ≤ p
  · obtain ⟨hs, hk⟩ := cut_below (n := e - a) (win := 100 - (p - r)) f0 f1 (by omega) (by omega) hap (by omega) (by omega)
    have hsk : skN (tQ T fi C p r) ((fi + (a : Int)) % 4294967296) (e - a) = min (p - a) (e - a) := by unfold skN; rw [hbl, hroom, hnx, hs]; omega
    have hke : keN (tQ T fi C p r) ((fi + (a : Int)) % 4294967296) (e - a) = min ((e - a) - (p - a)) (100 - (p - r)) := by unfold keN; rw [hbl, hroom, hnx, hk]; omega
    by_cases hpe : p < e
    · refine hkey 0 _ ?_ rfl (fun x => ?_)
      · unfold putD offN
        rw [hsk, hnx, show min (p - a) (e - a) = p - a by omega]
        omega
      · unfold putS
        rw [hln, hsk, hke, show min (p - a) (e - a) = p - a by omega, if_pos (Nat.zero_le _), Nat.sub_zero, List.getElem?_take, List.getElem?_drop, piece_at he, show a + (p - a + x) = p + x by omega]
        by_cases h1 : x < min ((e - a) - (p - a)) (100 - (p - r))
        · rw [if_pos h1, if_pos (by omega), if_pos (by omega)]
        · rw [if_neg h1, if_neg (by omega)]
    · have hS : putS (tQ T fi C p r) ((fi + (a : Int)) % 4294967296) ((T.take e).drop a) = [] := by
        unfold putS
        rw [hln, hke, show min ((e - a) - (p - a)) (100 - (p - r)) = 0 by omega, List.take_zero]
      refine hkey _ [] rfl hS (fun x => ?_)
      rw [if_neg (show ¬ (a ≤ p + x ∧ p + x < e ∧ x < 100 - (p - r)) by omega)]
      split <;> simp
  · obtain ⟨hs, hk⟩ := cut_above (n := e - a) (win := 100 - (p - r)) f0 f1 (by omega) (by omega) (by omega : p < a) (by omega) (by omega)
    have hsk : skN (tQ T fi C p r) ((fi + (a : Int)) % 4294967296) (e - a) = 0 := by unfold skN; rw [hbl, hroom, hnx, hs]; rfl
    have hke : keN (tQ T fi C p r) ((fi + (a : Int)) % 4294967296) (e - a) = min (e - a) (100 - (p - r) - (a - p)) := by unfold keN; rw [hbl, hroom, hnx, hk]; omega
    refine hkey (a - p) _ ?_ rfl (fun x => ?_)
    · unfold putD offN
      rw [hsk, hnx]
      omega
    · unfold putS
      rw [hln, hsk, hke, List.drop_zero, List.getElem?_take, piece_at he]
      by_cases h0 : a - p ≤ x
      · rw [if_pos h0, show a + (x - (a - p)) = p + x by omega]
        by_cases h1 : x - (a - p) < min (e - a) (100 - (p - r) - (a - p))
        · rw [if_pos h1, if_pos (by omega), if_pos (by omega)]
        · rw [if_neg h1, if_neg (by omega)]
      · rw [if_neg h0, if_neg (by omega)]
theorem st_run {T : List UInt8} {fi : Int} {C C' : Nat → Bool} {p r : Nat} {L : List UInt8} (h : SI T C p r) (hC : ∀ j, C j = true → C' j = true) (hhi : ∀ j, C' j = true → j < T.length) (hL : Run (fun x => if C' (p + x) = true then T[p + x]? else none) L) (hf : (goQ (tQ T fi C p r) (fun x => if C' (p + x) = true then T[p + x]? else none) L).Fine) :
    goQ (tQ T fi C p r) (fun x => if C' (p + x) = true then T[p + x]? else none) L = tQ T fi C' (p + L.length) r ∧ SI T C' (p + L.length) r ∧ (∀ j, p ≤ j → j < p + L.length → C' j = true) := by
  have hpN := h.pN
  have hrp := h.rp
  have hin : ∀ i, i < L.length → C' (p + i) = true ∧ T[p + i]? = some (L[i]!) := by
    intro i hi
    have h1 := hL.has i L[i]! (by rw [List.getElem?_eq_getElem hi, getElem!_pos L i hi])
    by_cases hc : C' (p + i) = true
    · rw [if_pos hc] at h1; exact ⟨hc, h1⟩
    · rw [if_neg hc] at h1; cases h1
  have hend : C' (p + L.length) = false := by
    cases hc : C' (p + L.length) with
    | false => rfl
    | true =>
      have h1 := hL.fin
      rw [if_pos hc, List.getElem?_eq_getElem (hhi _ hc)] at h1
      cases h1
  have hlN : p + L.length ≤ T.length := by
    rcases Nat.eq_zero_or_pos L.length with e | e
    · omega
    · have := hhi _ (hin (L.length - 1) (by omega)).1
      omega
  have hLe : (T.take p).drop r ++ L = (T.take (p + L.length)).drop r := by
    refine List.ext_getElem? fun i => ?_
    rw [List.getElem?_append]
    have hl1 : ((T.take p).drop r).length = p - r := by rw [List.length_drop, List.length_take]; omega
    rw [hl1]
    by_cases hi : i < p - r
    · rw [if_pos hi, List.getElem?_drop, List.getElem?_drop, List.getElem?_take, List.getElem?_take, if_pos (by omega), if_pos (by omega)]
    · rw [if_neg hi, List.getElem?_drop, List.getElem?_take]
      by_cases hi2 : r + i < p + L.length
      · rw [if_pos hi2]
        have := (hin (i - (p - r)) (by omega)).2
        rw [show p + (i - (p - r)) = r + i by omega] at this
        rw [this, List.getElem?_eq_getElem (by omega), getElem!_pos L _ (by omega)]
      · rw [if_neg hi2, List.getElem?_eq_none (by omega)]
  have hbl : (T.take p).drop r ++ L = (T.take (p + L.length)).drop r := hLe
  have hln : ((T.take p).drop r ++ L).length ≤ 100 := hf.ln
  have hll : ((T.take p).drop r ++ L).length = p + L.length - r := by rw [hLe, List.length_drop, List.length_take]; omega
  refine ⟨?_, ⟨by omega, hlN, fun j hj => ?_, hend, hhi, by omega⟩, fun j h1 h2 => ?_⟩
  · unfold goQ tQ
    dsimp only
    rw [hLe]
    have e1 : ((fi + (p : Int)) % 4294967296 + (L.length : Int)) % 4294967296 = (fi + ((p + L.length : Nat) : Int)) % 4294967296 := by omega
    rw [e1]
    congr 1
    funext x
    rw [show p + (x + L.length) = p + L.length + x by omega]
  · rcases Nat.lt_or_ge j p with hjp | hjp
    · exact hC j (h.lo j hjp)
    · have := (hin (j - p) (by omega)).1
      rwa [show p + (j - p) = j by omega] at this
  · have := (hin (j - p) (by omega)).1
    rwa [show p + (j - p) = j by omega] at this
theorem st_readQ {T : List UInt8} {fi : Int} {C : Nat → Bool} {p r n : Nat} (h : SI T C p r) (hn : n ≤ p - r) : readQ (tQ T fi C p r) n = tQ T fi C p (r + n) ∧ SI T C p (r + n) ∧ T.take r ++ (tQ T fi C p r).bs.take n = T.take (r + n) := by
  have hpN := h.pN
  have hrp := h.rp
  have hw := h.w
  refine ⟨?_, ⟨by omega, hpN, h.lo, h.at_, h.hi, by omega⟩, ?_⟩
  · unfold readQ tQ
    dsimp only
    rw [List.drop_drop]
  · show T.take r ++ ((T.take p).drop r).take n = _
    rw [List.take_add, List.drop_take, List.take_take, show min n (p - r) = n by omega]
end Go.Proofs.Ytiglaalppaljbaa
