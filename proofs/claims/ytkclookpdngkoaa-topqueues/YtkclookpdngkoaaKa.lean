/- TopQueues in plain words: two queues over one text. -/
import Derived.Test.YtkclookpdngkoaaDRd
import Derived.Test.YtkclookpdngkoaaVi
namespace Go.Proofs.Ytkclookpdngkoaa
open Go.RowKit Go.Maps Go.Lib
set_option maxRecDepth 100000
set_option linter.unusedVariables false
set_option linter.unusedSimpArgs false

/-- The receiver's queue of a text: p bytes came in order, r of them were read, C came. -/
def rQ (T : List UInt8) (fi : Int) (C : Nat → Bool) (p r : Nat) : V.Rq := ⟨150, (fi + (p : Int)) % 4294967296, (T.take p).drop r, fun x => if C (p + x) = true then T[p + x]? else none⟩
/-- The sender's: the bytes ahead of p are acknowledged, those ahead of s were sent. -/
def sQ (T : List UInt8) (fi : Int) (p s : Nat) (ps : List S.Pt) : S.Qu := ⟨400, (fi + (p : Int)) % 4294967296, s - p, T.drop p, ps⟩
def cov (C : Nat → Bool) (p : Nat) (ps : List S.Pt) : Prop := ∀ k, S.inP ps k ↔ C (p + k) = true
structure TI (T : List UInt8) (C : Nat → Bool) (p r s : Nat) : Prop where
  rp : r ≤ p
  ps : p ≤ s
  sT : s ≤ T.length
  w : s ≤ r + 150
  lo : ∀ j, j < p → C j = true
  at_ : C p = false
  hi : ∀ j, C j = true → j < s
  room : T.length ≤ p + 400
/-- A piece of a text. -/
def pc (T : List UInt8) (a e : Nat) : List UInt8 := (T.take e).drop a
theorem pc_len {T : List UInt8} {a e : Nat} (he : e ≤ T.length) : (pc T a e).length = e - a := by unfold pc; rw [List.length_drop, List.length_take]; omega
theorem pc_at {T : List UInt8} {a e i : Nat} : (pc T a e)[i]? = if a + i < e then T[a + i]? else none := by
  unfold pc
  rw [List.getElem?_drop, List.getElem?_take]
theorem rQ_fine {T : List UInt8} {fi : Int} {C : Nat → Bool} {p r s : Nat} (h : TI T C p r s) : (rQ T fi C p r).Fine := by
  have h1 := h.rp; have h2 := h.ps; have h3 := h.sT; have h4 := h.w
  have hl : ((T.take p).drop r).length = p - r := by rw [List.length_drop, List.length_take]; omega
  refine ⟨by show 1 ≤ 150; omega, by show 150 ≤ 65536; omega, Int.emod_nonneg _ (by omega), ?_, ?_, fun d hd => ?_⟩
  · show (fi + (p : Int)) % 4294967296 ≤ 4294967295
    omega
  · show ((T.take p).drop r).length ≤ 150
    omega
  · have hC : C (p + d) = true := by
      cases hq : C (p + d) with
      | true => rfl
      | false => have : (if C (p + d) = true then T[p + d]? else none).isSome = true := hd; rw [hq] at this; cases this
    have h5 := h.hi _ hC
    refine ⟨?_, ?_⟩
    · rcases Nat.eq_zero_or_pos d with e | e
      · rw [e, Nat.add_zero, h.at_] at hC; cases hC
      · exact e
    · show d < 150 - ((T.take p).drop r).length
      omega
theorem sQ_fine {T : List UInt8} {fi : Int} {C : Nat → Bool} {p r s : Nat} {ps : List S.Pt} (h : TI T C p r s) (hk : S.PsOk (s - p) ps) : (sQ T fi p s ps).Fine := by
  have h1 := h.rp; have h2 := h.ps; have h3 := h.sT; have h4 := h.w; have h5 := h.room
  refine ⟨by show (1 : Int) ≤ 400; omega, by show (400 : Int) ≤ 65536; omega, Int.emod_nonneg _ (by omega), ?_, ?_, ?_, hk⟩
  · show (fi + (p : Int)) % 4294967296 ≤ 4294967295
    omega
  · show ((T.drop p).length : Int) ≤ 400
    rw [List.length_drop]; omega
  · show s - p ≤ (T.drop p).length
    rw [List.length_drop]; omega
/-! ### Bytes are written -/
theorem ti_write {T : List UInt8} {C : Nat → Bool} {p r s : Nat} (h : TI T C p r s) (x : List UInt8) (hx : T.length + x.length ≤ p + 400) : TI (T ++ x) C p r s := by
  have h3 := h.sT
  exact ⟨h.rp, h.ps, by rw [List.length_append]; omega, h.w, h.lo, h.at_, h.hi, by rw [List.length_append]; omega⟩
theorem rQ_write {T : List UInt8} {fi : Int} {C : Nat → Bool} {p r s : Nat} (h : TI T C p r s) (x : List UInt8) : rQ (T ++ x) fi C p r = rQ T fi C p r := by
  have h2 := h.ps; have h3 := h.sT
  unfold rQ
  rw [List.take_append_of_le_length (by omega)]
  congr 1
  funext d
  by_cases hc : C (p + d) = true
  · have := h.hi _ hc
    rw [if_pos hc, if_pos hc, List.getElem?_append_left (by omega)]
  · rw [if_neg hc, if_neg hc]
theorem sQ_write {T : List UInt8} {fi : Int} {C : Nat → Bool} {p r s : Nat} {ps : List S.Pt} (h : TI T C p r s) (b : ByteArray) :
    ∃ n, S.wrN (sQ T fi p s ps) b = n ∧ n ≤ b.size ∧ T.length + n ≤ p + 400 ∧ S.wrQ (sQ T fi p s ps) b = sQ (T ++ b.data.toList.take n) fi p s ps := by
  have h2 := h.ps; have h3 := h.sT; have h5 := h.room
  have hl : (T.drop p).length = T.length - p := List.length_drop
  have he : S.wrN (sQ T fi p s ps) b = min b.size (400 - (T.length - p)) := by
    show min b.size ((400 : Int).toNat - (T.drop p).length) = _
    rw [hl]; rfl
  refine ⟨_, rfl, ?_, ?_, ?_⟩
  · rw [he]; omega
  · rw [he]; omega
  · show S.Qu.mk _ _ _ (T.drop p ++ b.data.toList.take _) _ = S.Qu.mk _ _ _ ((T ++ _).drop p) _
    rw [List.drop_append_of_le_length (by omega)]
    rfl
/-! ### The next ones are sent -/
theorem nx_is {T : List UInt8} {fi : Int} {C : Nat → Bool} {p r s : Nat} {ps : List S.Pt} (h : TI T C p r s) : S.nxA (sQ T fi p s ps) = (fi + (s : Int)) % 4294967296 := by
  have h2 := h.ps
  show ((fi + (p : Int)) % 4294967296 + ((s - p : Nat) : Int)) % 4294967296 = _
  omega
theorem ti_next {T : List UInt8} {fi : Int} {C : Nat → Bool} {p r s : Nat} {ps : List S.Pt} (h : TI T C p r s) (hk : S.PsOk (s - p) ps) (m : Int) (hm : m ≤ ((r + 150 - s : Nat) : Int)) :
    ∃ n, n = (max (min ((T.length - s : Nat) : Int) m) 0).toNat ∧ S.sndQ (sQ T fi p s ps) m = sQ T fi p (s + n) ps ∧ S.sndS (sQ T fi p s ps) m = pc T s (s + n) ∧ TI T C p r (s + n) ∧ S.PsOk (s + n - p) ps := by
  have h1 := h.rp; have h2 := h.ps; have h3 := h.sT; have h4 := h.w
  have hl : (T.drop p).length = T.length - p := List.length_drop
  have he : S.sndN (sQ T fi p s ps) m = (max (min ((T.length - s : Nat) : Int) m) 0).toNat := by
    show (max (min (((T.drop p).length : Int) - ((s - p : Nat) : Int)) m) 0).toNat = _
    rw [hl]; congr 2; congr 1; omega
  obtain ⟨n, hn⟩ : ∃ n, n = (max (min ((T.length - s : Nat) : Int) m) 0).toNat := ⟨_, rfl⟩
  rw [← hn] at he
  refine ⟨n, hn, ?_, ?_, ?_, ?_⟩
  · unfold S.sndQ
    rw [he]
    show S.Qu.mk _ _ ((s - p) + n) _ _ = S.Qu.mk _ _ (s + n - p) _ _
    rw [show (s - p) + n = s + n - p by omega]
    rfl
  · unfold S.sndS
    rw [he]
    show ((T.drop p).drop (s - p)).take n = (T.take (s + n)).drop s
    rw [List.drop_drop, show p + (s - p) = s by omega, List.drop_take, Nat.add_sub_cancel_left]
  · exact ⟨h1, by omega, by omega, by omega, h.lo, h.at_, fun j hj => by have := h.hi j hj; omega, h.room⟩
  · exact S.psOk_mono hk (by omega)
/-! ### A hole -/
theorem ti_hole {T : List UInt8} {fi : Int} {C : Nat → Bool} {p r s : Nat} {ps : List S.Pt} (h : TI T C p r s) (hk : S.PsOk (s - p) ps) (hc : cov C p ps) :
    ∃ g, p ≤ g ∧ g ≤ s ∧ (p < s → p < g) ∧ (∀ j, p ≤ j → j < g → C j = false) ∧ S.holeL (sQ T fi p s ps) = (0, g - p) := by
  have h2 := h.ps
  have hno : ∀ k, ¬ S.inP ps k → C (p + k) = false := fun k hk => by
    cases hq : C (p + k) with
    | false => rfl
    | true => exact absurd ((hc k).2 hq) hk
  have hn0 : ¬ S.inP ps 0 := fun e => by have := (hc 0).1 e; rw [Nat.add_zero, h.at_] at this; cases this
  cases ps with
  | nil =>
    refine ⟨s, h2, Nat.le_refl _, fun e => e, fun j j1 j2 => ?_, rfl⟩
    have := hno (j - p) (fun ⟨e, he, _⟩ => by cases he)
    rwa [show p + (j - p) = j by omega] at this
  | cons x l =>
    have hx := hk.2 x (List.mem_cons_self ..)
    have hx0 : x.1 ≠ 0 := fun e => hn0 ⟨x, List.mem_cons_self .., by omega, by omega⟩
    refine ⟨p + x.1, by omega, by omega, fun _ => by omega, fun j j1 j2 => ?_, ?_⟩
    · have := hno (j - p) (fun ⟨e, he, e1, e2⟩ => by
        rcases List.mem_cons.1 he with rfl | he
        · omega
        · have := (List.pairwise_cons.1 hk.1).1 e he
          omega)
      rwa [show p + (j - p) = j by omega] at this
    · show (if x.1 = 0 then _ else ((0 : Nat), x.1)) = _
      rw [if_neg hx0, Nat.add_sub_cancel_left]
theorem hole_is {T : List UInt8} {fi : Int} {p s g : Nat} {ps : List S.Pt} (hg : p ≤ g) (hh : S.holeL (sQ T fi p s ps) = (0, g - p)) (m : Nat) (hm : 1 ≤ m) :
    S.hlA (sQ T fi p s ps) (m : Int) = (fi + (p : Int)) % 4294967296 ∧ S.hlS (sQ T fi p s ps) (m : Int) = pc T p (p + min (g - p) m) := by
  have hn : S.hlN (sQ T fi p s ps) (m : Int) = ((min (g - p) m : Nat) : Int) := by
    unfold S.hlN
    rw [hh]
    show min (((g - p : Nat) : Int) - ((0 : Nat) : Int)) (m : Int) = _
    omega
  constructor
  · unfold S.hlA
    rw [hh]
    show (if _ then (fi + (p : Int)) % 4294967296 else ((fi + (p : Int)) % 4294967296 + ((0 : Nat) : Int)) % 4294967296) = _
    split
    · rfl
    · rw [show ((0 : Nat) : Int) = 0 from rfl, Int.add_zero]; exact Int.emod_emod_of_dvd _ (Int.dvd_refl _)
  · unfold S.hlS
    rw [hn, hh]
    show (if _ then [] else ((T.drop p).drop 0).take _) = _
    by_cases h1 : ((min (g - p) m : Nat) : Int) < 1
    · rw [if_pos h1]
      unfold pc
      rw [show min (g - p) m = 0 by omega, Nat.add_zero, List.drop_eq_nil_of_le (by rw [List.length_take]; omega)]
    · rw [if_neg h1, List.drop_zero, Int.toNat_natCast]
      unfold pc
      rw [List.drop_take, Nat.add_sub_cancel_left]
/-! ### A piece comes -/
def cNew (C : Nat → Bool) (a e : Nat) : Nat → Bool := fun j => C j || (decide (a ≤ j) && decide (j < e))
theorem cNew_is {C : Nat → Bool} {a e j : Nat} : cNew C a e j = true ↔ C j = true ∨ a ≤ j ∧ j < e := by
  unfold cNew
  rw [Bool.or_eq_true, Bool.and_eq_true, decide_eq_true_eq, decide_eq_true_eq]
theorem cut_in {fi : Int} {a p n win : Nat} (hap : p ≤ a) (hn : (a - p) + n ≤ win) (hw : win ≤ 150) :
    cutS ((fi + (a : Int)) % 4294967296) (n : Int) ((fi + (p : Int)) % 4294967296) (win : Int) = 0 ∧ cutK ((fi + (a : Int)) % 4294967296) (n : Int) ((fi + (p : Int)) % 4294967296) (win : Int) = (n : Int) := by
  obtain ⟨hB, -⟩ := V.cut_plain (a := (fi + (a : Int)) % 4294967296) (t := (fi + (p : Int)) % 4294967296) (n := (n : Int)) (win := (win : Int)) (by omega) (by omega) (by omega) (by omega) (by omega) (by omega) (by omega) (by omega)
  unfold cutS cutK
  simp only [if_pos hB]
  rcases Nat.lt_or_ge p a with hlt | hge
  · have hd : ((fi + (p : Int)) % 4294967296 - (fi + (a : Int)) % 4294967296) % 4294967296 = 4294967296 - ((a - p : Nat) : Int) := by omega
    simp only [hd]
    have h1 : ¬ (4294967296 - ((a - p : Nat) : Int) < 2147483648) := by omega
    simp only [if_neg h1]
    refine ⟨trivial, ?_⟩
    split
    · omega
    · split <;> omega
  · have hd : ((fi + (p : Int)) % 4294967296 - (fi + (a : Int)) % 4294967296) % 4294967296 = 0 := by omega
    simp only [hd]
    have h1 : (0 : Int) < 2147483648 := by omega
    simp only [if_pos h1]
    by_cases h : (0 : Int) < (n : Int)
    · simp only [if_pos h]
      refine ⟨trivial, ?_⟩
      split <;> omega
    · simp only [if_neg h]
      omega
theorem ti_putA {T : List UInt8} {fi : Int} {C : Nat → Bool} {p r s a e : Nat} (h : TI T C p r s) (hpa : p ≤ a) (hae : a ≤ e) (hes : e ≤ s) :
    V.putA (rQ T fi C p r) ((fi + (a : Int)) % 4294967296) (pc T a e) = fun x => if cNew C a e (p + x) = true then T[p + x]? else none := by
  have h1 := h.rp; have h2 := h.ps; have h3 := h.sT; have h4 := h.w
  have hln : (pc T a e).length = e - a := pc_len (by omega)
  have hbl : (rQ T fi C p r).bs.length = p - r := by show ((T.take p).drop r).length = _; rw [List.length_drop, List.length_take]; omega
  have hroom : (rQ T fi C p r).room = 150 := rfl
  have hnx : (rQ T fi C p r).next = (fi + (p : Int)) % 4294967296 := rfl
  obtain ⟨hs, hk⟩ := cut_in (fi := fi) (n := e - a) (win := 150 - (p - r)) hpa (by omega) (by omega)
  have hsk : V.skN (rQ T fi C p r) ((fi + (a : Int)) % 4294967296) (e - a) = 0 := by unfold V.skN; rw [hbl, hroom, hnx, hs]; rfl
  have hke : V.keN (rQ T fi C p r) ((fi + (a : Int)) % 4294967296) (e - a) = e - a := by unfold V.keN; rw [hbl, hroom, hnx, hk]; omega
  have hd : V.putD (rQ T fi C p r) ((fi + (a : Int)) % 4294967296) (e - a) = a - p := by
    unfold V.putD V.offN
    rw [hsk, hnx]
    omega
  have hS : V.putS (rQ T fi C p r) ((fi + (a : Int)) % 4294967296) (pc T a e) = pc T a e := by
    unfold V.putS
    rw [hln, hsk, hke, List.drop_zero, List.take_of_length_le (by omega)]
  unfold V.putA
  rw [hln, hd, hS]
  funext x
  unfold V.addAp
  rw [pc_at]
  show (if (if C (p + x) = true then T[p + x]? else none).isSome = true then (if C (p + x) = true then T[p + x]? else none) else _) = _
  unfold cNew
  cases hc : C (p + x) with
  | true =>
    have := h.hi _ hc
    simp [List.getElem?_eq_getElem (show p + x < T.length by omega)]
  | false =>
    simp only [Bool.false_eq_true, if_false, Option.isSome_none, Bool.false_or, Bool.and_eq_true, decide_eq_true_eq]
    by_cases h0 : a - p ≤ x
    · rw [if_pos h0, show a + (x - (a - p)) = p + x by omega]
      by_cases h5 : p + x < e
      · rw [if_pos h5, if_pos ⟨by omega, h5⟩]
      · rw [if_neg h5, if_neg (fun q => h5 q.2)]
    · rw [if_neg h0, if_neg (by omega)]
theorem ti_run {T : List UInt8} {fi : Int} {C C' : Nat → Bool} {p r s : Nat} {L : List UInt8} (h : TI T C p r s) (hC : ∀ j, C j = true → C' j = true) (hhi : ∀ j, C' j = true → j < s) (hL : V.Run (fun x => if C' (p + x) = true then T[p + x]? else none) L) :
    V.goQ (rQ T fi C p r) (fun x => if C' (p + x) = true then T[p + x]? else none) L = rQ T fi C' (p + L.length) r ∧ TI T C' (p + L.length) r s := by
  have h1 := h.rp; have h2 := h.ps; have h3 := h.sT; have h4 := h.w; have h5 := h.room
  have hin : ∀ i, i < L.length → C' (p + i) = true ∧ T[p + i]? = some (L[i]!) := by
    intro i hi
    have h1 := hL.has i L[i]! (by rw [List.getElem?_eq_getElem hi, getElem!_pos L i hi])
    by_cases hc : C' (p + i) = true
    · rw [if_pos hc] at h1; exact ⟨hc, h1⟩
    · rw [if_neg hc] at h1; cases h1
  have hend : C' (p + L.length) = false := by
    cases hc : C' (p + L.length) with
    | false => rfl
    | true =>
      have h1 := hL.fin
      have := hhi _ hc
      rw [if_pos hc, List.getElem?_eq_getElem (by omega)] at h1
      cases h1
  have hlN : p + L.length ≤ s := by
    rcases Nat.eq_zero_or_pos L.length with e | e
    · omega
    · have := hhi _ (hin (L.length - 1) (by omega)).1
      omega
  have hLe : (T.take p).drop r ++ L = (T.take (p + L.length)).drop r := by
    refine List.ext_getElem? fun i => ?_
    rw [List.getElem?_append]
    have hl1 : ((T.take p).drop r).length = p - r := by rw [List.length_drop, List.length_take]; omega
    rw [hl1]
    by_cases hi : i < p - r
    · rw [if_pos hi, List.getElem?_drop, List.getElem?_drop, List.getElem?_take, List.getElem?_take, if_pos (by omega), if_pos (by omega)]
    · rw [if_neg hi, List.getElem?_drop, List.getElem?_take]
      by_cases hi2 : r + i < p + L.length
      · rw [if_pos hi2]
        have := (hin (i - (p - r)) (by omega)).2
        rw [show p + (i - (p - r)) = r + i by omega] at this
        rw [this, List.getElem?_eq_getElem (by omega), getElem!_pos L _ (by omega)]
      · rw [if_neg hi2, List.getElem?_eq_none (by omega)]
  refine ⟨?_, ⟨by omega, hlN, h3, h4, fun j hj => ?_, hend, hhi, by omega⟩⟩
  · unfold V.goQ rQ
    dsimp only
    rw [hLe]
    have e1 : ((fi + (p : Int)) % 4294967296 + (L.length : Int)) % 4294967296 = (fi + ((p + L.length : Nat) : Int)) % 4294967296 := by omega
    rw [e1]
    congr 1
    funext x
    rw [show p + (x + L.length) = p + L.length + x by omega]
  · rcases Nat.lt_or_ge j p with hjp | hjp
    · exact hC j (h.lo j hjp)
    · have := (hin (j - p) (by omega)).1
      rwa [show p + (j - p) = j by omega] at this
/-- A piece within the window comes. -/
theorem ti_put {T : List UInt8} {fi : Int} {C : Nat → Bool} {p r s a e : Nat} (h : TI T C p r s) (hpa : p ≤ a) (hae : a ≤ e) (hes : e ≤ s) {L : List UInt8} (hL : V.Run (V.putA (rQ T fi C p r) ((fi + (a : Int)) % 4294967296) (pc T a e)) L) :
    V.goQ (rQ T fi C p r) (V.putA (rQ T fi C p r) ((fi + (a : Int)) % 4294967296) (pc T a e)) L = rQ T fi (cNew C a e) (p + L.length) r ∧ TI T (cNew C a e) (p + L.length) r s := by
  rw [ti_putA h hpa hae hes] at hL ⊢
  exact ti_run h (fun j hj => cNew_is.2 (Or.inl hj)) (fun j hj => by
    rcases cNew_is.1 hj with h1 | h1
    · exact h.hi j h1
    · omega) hL
/-! ### Bytes are read -/
theorem ti_read {T : List UInt8} {fi : Int} {C : Nat → Bool} {p r s : Nat} (h : TI T C p r s) (m : Int) :
    ∃ n, n = (max (min m ((p - r : Nat) : Int)) 0).toNat ∧ V.readN (rQ T fi C p r) m = n ∧ V.readQ (rQ T fi C p r) n = rQ T fi C p (r + n) ∧ TI T C p (r + n) s ∧ (rQ T fi C p r).bs.take n = pc T r (r + n) := by
  have h1 := h.rp; have h2 := h.ps; have h3 := h.sT; have h4 := h.w; have h5 := h.room
  have hbl : (rQ T fi C p r).bs.length = p - r := by show ((T.take p).drop r).length = _; rw [List.length_drop, List.length_take]; omega
  refine ⟨_, rfl, ?_, ?_, ⟨by omega, h2, h3, by omega, h.lo, h.at_, h.hi, h5⟩, ?_⟩
  · unfold V.readN; rw [hbl]
  · unfold V.readQ rQ
    dsimp only
    rw [List.drop_drop]
  · show ((T.take p).drop r).take _ = _
    unfold pc
    rw [List.drop_take, List.drop_take, List.take_take, Nat.add_sub_cancel_left]
    congr 1
    omega
/-! ### It is acknowledged -/
theorem in_bh {ps : List S.Pt} (d k : Nat) : S.inP (S.bhL ps d) k ↔ S.inP ps (d + k) := by
  unfold S.inP S.bhL
  constructor
  · rintro ⟨e, he, h1, h2⟩
    obtain ⟨x, hx, rfl⟩ := List.mem_map.1 he
    obtain ⟨hx1, hx2⟩ := List.mem_filter.1 hx
    simp only [decide_eq_true_eq] at hx2 h1 h2
    exact ⟨x, hx1, by omega, by omega⟩
  · rintro ⟨x, hx, h1, h2⟩
    exact ⟨(x.1 - d, x.2 - d), List.mem_map.2 ⟨x, List.mem_filter.2 ⟨hx, decide_eq_true (by omega)⟩, rfl⟩, by show x.1 - d ≤ k; omega, by show k < x.2 - d; omega⟩
theorem off_is {T : List UInt8} {fi : Int} {p s k : Nat} {ps : List S.Pt} (hk : p ≤ k) (hk2 : k ≤ p + 1000) : S.offN (sQ T fi p s ps) ((fi + (k : Int)) % 4294967296) = k - p := by
  unfold S.offN
  show (((fi + (k : Int)) % 4294967296 - (fi + (p : Int)) % 4294967296) % 4294967296).toNat = _
  omega
theorem place_is {T : List UInt8} {fi : Int} {p s k : Nat} {ps : List S.Pt} (hk : p ≤ k) (hks : k ≤ s) (hs : s ≤ p + 1000) : S.placeB (sQ T fi p s ps) ((fi + (k : Int)) % 4294967296) = true := by
  unfold S.placeB numB
  rw [Bool.and_eq_true, decide_eq_true_eq, decide_eq_true_eq]
  refine ⟨by omega, ?_⟩
  show ((fi + (k : Int)) % 4294967296 - (fi + (p : Int)) % 4294967296) % 4294967296 ≤ ((s - p : Nat) : Int)
  omega
theorem ti_ack {T : List UInt8} {fi : Int} {C C' : Nat → Bool} {p p' s : Nat} {ps : List S.Pt} (hp : p ≤ p') (hps : p' ≤ s) (hs : s ≤ p + 1000) (hk : S.PsOk (s - p) ps) (hc : cov C p ps) :
    S.ackQ (sQ T fi p s ps) ((fi + (p' : Int)) % 4294967296) = sQ T fi p' s (S.bhL ps (p' - p)) ∧ S.PsOk (s - p') (S.bhL ps (p' - p)) ∧ cov C p' (S.bhL ps (p' - p)) := by
  refine ⟨?_, ?_, fun k => ?_⟩
  · unfold S.ackQ
    rw [off_is hp (by omega)]
    show S.Qu.mk _ _ ((s - p) - (p' - p)) ((T.drop p).drop (p' - p)) _ = S.Qu.mk _ _ (s - p') (T.drop p') _
    rw [List.drop_drop, show p + (p' - p) = p' by omega, show (s - p) - (p' - p) = s - p' by omega]
    rfl
  · have := S.psOk_bh hk (p' - p)
    rwa [show (s - p) - (p' - p) = s - p' by omega] at this
  · rw [in_bh, hc, show p + (p' - p + k) = p' + k by omega]
end Go.Proofs.Ytkclookpdngkoaa
