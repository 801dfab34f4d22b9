/- Plain facts of the law. -/
import Derived.Test.YthbpapgfjmpgaaaGreatKl
namespace Go.Proofs.YthbpapgfjmpgaaaGreat
open Go.RowKit Go.Maps
set_option maxRecDepth 100000
set_option linter.unusedVariables false
set_option linter.unusedSimpArgs false


theorem vdel_none {l : List Vn} {k : Int} (h : vlk l k = none) : vdel l k = l := by
  unfold vdel
  rw [List.filter_eq_self]
  intro e he
  unfold vlk at h
  rw [Option.map_eq_none_iff, List.find?_eq_none] at h
  have := h e he
  simpa using this
theorem len_put_new {l : List Vn} {k : Int} {v : Value} (h : vlk l k = none) : (vput l (k, v)).length = l.length + 1 := by
  unfold vput
  rw [len_vins, vdel_none h]
theorem len_put_le (l : List Vn) (e : Vn) : (vput l e).length ≤ l.length + 1 := by
  unfold vput
  rw [len_vins]
  have := List.length_filter_le (fun x : Vn => x.1 != e.1) l
  unfold vdel
  omega
theorem len_del_le (l : List Vn) (k : Int) : (vdel l k).length ≤ l.length := List.length_filter_le _ _
theorem len_del_some : ∀ {l : List Vn}, VRise l → ∀ {k : Int} {v : Value}, vlk l k = some v → (vdel l k).length + 1 = l.length
  | [], _, k, v, h => by cases h
  | y :: r, hr, k, v, h => by
    have hy := List.pairwise_cons.1 hr
    by_cases e : y.1 = k
    · have hn : vlk r k = none := by
        cases hq : vlk r k with
        | none => rfl
        | some c =>
          have := hy.1 _ (vlk_mem hq)
          omega
      have : vdel (y :: r) k = r := by
        unfold vdel
        rw [List.filter_cons]
        have e2 : (y.1 != k) = false := by simpa using e
        rw [e2]
        exact vdel_none hn
      rw [this]
      rfl
    · have h2 : vlk r k = some v := by
        unfold vlk at h ⊢
        rw [List.find?_cons] at h
        have e2 : (y.1 == k) = false := by simpa using e
        rw [e2] at h
        exact h
      have : vdel (y :: r) k = y :: vdel r k := by
        unfold vdel
        rw [List.filter_cons]
        have e2 : (y.1 != k) = true := by simpa using e
        rw [e2]
        rfl
      rw [this]
      have := len_del_some hy.2 h2
      simp only [List.length_cons]
      omega
theorem cnt_up_ge (s : Nat → Int) (i : Nat) (p : Int) : ∀ n, n ≤ i → cnt (upS s i p) n = cnt s n
  | 0, _ => rfl
  | n + 1, h => by
    unfold cnt
    rw [cnt_up_ge s i p n (by omega), upS_other (by omega)]
theorem cnt_up_new {s : Nat → Int} {i : Nat} {p : Int} (h0 : s i = 0) (hp : p ≠ 0) : ∀ n, i < n → cnt (upS s i p) n = cnt s n + 1
  | 0, h => by omega
  | n + 1, h => by
    unfold cnt
    by_cases e : i = n
    · subst e
      rw [cnt_up_ge s i p i (Nat.le_refl _), upS_same, if_neg hp, if_pos h0]
    · rw [cnt_up_new h0 hp n (by omega), upS_other (by omega)]
      omega
theorem cnt_up_del {s : Nat → Int} {i : Nat} (h0 : s i ≠ 0) : ∀ n, i < n → cnt (upS s i 0) n + 1 = cnt s n
  | 0, h => by omega
  | n + 1, h => by
    unfold cnt
    by_cases e : i = n
    · subst e
      rw [cnt_up_ge s i 0 i (Nat.le_refl _), upS_same, if_pos rfl, if_neg h0]
    · have := cnt_up_del h0 n (by omega)
      rw [upS_other (by omega)]
      omega
theorem cnt_full {s : Nat → Int} : ∀ n, (∀ i, i < n → s i ≠ 0) → cnt s n = n
  | 0, _ => rfl
  | n + 1, h => by
    unfold cnt
    rw [cnt_full n (fun i hi => h i (by omega)), if_neg (h n (by omega))]
/-- The least free number. -/
theorem least_free {s : Nat → Int} : ∀ n, cnt s n < n → ∃ m, m < n ∧ s m = 0 ∧ ∀ i, i < m → s i ≠ 0
  | 0, h => by omega
  | n + 1, h => by
    by_cases hc : cnt s n < n
    · obtain ⟨m, hm, h0, hl⟩ := least_free n hc
      exact ⟨m, by omega, h0, hl⟩
    · have hn := cnt_le s n
      have hs : s n = 0 := by
        unfold cnt at h
        by_cases e : s n = 0
        · exact e
        · rw [if_neg e] at h; omega
      by_cases ha : ∃ i, i < n ∧ s i = 0
      · obtain ⟨i, hi, hi0⟩ := ha
        exfalso
        have h1 : cnt (upS s i 1) n = cnt s n + 1 := cnt_up_new hi0 (by decide) n hi
        have h2 := cnt_le (upS s i 1) n
        omega
      · exact ⟨n, by omega, hs, fun i hi e => ha ⟨i, hi, e⟩⟩
def Us (s : Nat → Int) (q : Int) : Prop := ∃ i, i < 64 ∧ s i = q
/-- What the law's two maps, and the table's, have. -/
structure LP (k : Nat) (s : Nat → Int) (l lp lu : List Vn) : Prop where
  rg : ∀ i, s i = 0 ∨ (100 ≤ s i ∧ s i ≤ 105)
  inj : ∀ i j, i < 64 → j < 64 → s i ≠ 0 → s i = s j → i = j
  l1 : ∀ q, q ≠ 0 → Us s q → vlk l q = some EV
  l0 : ∀ q, q ≠ 0 → ¬ Us s q → vlk l q = none
  p : ∀ i : Nat, i < 64 → vlk lp (i : Int) = if s i = 0 then none else some (.int .i64 (s i))
  u1 : ∀ x : Int, 0 ≤ x → Us s (100 + x) → (vlk lu x).getD (.bool false) = .bool true
  u0 : ∀ x : Int, 0 ≤ x → ¬ Us s (100 + x) → (vlk lu x).getD (.bool false) = .bool false
  cn : lp.length = cnt s 64
  nl : l.length ≤ k
  np : lp.length ≤ k
  nu : lu.length ≤ k
theorem LP.zero : LP 0 (fun _ => 0) [] [] [] where
  rg := fun _ => Or.inl rfl
  inj := fun i j _ _ h => absurd rfl h
  l1 := fun q hq h => by obtain ⟨i, -, e⟩ := h; exact absurd e.symm hq
  l0 := fun q _ _ => rfl
  p := fun i _ => rfl
  u1 := fun x hx h => by
    obtain ⟨i, -, e⟩ := h
    have e2 : (0 : Int) = 100 + x := e
    omega
  u0 := fun x _ _ => rfl
  cn := by decide +kernel
  nl := Nat.le_refl _
  np := Nat.le_refl _
  nu := Nat.le_refl _
theorem LP.same {k : Nat} {s : Nat → Int} {l lp lu : List Vn} (h : LP k s l lp lu) : LP (k + 1) s l lp lu :=
  ⟨h.rg, h.inj, h.l1, h.l0, h.p, h.u1, h.u0, h.cn, Nat.le_succ_of_le h.nl, Nat.le_succ_of_le h.np, Nat.le_succ_of_le h.nu⟩
theorem LP.put {k : Nat} {s : Nat → Int} {l lp lu : List Vn} (h : LP k s l lp lu) {m : Nat} (hm : m < 64) (hm0 : s m = 0) {x : Int} (x0 : 0 ≤ x) (x1 : x ≤ 5) (hu : ¬ Us s (100 + x))
    (rl : VRise l) (rl' : VRise (vput l (100 + x, EV))) (rp : VRise lp) (rp' : VRise (vput lp ((m : Int), .int .i64 (100 + x)))) (ru : VRise lu) (ru' : VRise (vput lu (x, .bool true))) :
    LP (k + 1) (upS s m (100 + x)) (vput l (100 + x, EV)) (vput lp ((m : Int), .int .i64 (100 + x))) (vput lu (x, .bool true)) := by
  have hup : ∀ i, upS s m (100 + x) i = if i = m then 100 + x else s i := fun i => rfl
  have hus : ∀ q, Us (upS s m (100 + x)) q → q = 100 + x ∨ Us s q := by
    rintro q ⟨i, hi, e⟩
    rw [hup] at e
    by_cases hi2 : i = m
    · rw [if_pos hi2] at e; exact Or.inl e.symm
    · rw [if_neg hi2] at e; exact Or.inr ⟨i, hi, e⟩
  have hus1 : Us (upS s m (100 + x)) (100 + x) := ⟨m, hm, upS_same _ _ _⟩
  have hus2 : ∀ q, q ≠ 0 → Us s q → Us (upS s m (100 + x)) q := by
    rintro q hq ⟨i, hi, e⟩
    have : i ≠ m := by rintro rfl; rw [hm0] at e; exact hq e.symm
    exact ⟨i, hi, by rw [upS_other this]; exact e⟩
  refine ⟨fun i => ?_, fun i j hi hj h0 e => ?_, fun q hq hs => ?_, fun q hq hs => ?_, fun i hi => ?_, fun y hy hs => ?_, fun y hy hs => ?_, ?_, ?_, ?_, ?_⟩
  · rw [hup]
    split
    · right; omega
    · exact h.rg i
  · rw [hup] at h0 e
    rw [hup] at e
    by_cases hi2 : i = m
    · by_cases hj2 : j = m
      · omega
      · rw [if_pos hi2, if_neg hj2] at e
        exact absurd ⟨j, hj, e.symm⟩ hu
    · by_cases hj2 : j = m
      · rw [if_neg hi2, if_pos hj2] at e
        exact absurd ⟨i, hi, e⟩ hu
      · rw [if_neg hi2] at h0
        rw [if_neg hi2, if_neg hj2] at e
        exact h.inj i j hi hj h0 e
  · rw [vlk_put rl' rl]
    by_cases e : q = 100 + x
    · rw [if_pos e]
    · rw [if_neg e]
      rcases hus q hs with e2 | e2
      · exact absurd e2 e
      · exact h.l1 q hq e2
  · rw [vlk_put rl' rl]
    by_cases e : q = 100 + x
    · rw [e] at hs; exact absurd hus1 hs
    · rw [if_neg e]
      exact h.l0 q hq (fun e2 => hs (hus2 q hq e2))
  · rw [vlk_put rp' rp, hup]
    by_cases e : i = m
    · have e2 : (i : Int) = (m : Int) := by omega
      rw [if_pos e2, if_pos e, if_neg (by omega)]
    · have e2 : ¬ (i : Int) = (m : Int) := by omega
      rw [if_neg e2, if_neg e]
      exact h.p i hi
  · rw [vlk_put ru' ru]
    by_cases e : y = x
    · rw [if_pos e]; rfl
    · rw [if_neg e]
      rcases hus _ hs with e2 | e2
      · omega
      · exact h.u1 y hy e2
  · rw [vlk_put ru' ru]
    by_cases e : y = x
    · rw [e] at hs; exact absurd hus1 hs
    · rw [if_neg e]
      exact h.u0 y hy (fun e2 => hs (hus2 _ (by omega) e2))
  · have hn : vlk lp (m : Int) = none := by rw [h.p m hm, if_pos hm0]
    rw [len_put_new hn, cnt_up_new hm0 (by omega) 64 hm, h.cn]
  · have := len_put_le l (100 + x, EV); have := h.nl; omega
  · have := len_put_le lp ((m : Int), .int .i64 (100 + x)); have := h.np; omega
  · have := len_put_le lu (x, .bool true); have := h.nu; omega
theorem LP.del {k : Nat} {s : Nat → Int} {l lp lu : List Vn} (h : LP k s l lp lu) {i : Nat} (hi : i < 64) (hi0 : s i ≠ 0)
    (rl : VRise l) (rp : VRise lp) (ru : VRise lu) (ru' : VRise (vput lu (s i - 100, .bool false))) :
    LP (k + 1) (upS s i 0) (vdel l (s i)) (vdel lp (i : Int)) (vput lu (s i - 100, .bool false)) := by
  have hup : ∀ j, upS s i 0 j = if j = i then 0 else s j := fun j => rfl
  have hus : ∀ q, q ≠ 0 → Us (upS s i 0) q → q ≠ s i ∧ Us s q := by
    rintro q hq ⟨j, hj, e⟩
    rw [hup] at e
    by_cases hj2 : j = i
    · rw [if_pos hj2] at e; exact absurd e.symm hq
    · rw [if_neg hj2] at e
      refine ⟨fun e2 => hj2 (h.inj j i hj hi (by rw [e]; exact hq) (e.trans e2)), j, hj, e⟩
  have hus2 : ∀ q, q ≠ s i → Us s q → Us (upS s i 0) q := by
    rintro q hq ⟨j, hj, e⟩
    have : j ≠ i := by rintro rfl; exact hq e.symm
    exact ⟨j, hj, by rw [upS_other this]; exact e⟩
  have hrg := h.rg i
  refine ⟨fun j => ?_, fun a b ha hb h0 e => ?_, fun q hq hs => ?_, fun q hq hs => ?_, fun j hj => ?_, fun y hy hs => ?_, fun y hy hs => ?_, ?_, ?_, ?_, ?_⟩
  · rw [hup]
    split
    · left; rfl
    · exact h.rg j
  · rw [hup] at h0 e
    rw [hup] at e
    by_cases ha2 : a = i
    · rw [if_pos ha2] at h0; exact absurd rfl h0
    · rw [if_neg ha2] at h0 e
      by_cases hb2 : b = i
      · rw [if_pos hb2] at e; exact absurd e h0
      · rw [if_neg hb2] at e
        exact h.inj a b ha hb h0 e
  · obtain ⟨a, b⟩ := hus q hq hs
    rw [vlk_del rl, if_neg a]
    exact h.l1 q hq b
  · rw [vlk_del rl]
    by_cases e : q = s i
    · rw [if_pos e]
    · rw [if_neg e]
      exact h.l0 q hq (fun e2 => hs (hus2 q e e2))
  · rw [vlk_del rp, hup]
    by_cases e : j = i
    · have e2 : (j : Int) = (i : Int) := by omega
      rw [if_pos e2, if_pos e, if_pos rfl]
    · have e2 : ¬ (j : Int) = (i : Int) := by omega
      rw [if_neg e2, if_neg e]
      exact h.p j hj
  · obtain ⟨a, b⟩ := hus _ (by omega) hs
    rw [vlk_put ru' ru, if_neg (by omega)]
    exact h.u1 y hy b
  · rw [vlk_put ru' ru]
    by_cases e : y = s i - 100
    · rw [if_pos e]; rfl
    · rw [if_neg e]
      exact h.u0 y hy (fun e2 => hs (hus2 _ (by omega) e2))
  · have hn : vlk lp (i : Int) = some (.int .i64 (s i)) := by rw [h.p i hi, if_neg hi0]
    have := len_del_some rp hn
    have := cnt_up_del hi0 64 hi
    have := h.cn
    omega
  · have := len_del_le l (s i); have := h.nl; omega
  · have := len_del_le lp (i : Int); have := h.np; omega
  · have := len_put_le lu (s i - 100, .bool false); have := h.nu; omega
theorem LP.free {k : Nat} {s : Nat → Int} {l lp lu : List Vn} (h : LP k s l lp lu) (hk : k < 64) : ∃ m, m < 64 ∧ s m = 0 ∧ ∀ i, i < m → s i ≠ 0 :=
  least_free 64 (by have := h.cn; have := h.np; omega)
end Go.Proofs.YthbpapgfjmpgaaaGreat
