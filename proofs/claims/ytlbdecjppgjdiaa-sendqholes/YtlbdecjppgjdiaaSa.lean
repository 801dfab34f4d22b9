/- Plain facts of holes; SendqHoles in plain words. -/
import Derived.Test.YtlbdecjppgjdiaaRd
import Derived.Test.YtlbdecjppgjdiaaQj
namespace Go.Proofs.Ytlbdecjppgjdiaa
open Go.RowKit Go.Maps Go.Lib
set_option maxRecDepth 100000
set_option linter.unusedVariables false
set_option linter.unusedSimpArgs false


theorem hole_facts {Q : Qu} (hf : Q.Fine) : (∀ k, k < (holeL Q).1 → inP Q.ps k) ∧ (∀ k, (holeL Q).1 ≤ k → k < (holeL Q).2 → ¬ inP Q.ps k) ∧ ((holeL Q).2 < Q.sent → inP Q.ps (holeL Q).2) ∧ ((holeL Q).1 = (holeL Q).2 → (holeL Q).1 = Q.sent) := by
  obtain ⟨room, left, sent, bs, ps⟩ := Q
  have hok := hf.ok
  dsimp only at hok
  match ps, hok with
  | [], _ => exact ⟨fun k hk => absurd hk (Nat.not_lt_zero _), fun k _ _ ⟨e, he, _⟩ => by simp at he, fun h => absurd h (Nat.lt_irrefl _), fun h => h⟩
  | x :: r, hok =>
    have hx := hok.2 x (List.mem_cons_self ..)
    have hpw := List.pairwise_cons.1 hok.1
    by_cases hx0 : x.1 = 0
    · match r, hok, hpw with
      | [], hok, hpw =>
        simp only [holeL, hx0, if_true]
        refine ⟨fun k hk => ⟨x, by simp, by omega, hk⟩, fun k h1 h2 ⟨e, he, h3⟩ => ?_, fun h => absurd h (Nat.lt_irrefl _), fun h => h⟩
        obtain rfl := List.mem_singleton.1 he
        omega
      | y :: r', hok, hpw =>
        have hxy := hpw.1 y (by simp)
        have hy := hok.2 y (by simp)
        have hyr := List.pairwise_cons.1 hpw.2
        simp only [holeL, hx0, if_true]
        refine ⟨fun k hk => ⟨x, by simp, by omega, hk⟩, fun k h1 h2 ⟨e, he, h3⟩ => ?_, fun h => ⟨y, by simp, Nat.le_refl _, hy.1⟩, fun h => by omega⟩
        rcases List.mem_cons.1 he with rfl | he
        · omega
        · rcases List.mem_cons.1 he with rfl | he
          · omega
          · have := hyr.1 e he
            omega
    · simp only [holeL, hx0, if_false]
      refine ⟨fun k hk => absurd hk (Nat.not_lt_zero _), fun k h1 h2 ⟨e, he, h3⟩ => ?_, fun h => ⟨x, by simp, Nat.le_refl _, hx.1⟩, fun h => absurd h.symm hx0⟩
      rcases List.mem_cons.1 he with rfl | he
      · omega
      · have := hpw.1 e he
        omega
theorem all_one {N : Nat} {L : List Pt} (h : PsOk N L) (hN : 0 < N) (ha : ∀ k, k < N → inP L k) : sumP L = N := by
  match L, h with
  | [], _ =>
    obtain ⟨e, he, _⟩ := ha 0 hN
    cases he
  | x :: r, h =>
    have hx := h.2 x (List.mem_cons_self ..)
    have hpw := List.pairwise_cons.1 h.1
    have hx0 : x.1 = 0 := by
      obtain ⟨e, he, h1, _⟩ := ha 0 hN
      rcases List.mem_cons.1 he with rfl | he
      · omega
      · have := hpw.1 e he
        omega
    have hx1 : x.2 = N := by
      rcases Nat.lt_or_ge x.2 N with h2 | h2
      · obtain ⟨e, he, h3, h4⟩ := ha x.2 h2
        rcases List.mem_cons.1 he with rfl | he
        · omega
        · have := hpw.1 e he
          omega
      · omega
    have hr : r = [] := by
      match r, hpw, h with
      | [], _, _ => rfl
      | y :: _, hpw, h =>
        have h1 := hpw.1 y (by simp)
        have h2 := h.2 y (by simp)
        omega
    subst hr
    simp [sumP, hx0, hx1]
/-- The bytes that are written. -/
def T100 : List UInt8 := (List.range 100).map UInt8.ofNat
theorem T100_len : T100.length = 100 := by simp [T100]
theorem T100_at {k : Nat} (hk : k < 100) : T100[k]? = some (UInt8.ofNat k) := by
  unfold T100
  rw [List.getElem?_map, List.getElem?_range hk]
  rfl
abbrev QH (fi : Int) (L : List Pt) : Qu := ⟨200, fi, 100, T100, L⟩
theorem qh_fine {fi : Int} {L : List Pt} (h0 : 0 ≤ fi ∧ fi ≤ 4294967295) (h : PsOk 100 L) : (QH fi L).Fine := ⟨by show (1 : Int) ≤ 200; decide, by show (200 : Int) ≤ 65536; decide, h0.1, h0.2, by show (T100.length : Int) ≤ 200; rw [T100_len]; decide, by show 100 ≤ T100.length; rw [T100_len]; exact Nat.le_refl _, h⟩
/-- The array got. -/
def gArr (G : Nat → Bool) : Array Value := ((List.range 100).map fun k => Value.bool (G k)).toArray
theorem gArr_at (G : Nat → Bool) {k : Nat} (hk : k < 100) : (gArr G)[k]? = some (.bool (G k)) := by
  unfold gArr
  rw [List.getElem?_toArray, List.getElem?_map, List.getElem?_range hk]
  rfl
theorem gArr_size (G : Nat → Bool) : (gArr G).size = 100 := by simp [gArr]
theorem gArr_set (G : Nat → Bool) (k : Nat) : (gArr G).setIfInBounds k (.bool true) = gArr (fun t => G t || t == k) := by
  apply Array.ext_getElem?
  intro t
  rw [Array.getElem?_setIfInBounds, gArr_size]
  by_cases ht : t < 100
  · rw [gArr_at _ ht, gArr_at _ ht]
    by_cases e : k = t
    · subst e; simp [ht]
    · rw [if_neg e]; simp [Ne.symm e]
  · by_cases e : k = t
    · subst e
      rw [if_pos rfl, if_neg ht, Array.getElem?_eq_none (by rw [gArr_size]; omega)]
    · rw [if_neg e, Array.getElem?_eq_none (by rw [gArr_size]; omega), Array.getElem?_eq_none (by rw [gArr_size]; omega)]
theorem gArr_eq {G G' : Nat → Bool} (h : ∀ k, k < 100 → G k = G' k) : gArr G = gArr G' := by
  apply Array.ext_getElem?
  intro t
  by_cases ht : t < 100
  · rw [gArr_at _ ht, gArr_at _ ht, h t ht]
  · rw [Array.getElem?_eq_none (by rw [gArr_size]; omega), Array.getElem?_eq_none (by rw [gArr_size]; omega)]
/-- The law's state: the queue and the array say the same. -/
structure HX (w : World) (R q gB : Nat) (fi : Int) (G : Nat → Bool) (L : List Pt) (vb vp : Value) : Prop where
  x : QX w R q (QH fi L) vb vp
  ok : PsOk 100 L
  g : At w gB (gArr G)
  kg : Kd w gB 58
  ge : R ≤ gB
  eq : ∀ k, k < 100 → (G k = true ↔ inP L k)
theorem HX.later {w w' : World} {R q gB : Nat} {fi : Int} {G : Nat → Bool} {L : List Pt} {vb vp : Value} (h : HX w R q gB fi G L vb vp) (hb : Below w.heap.size w w') : HX w' R q gB fi G L vb vp := ⟨h.x.later hb, h.ok, h.g.later hb, h.kg.later hb, h.ge, h.eq⟩
theorem off_at {fi : Int} {L : List Pt} {a : Nat} (ha : a ≤ 100) (h0 : 0 ≤ fi ∧ fi ≤ 4294967295) : placeB (QH fi L) ((fi + (a : Int)) % 4294967296) = true ∧ offN (QH fi L) ((fi + (a : Int)) % 4294967296) = a := by
  have e : offN (QH fi L) ((fi + (a : Int)) % 4294967296) = a := by
    show (((fi + (a : Int)) % 4294967296 - fi) % 4294967296).toNat = a
    omega
  refine ⟨?_, e⟩
  unfold placeB
  rw [Bool.and_eq_true, decide_eq_true_eq, offN_is, e]
  exact ⟨decide_eq_true (by omega), by show (a : Int) ≤ ((100 : Nat) : Int); omega⟩
/-- Apart of the range from a to b. -/
theorem hx_apart {w : World} {R q gB : Nat} {fi : Int} {G : Nat → Bool} {L : List Pt} {vb vp v : Value} (h : HX w R q gB fi G L vb vp) (h0 : 0 ≤ fi ∧ fi ≤ 4294967295) (hR : R ≤ w.heap.size) (a b : Nat) (ha : a ≤ 100) (hb : b ≤ 100) (hr : RR w v [((fi + (a : Int)) % 4294967296, (fi + (b : Int)) % 4294967296)]) :
    Calls Try.prog 23 #[PQ q, v] w fun e w' => ∃ n L' vp', e = .returned (.int .i64 n) ∧ (∀ G', (∀ k, k < 100 → (G' k = (G k || (decide (a ≤ k) && decide (k < b))))) → ∀ w2, TY [58] R w' w2 → At w2 gB (gArr G') → Kd w2 gB 58 → HX w2 R q gB fi G' L' vb vp') ∧ At w' gB (gArr G) ∧ Kd w' gB 58 ∧ TK R w w' := by
  have hf := qh_fine h0 h.ok
  refine (apart_any h.x hf hR hr (by simp)).mono ?_
  rintro e w' ⟨L', vp', rfl, hAI, hX', ht⟩
  refine ⟨_, L', vp', rfl, fun G' hG w2 ht2 hA2 hK2 => ?_, ht.at h.g h.kg (by decide), h.kg.turn ht (Or.inl (by decide)), ht⟩
  refine ⟨hX'.keep ht2 (by decide) (by decide) (by decide), hAI.1, hA2, hK2, h.ge, fun k hk => ?_⟩
  · rw [hG k hk, hAI.2 k, Bool.or_eq_true, Bool.and_eq_true, decide_eq_true_eq, decide_eq_true_eq, h.eq k hk]
    constructor
    · rintro (h1 | h1)
      · exact Or.inl h1
      · refine Or.inr ⟨_, List.mem_singleton.2 rfl, (off_at ha h0).1, (off_at hb h0).1, ?_⟩
        dsimp only
        rw [(off_at ha h0).2, (off_at hb h0).2]
        exact h1
    · rintro (h1 | ⟨r, hr, h1⟩)
      · exact Or.inl h1
      · obtain rfl := List.mem_singleton.1 hr
        have h2 := h1.2.2
        dsimp only at h2
        rw [(off_at ha h0).2, (off_at hb h0).2] at h2
        exact Or.inr h2
theorem hx_apart2 {w : World} {R q gB : Nat} {fi : Int} {G G' : Nat → Bool} {L : List Pt} {vb vp v : Value} (hx : QX w R q (QH fi L) vb vp) (hok : PsOk 100 L) (heq : ∀ k, k < 100 → (G k = true ↔ inP L k)) (h0 : 0 ≤ fi ∧ fi ≤ 4294967295) (hR : R ≤ w.heap.size) (a b : Nat) (ha : a ≤ 100) (hb : b ≤ 100) (hr : RR w v [((fi + (a : Int)) % 4294967296, (fi + (b : Int)) % 4294967296)]) (hA : At w gB (gArr G')) (hK : Kd w gB 58) (hge : R ≤ gB) (hG : ∀ k, k < 100 → (G' k = (G k || (decide (a ≤ k) && decide (k < b))))) :
    Calls Try.prog 23 #[PQ q, v] w fun e w' => ∃ n L' vp', e = .returned (.int .i64 n) ∧ HX w' R q gB fi G' L' vb vp' ∧ (∀ k, inP L' k ↔ inP L k ∨ a ≤ k ∧ k < b) ∧ TK R w w' := by
  have hf := qh_fine h0 hok
  refine (apart_any hx hf hR hr (by simp)).mono ?_
  rintro e w' ⟨L', vp', rfl, hAI, hX', ht⟩
  have hin : ∀ k, inP L' k ↔ inP L k ∨ a ≤ k ∧ k < b := by
    intro k
    rw [hAI.2 k]
    constructor
    · rintro (h1 | ⟨r, hr, h1⟩)
      · exact Or.inl h1
      · obtain rfl := List.mem_singleton.1 hr
        have h2 := h1.2.2
        dsimp only at h2
        rw [(off_at ha h0).2, (off_at hb h0).2] at h2
        exact Or.inr h2
    · rintro (h1 | h1)
      · exact Or.inl h1
      · refine Or.inr ⟨_, List.mem_singleton.2 rfl, (off_at ha h0).1, (off_at hb h0).1, ?_⟩
        dsimp only
        rw [(off_at ha h0).2, (off_at hb h0).2]
        exact h1
  refine ⟨_, L', vp', rfl, ⟨hX', hAI.1, ht.at hA hK (by decide), hK.turn ht (Or.inl (by decide)), hge, fun k hk => ?_⟩, hin, ht⟩
  rw [hG k hk, hin k, Bool.or_eq_true, Bool.and_eq_true, decide_eq_true_eq, decide_eq_true_eq, heq k hk]
end Go.Proofs.Ytlbdecjppgjdiaa
