/- RecvqStream: the calls in the law's words. -/
import Derived.Test.YtiglaalppaljbaaVn
import Derived.Test.YtiglaalppaljbaaFlat
namespace Go.Proofs.Ytiglaalppaljbaa
open Go.RowKit Go.Maps Go.Lib
set_option maxRecDepth 100000
set_option linter.unusedVariables false
set_option linter.unusedSimpArgs false

def gArr (G : Nat → Bool) : Array Value := ((List.range 301).map fun k => Value.bool (G k)).toArray
theorem gArr_at (G : Nat → Bool) {k : Nat} (hk : k < 301) : (gArr G)[k]? = some (.bool (G k)) := by
  unfold gArr
  rw [List.getElem?_toArray, List.getElem?_map, List.getElem?_range hk]
  rfl
theorem gArr_size (G : Nat → Bool) : (gArr G).size = 301 := by simp [gArr]
theorem gArr_set (G : Nat → Bool) (k : Nat) : (gArr G).setIfInBounds k (.bool true) = gArr (fun t => G t || t == k) := by
  apply Array.ext_getElem?
  intro t
  rw [Array.getElem?_setIfInBounds, gArr_size]
  by_cases ht : t < 301
  · rw [gArr_at _ ht, gArr_at _ ht]
    by_cases e : k = t
    · subst e; simp [ht]
    · rw [if_neg e]; simp [Ne.symm e]
  · by_cases e : k = t
    · subst e
      rw [if_pos rfl, if_neg ht, Array.getElem?_eq_none (by rw [gArr_size]; omega)]
    · rw [if_neg e, Array.getElem?_eq_none (by rw [gArr_size]; omega), Array.getElem?_eq_none (by rw [gArr_size]; omega)]
theorem gArr_eq {G G' : Nat → Bool} (h : ∀ k, k < 301 → G k = G' k) : gArr G = gArr G' := by
  apply Array.ext_getElem?
  intro t
  by_cases ht : t < 301
  · rw [gArr_at _ ht, gArr_at _ ht, h t ht]
  · rw [Array.getElem?_eq_none (by rw [gArr_size]; omega), Array.getElem?_eq_none (by rw [gArr_size]; omega)]

/-- A queue whose blocks lie from base on, and g is none of them. -/
structure HG (w : World) (base g q : Nat) (Q : Rq) : Prop where
  x : ∃ A, QX w A q Q ∧ ∀ k, A k → base ≤ k ∧ k ≠ g
  f : Q.Fine
theorem HG.later {w w' : World} {base g q : Nat} {Q : Rq} (h : HG w base g q Q) (hb : Below w.heap.size w w') : HG w' base g q Q := by
  obtain ⟨⟨A, hX, hA⟩, hf⟩ := h
  exact ⟨⟨A, hX.later hb, hA⟩, hf⟩
theorem HG.hq {w : World} {base g q : Nat} {Q : Rq} (h : HG w base g q Q) : HQ w base q Q := by
  obtain ⟨⟨A, hX, hA⟩, hf⟩ := h
  exact ⟨⟨A, hX, fun k hk => (hA k hk).1⟩, hf⟩
theorem HG.turn {w w' : World} {base g q : Nat} {Q : Rq} (h : HG w base g q Q) (ht : Turn (fun k => k = g) w w') : HG w' base g q Q := by
  obtain ⟨⟨A, hX, hA⟩, hf⟩ := h
  exact ⟨⟨A, hX.turn ht (fun k e hk => (hA k hk).2 e), hA⟩, hf⟩
theorem HQ.hg {w : World} {base q : Nat} {Q : Rq} (h : HQ w base q Q) (vs : Array Value) (t : TypeId) : HG (w.alloc (.cells vs t)) base w.heap.size q Q := by
  obtain ⟨⟨A, hX, hA⟩, hf⟩ := h
  exact ⟨⟨A, hX.later (bel1 w _), fun k hk => ⟨hA k hk, fun e => by have := hX.lw k hk; omega⟩⟩, hf⟩
theorem ext_piece (s : ByteArray) (a e : Nat) : (s.extract a e).data.toList = (s.data.toList.take e).drop a := by
  rw [strB_extract, List.drop_take]
  rfl
theorem st_put {w : World} {base g q : Nat} {s : ByteArray} {fi : Int} {C : Nat → Bool} {p r a e : Nat} (h : HG w base g q (tQ s.data.toList fi C p r)) (si : SI s.data.toList C p r) (f0 : 0 ≤ fi) (f1 : fi ≤ 4294967295) (hN : s.data.toList.length ≤ 300) (hae : a ≤ e) (he : e ≤ s.data.toList.length) (hbase : base ≤ w.heap.size) (hg : g < w.heap.size) :
    Calls Try.prog 13 #[PQ q, .int .i64 ((fi + (a : Int)) % 4294967296), .string (s.extract a e)] w fun z w' => ∃ m : Nat, z = .returned (.tuple #[.int .i64 (m : Int), .int .i64 0]) ∧ HG w' base g q (tQ s.data.toList fi (cNew C a e (p + (100 - (p - r)))) (p + m) r) ∧ SI s.data.toList (cNew C a e (p + (100 - (p - r)))) (p + m) r ∧ (∀ j, p ≤ j → j < p + m → cNew C a e (p + (100 - (p - r))) j = true) ∧ Below base w w' ∧ (∀ vs, At w g vs → At w' g vs) := by
  obtain ⟨⟨A, hX, hA⟩, hf⟩ := h
  have hsz : (s.extract a e).size ≤ 65536 := by
    have := Array.length_toList (xs := (s.extract a e).data)
    rw [ext_piece, List.length_drop, List.length_take] at this
    show (s.extract a e).data.size ≤ 65536
    omega
  refine (put_ok hX hf _ (s.extract a e) hsz (by omega) (by omega)).mono ?_
  rintro z w' ⟨L, A', rfl, hL, hX', hf', ht, hgr⟩
  rw [ext_piece, st_putA si f0 f1 hN hae he] at hL hX' hf'
  obtain ⟨h1, h2, h3⟩ := st_run (fi := fi) si (C' := cNew C a e (p + (100 - (p - r)))) (fun j hj => by unfold cNew; rw [hj]; rfl) (fun j hj => by
    unfold cNew at hj
    rcases Bool.or_eq_true_iff.1 hj with h | h
    · exact si.hi j h
    · simp at h; omega) hL hf'
  rw [h1] at hX' hf'
  exact ⟨L.length, rfl, ⟨⟨A', hX', fun k hk => by
    rcases hgr k hk with h | h
    · exact hA k h
    · exact ⟨by omega, by omega⟩⟩, hf'⟩, h2, h3, below_of_turn ht hbase (fun k hk => (hA k hk).1), fun vs hv => hv.turn ht (fun e => (hA g e).2 rfl)⟩
theorem st_read {w : World} {base g q : Nat} {T : List UInt8} {fi : Int} {C : Nat → Bool} {p r : Nat} (h : HG w base g q (tQ T fi C p r)) (si : SI T C p r) (hbase : base ≤ w.heap.size) (most : Int) :
    Calls Try.prog 24 #[PQ q, .int .i64 most] w fun z w' => ∃ (n : Nat) (rs : ByteArray), z = .returned (.string rs) ∧ n = (max (min most ((p - r : Nat) : Int)) 0).toNat ∧ HG w' base g q (tQ T fi C p (r + n)) ∧ SI T C p (r + n) ∧ strB (T.take r) ++ rs = strB (T.take (r + n)) ∧ rs.size = n ∧ Below base w w' ∧ (∀ vs, At w g vs → At w' g vs) := by
  obtain ⟨⟨A, hX, hA⟩, hf⟩ := h
  have hbl := tQ_len (fi := fi) si
  have hrn : readN (tQ T fi C p r) most = (max (min most ((p - r : Nat) : Int)) 0).toNat := by unfold readN; rw [hbl]
  have hle : readN (tQ T fi C p r) most ≤ p - r := by rw [← hbl]; exact readN_le _ _
  obtain ⟨h1, h2, h3⟩ := st_readQ (fi := fi) si hle
  refine (read_any hX hf most).mono ?_
  rintro z w' ⟨rfl, hX', ht⟩
  have hf' := readQ_fine hf (readN (tQ T fi C p r) most)
  rw [h1] at hX' hf'
  refine ⟨_, _, rfl, hrn, ⟨⟨A, hX', hA⟩, hf'⟩, h2, ?_, ?_, below_of_turn ht hbase (fun k hk => (hA k hk).1), fun vs hv => hv.turn ht (fun e => (hA g e).2 rfl)⟩
  · rw [← h3]
    apply ByteArray.ext
    simp [strB, ByteArray.data_append]
  · rw [strB_size, List.length_take, hbl]
    omega
theorem dists {a b : Int} (ha : 0 ≤ a ∧ a ≤ 4294967295) (hb : 0 ≤ b ∧ b ≤ 4294967295) (w : World) : Calls Try.prog 22 #[.int .i64 a, .int .i64 b] w fun e w' => e = .returned (.tuple #[.int .i64 ((b - a) % 4294967296), .int .i64 0]) ∧ w' = w := by
  have h := dist_any a b w
  rw [distV, show numB a = true from decide_eq_true ha, show numB b = true from decide_eq_true hb] at h
  exact h
theorem cNew_step {C : Nat → Bool} {a j lim : Nat} (hj : a ≤ j) (hl : j < lim) : ∀ t, (cNew C a j lim t || t == j) = cNew C a (j + 1) lim t := by
  intro t
  unfold cNew
  by_cases h : t = j
  · subst h; simp [hj, hl]
  · have : (t == j) = false := by simpa using h
    rw [this, Bool.or_false]
    have h1 : (decide (t < j)) = decide (t < j + 1) := by
      by_cases h2 : t < j
      · rw [decide_eq_true h2, decide_eq_true (by omega)]
      · rw [decide_eq_false h2, decide_eq_false (by omega)]
    rw [h1]
theorem cNew_end {C : Nat → Bool} {a e j lim : Nat} (hj : j ≤ e) (hl : lim ≤ j) : ∀ t, cNew C a j lim t = cNew C a e lim t := by
  intro t
  unfold cNew
  by_cases h : t < lim
  · rw [decide_eq_true (show t < j by omega), decide_eq_true (show t < e by omega)]
  · rw [decide_eq_false h]; simp
theorem cNew_start {C : Nat → Bool} {a lim : Nat} : ∀ t, cNew C a a lim t = C t := by
  intro t
  unfold cNew
  by_cases h : a ≤ t
  · rw [decide_eq_false (show ¬ t < a by omega)]; simp
  · rw [decide_eq_false h]; simp
theorem si_zero (T : List UInt8) : SI T (fun _ => false) 0 0 := ⟨Nat.le_refl _, Nat.zero_le _, fun j hj => absurd hj (Nat.not_lt_zero _), rfl, (fun j h => by cases h), by omega⟩
theorem tQ_zero (T : List UInt8) {fi : Int} (f0 : 0 ≤ fi) (f1 : fi ≤ 4294967295) : tQ T fi (fun _ => false) 0 0 = emptyQ 100 fi := by
  unfold tQ emptyQ
  have : (fi + ((0 : Nat) : Int)) % 4294967296 = fi := by omega
  rw [this]
  simp
theorem zeroG (w : World) : (zeroValue 49).run Try.prog w = .ok (.agg (gArr fun _ => false)) w := by kernel_rfl
end Go.Proofs.Ytiglaalppaljbaa
