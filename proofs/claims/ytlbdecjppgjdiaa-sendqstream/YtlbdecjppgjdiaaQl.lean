/- SendqStream: the queue in its words. -/
import Derived.Test.YtlbdecjppgjdiaaQj
namespace Go.Proofs.Ytlbdecjppgjdiaa
open Go.RowKit Go.Maps Go.Lib
set_option maxRecDepth 100000
set_option linter.unusedVariables false
set_option linter.unusedSimpArgs false


theorem mod_rng2 (a : Int) : 0 ≤ a % 4294967296 ∧ a % 4294967296 ≤ 4294967295 := by omega
/-- The queue: W was written, S of these bytes were sent, A acknowledged. -/
abbrev Qs (first : Int) (W : List UInt8) (S A : Nat) : Qu := ⟨1000, (first + (A : Int)) % 4294967296, S - A, W.drop A, []⟩
structure SS (W : List UInt8) (S A : Nat) : Prop where
  a : A ≤ S
  s : S ≤ W.length
  w : W.length - A ≤ 1000
theorem SS.fine {W : List UInt8} {S A : Nat} (h : SS W S A) (first : Int) : (Qs first W S A).Fine := by
  have h1 := h.a
  have h2 := h.s
  have h3 := h.w
  exact ⟨by show (1 : Int) ≤ 1000; decide, by show (1000 : Int) ≤ 65536; decide, (mod_rng2 _).1, (mod_rng2 _).2, by show ((W.drop A).length : Int) ≤ 1000; rw [List.length_drop]; omega, by show S - A ≤ (W.drop A).length; rw [List.length_drop]; omega, List.Pairwise.nil, fun e he => by cases he⟩
theorem st_write {w : World} {R q : Nat} {first : Int} {W : List UInt8} {S A : Nat} {vb vp : Value} (h : QX w R q (Qs first W S A) vb vp) (hs : SS W S A) (hR : R ≤ w.heap.size) (t : ByteArray) (ht : t.size ≤ 500) :
    Calls Try.prog 13 #[PQ q, .string t] w fun e w' => ∃ (n : Nat) (c : Int), e = .returned (.tuple #[.int .i64 (n : Int), .int .i64 c]) ∧ (∃ vb', QX w' R q (Qs first (W ++ t.data.toList.take n) S A) vb' vp) ∧ TK R w w' ∧ SS (W ++ t.data.toList.take n) S A ∧ n ≤ t.size ∧ ((c = 0 ∧ n = t.size) ∨ (c = 0 ∧ n < t.size ∧ W.length - A + n = 1000) ∨ (c = 150 ∧ n = 0 ∧ 0 < t.size ∧ W.length - A = 1000)) := by
  have hf := hs.fine first
  have h1 := hs.a
  have h2 := hs.s
  have h3 := hs.w
  have htl : t.data.toList.length = t.size := Array.length_toList
  have hbl : (Qs first W S A).bs.length = W.length - A := by show (W.drop A).length = _; rw [List.length_drop]
  cases hfu : fullB (Qs first W S A) t with
  | true =>
    refine (write_full h hf t hfu).mono ?_
    rintro e w' ⟨rfl, hb⟩
    unfold fullB at hfu
    rw [Bool.and_eq_true, decide_eq_true_eq, decide_eq_true_eq, hbl] at hfu
    have hfu1 : (1000 : Int) - ((W.length - A : Nat) : Int) = 0 := hfu.1
    refine ⟨0, 150, rfl, ⟨vb, ?_⟩, TY.of_below hb, ?_, Nat.zero_le _, Or.inr (Or.inr ⟨rfl, rfl, by have := hfu.2; omega, by omega⟩)⟩
    · rw [List.take_zero, List.append_nil]; exact h.later hb
    · rw [List.take_zero, List.append_nil]; exact hs
  | false =>
    refine (write_t h hf hR t (by omega) hfu).mono ?_
    rintro e w' ⟨rfl, ⟨vb', hX⟩, ht'⟩
    have hn : wrN (Qs first W S A) t = min t.size (1000 - (W.length - A)) := by unfold wrN; rw [hbl]; rfl
    unfold fullB at hfu
    rw [hbl] at hfu
    have hfu' : ¬ ((1000 : Int) - ((W.length - A : Nat) : Int) = 0 ∧ t.size ≠ 0) := by
      intro ⟨a, b⟩
      have : (decide ((1000 : Int) - ((W.length - A : Nat) : Int) = 0) && decide (t.size ≠ 0)) = true := by rw [Bool.and_eq_true, decide_eq_true_eq, decide_eq_true_eq]; exact ⟨a, b⟩
      rw [show (decide ((1000 : Int) - ((W.length - A : Nat) : Int) = 0) && decide (t.size ≠ 0)) = false from hfu] at this
      cases this
    refine ⟨wrN (Qs first W S A) t, 0, rfl, ⟨vb', hX.eq ?_⟩, ht', ?_, by rw [hn]; omega, ?_⟩
    · unfold wrQ
      show (⟨_, _, _, W.drop A ++ _, _⟩ : Qu) = ⟨_, _, _, (W ++ _).drop A, _⟩
      rw [List.drop_append_of_le_length (by omega)]
    · refine ⟨h1, by rw [List.length_append]; omega, ?_⟩
      rw [List.length_append, List.length_take, hn]
      omega
    · rw [hn]
      by_cases hlt : t.size ≤ 1000 - (W.length - A)
      · exact Or.inl ⟨rfl, by omega⟩
      · exact Or.inr (Or.inl ⟨rfl, by omega, by omega⟩)
theorem st_next {w : World} {R q : Nat} {first : Int} {W : List UInt8} {S A : Nat} {vb vp : Value} (h : QX w R q (Qs first W S A) vb vp) (hs : SS W S A) (wi m : Int) (w0 : 0 ≤ wi) (w1 : wi < 600) (m0 : 1 ≤ m) (m1 : m ≤ 100) :
    Calls Try.prog 18 #[PQ q, .int .i64 wi, .int .i64 m] w fun e w' => ∃ k : Nat, e = .returned (.tuple #[.int .i64 ((first + (S : Int)) % 4294967296), .string (strB ((W.drop S).take k))]) ∧ QX w' R q (Qs first W (S + k) A) vb vp ∧ TK R w w' ∧ S + k ≤ W.length ∧ (0 < k → ((S - A + k : Nat) : Int) ≤ wi) := by
  have hf := hs.fine first
  have h1 := hs.a
  have h2 := hs.s
  have h3 := hs.w
  refine (next_any h hf wi m (by omega) (by omega)).mono ?_
  rintro e w' ⟨rfl, hX, ht⟩
  have hk : sndN (Qs first W S A) (min (max wi 0 - ((S - A : Nat) : Int)) m) = (max (min ((W.length - A : Nat) : Int) wi |> fun x => min (x - ((S - A : Nat) : Int)) m) 0).toNat := by
    show (max (min (((W.drop A).length : Int) - ((S - A : Nat) : Int)) (min (max wi 0 - ((S - A : Nat) : Int)) m)) 0).toNat = _
    rw [List.length_drop]
    dsimp only
    omega
  dsimp only at hk
  have hle : S + sndN (Qs first W S A) (min (max wi 0 - ((S - A : Nat) : Int)) m) ≤ W.length := by omega
  refine ⟨sndN (Qs first W S A) (min (max wi 0 - ((S - A : Nat) : Int)) m), ?_, hX.eq ?_, ht, hle, by omega⟩
  · have e1 : nxA (Qs first W S A) = (first + (S : Int)) % 4294967296 := by
      show ((first + (A : Int)) % 4294967296 + ((S - A : Nat) : Int)) % 4294967296 = _
      omega
    have e2 : sndS (Qs first W S A) (min (max wi 0 - ((S - A : Nat) : Int)) m) = (W.drop S).take (sndN (Qs first W S A) (min (max wi 0 - ((S - A : Nat) : Int)) m)) := by
      show ((W.drop A).drop (S - A)).take _ = _
      rw [List.drop_drop, Nat.add_sub_cancel' h1]
    rw [e1]
    show Ending.returned (Value.tuple #[_, .string (strB (sndS (Qs first W S A) (min (max wi 0 - ((S - A : Nat) : Int)) m)))]) = _
    rw [e2]
  · show (⟨_, _, (S - A) + sndN (Qs first W S A) (min (max wi 0 - ((S - A : Nat) : Int)) m), _, _⟩ : Qu) = ⟨_, _, _ - A, _, _⟩
    rw [Nat.sub_add_comm h1]
theorem st_ack {w : World} {R q : Nat} {first : Int} {W : List UInt8} {S A : Nat} {vb vp : Value} (h : QX w R q (Qs first W S A) vb vp) (hs : SS W S A) (k : Nat) (hk : A + k ≤ S) :
    Calls Try.prog 20 #[PQ q, .int .i64 ((first + ((A + k : Nat) : Int)) % 4294967296)] w fun e w' => e = .returned (.tuple #[.int .i64 (k : Int), .int .i64 0]) ∧ (∃ vb' vp', QX w' R q (Qs first W S (A + k)) vb' vp') ∧ TK R w w' ∧ SS W S (A + k) := by
  have hf := hs.fine first
  have h1 := hs.a
  have h2 := hs.s
  have h3 := hs.w
  have eo : offN (Qs first W S A) ((first + ((A + k : Nat) : Int)) % 4294967296) = k := by
    show (((first + ((A + k : Nat) : Int)) % 4294967296 - (first + (A : Int)) % 4294967296) % 4294967296).toNat = k
    omega
  have hp : placeB (Qs first W S A) ((first + ((A + k : Nat) : Int)) % 4294967296) = true := by
    unfold placeB
    rw [Bool.and_eq_true, decide_eq_true_eq, offN_is, eo]
    exact ⟨decide_eq_true (mod_rng2 _), by show ((k : Nat) : Int) ≤ ((S - A : Nat) : Int); omega⟩
  refine (ack_t h hf _ hp).mono ?_
  rintro e w' ⟨rfl, ⟨vb', vp', hX⟩, ht⟩
  rw [eo]
  refine ⟨rfl, ⟨vb', vp', hX.eq ?_⟩, ht, ⟨hk, h2, by omega⟩⟩
  unfold ackQ
  rw [eo]
  show (⟨_, _, (S - A) - k, (W.drop A).drop k, _⟩ : Qu) = _
  rw [List.drop_drop, Nat.sub_sub]
  rfl
theorem st_hole {w : World} {R q : Nat} {first : Int} {W : List UInt8} {S A : Nat} {vb vp : Value} (h : QX w R q (Qs first W S A) vb vp) (hs : SS W S A) :
    Calls Try.prog 21 #[PQ q, .int .i64 1000] w fun e w' => e = .returned (.tuple #[.int .i64 ((first + (A : Int)) % 4294967296), .string (strB ((W.drop A).take (S - A)))]) ∧ Below w.heap.size w w' := by
  have hf := hs.fine first
  have h1 := hs.a
  have h2 := hs.s
  have h3 := hs.w
  refine (Hole_any h hf 1000).mono ?_
  rintro e w' ⟨rfl, hb⟩
  refine ⟨?_, hb⟩
  have eN : hlN (Qs first W S A) 1000 = ((S - A : Nat) : Int) := by
    show min (((S - A : Nat) : Int) - ((0 : Nat) : Int)) 1000 = _
    omega
  have e1 : hlA (Qs first W S A) 1000 = (first + (A : Int)) % 4294967296 := by
    unfold hlA
    split
    · rfl
    · show ((first + (A : Int)) % 4294967296 + ((0 : Nat) : Int)) % 4294967296 = _
      omega
  have e2 : hlS (Qs first W S A) 1000 = (W.drop A).take (S - A) := by
    unfold hlS
    rw [eN]
    split
    · rename_i hlt
      rw [show S - A = 0 by omega, List.take_zero]
    · show ((W.drop A).drop 0).take _ = _
      rw [List.drop_zero, Int.toNat_natCast]
  rw [e1, e2]
theorem st_state {w : World} {R q : Nat} {first : Int} {W : List UInt8} {S A : Nat} {vb vp : Value} (h : QX w R q (Qs first W S A) vb vp) (hs : SS W S A) :
    Calls Try.prog 15 #[PQ q] w fun e w' => e = .returned (.tuple #[.int .i64 ((first + (A : Int)) % 4294967296), .int .i64 ((first + (S : Int)) % 4294967296), .int .i64 ((W.length - A : Nat) : Int)]) ∧ Below w.heap.size w w' := by
  have h1 := hs.a
  refine (state_any h (hs.fine first)).mono ?_
  rintro e w' ⟨rfl, hb⟩
  refine ⟨?_, hb⟩
  show Ending.returned (Value.tuple #[_, .int .i64 (((first + (A : Int)) % 4294967296 + ((S - A : Nat) : Int)) % 4294967296), .int .i64 ((W.drop A).length : Int)]) = _
  rw [List.length_drop, show ((first + (A : Int)) % 4294967296 + ((S - A : Nat) : Int)) % 4294967296 = (first + (S : Int)) % 4294967296 by omega]
theorem st_dist {first : Int} {W : List UInt8} {S A : Nat} (hs : SS W S A) (hb : S ≤ 1000000) (w : World) :
    Calls Try.prog 22 #[.int .i64 ((first + (A : Int)) % 4294967296), .int .i64 ((first + (S : Int)) % 4294967296)] w fun e w' => e = .returned (.tuple #[.int .i64 ((S - A : Nat) : Int), .int .i64 0]) ∧ w' = w := by
  have h1 := hs.a
  have h := dist_any ((first + (A : Int)) % 4294967296) ((first + (S : Int)) % 4294967296) w
  rw [distV, show numB ((first + (A : Int)) % 4294967296) = true from decide_eq_true (mod_rng2 _), show numB ((first + (S : Int)) % 4294967296) = true from decide_eq_true (mod_rng2 _)] at h
  rw [show ((first + (S : Int)) % 4294967296 - (first + (A : Int)) % 4294967296) % 4294967296 = ((S - A : Nat) : Int) by omega] at h
  exact h
theorem adds2 {a n : Int} (ha : 0 ≤ a ∧ a ≤ 4294967295) (hn : 0 ≤ n ∧ n ≤ 1000000) (w : World) : Calls Try.prog 19 #[.int .i64 a, .int .i64 n] w fun e w' => e = .returned (.tuple #[.int .i64 ((a + n) % 4294967296), .int .i64 0]) ∧ w' = w := by
  have h := add_any a n w
  rw [addV, show numB a = true from decide_eq_true ha, show stepB n = true from decide_eq_true (by omega)] at h
  exact h
end Go.Proofs.Ytlbdecjppgjdiaa
