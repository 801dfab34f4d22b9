/- works: the example of the chapter. -/
import Derived.Test.YtiglaalppaljbaaVk
namespace Go.Proofs.Ytiglaalppaljbaa
open Go.RowKit Go.Maps Go.Lib
set_option maxRecDepth 100000
set_option linter.unusedVariables false
set_option linter.unusedSimpArgs false


theorem row_ge {w : World} {base : Nat} {e : TypeId} {size : Nat} {v : Value} {n : Nat} {xs : List Value} (h : w.ownsRow base e size v n xs) : ∀ k, v.ownBlock = some k → base ≤ k := by
  intro k hk
  rcases h.2 with ⟨rfl, -⟩ | ⟨g, cap, cur, rfl, hg, -⟩
  · cases hk
  · cases hk; exact hg
def sCD : ByteArray := ⟨#[99, 100]⟩
def sAB : ByteArray := ⟨#[97, 98]⟩
def W0 : Rq := emptyQ 8 10
def W1 : Rq := goQ W0 (putA W0 12 sCD.data.toList) []
def W2 : Rq := goQ W1 (putA W1 10 sAB.data.toList) [97, 98, 99, 100]
theorem w0_fine : W0.Fine := emptyQ_fine (by omega) (by omega) (by omega) (by omega)
theorem w1_run : Run (putA W0 12 sCD.data.toList) [] := ⟨fun i b h => by simp at h, by decide +kernel⟩
theorem w1_fine : W1.Fine := put_fine w0_fine (by omega) (by omega) (by decide) w1_run
theorem w1_apart : apartL W1 9 = [(12, 14)] := by decide +kernel
theorem w2_run : Run (putA W1 10 sAB.data.toList) [97, 98, 99, 100] := by
  refine ⟨fun i b h => ?_, by decide +kernel⟩
  have hi := (List.getElem?_eq_some_iff.1 h).1
  simp only [List.length_cons, List.length_nil] at hi
  have h4 : i = 0 ∨ i = 1 ∨ i = 2 ∨ i = 3 := by omega
  rcases h4 with rfl | rfl | rfl | rfl <;> (simp at h; subst h; decide +kernel)
theorem w2_fine : W2.Fine := put_fine w1_fine (by omega) (by omega) (by decide) w2_run
theorem w2_read : strB (W2.bs.take (readN W2 9)) = ⟨#[97, 98, 99, 100]⟩ := by decide +kernel
set_option maxHeartbeats 1000000 in
theorem works_any (w : World) : Calls Try.prog 7 #[] w fun e w' => e = .returned (.bool true) ∧ Below w.heap.size w w' := by
  have hnew := new_t 10 8 w (by omega) (by omega) (by omega) (by omega)
  rw [show ((8 : Nat) : Int) = 8 from rfl] at hnew
  go_enter Try.func7, Try.ntmps7
  go_wp2_with fail
  refine hnew.mono ?_
  rintro e w1 ⟨rfl, hX1, hb1⟩
  have hX1 : QX w1 _ (w.heap.size + 1) W0 := hX1
  clear hnew
  generalize hq : w.heap.size + 1 = q at *
  go_wp2_with fail
  refine (put_t hX1 w0_fine 12 sCD (by decide) (by omega) (by omega) [] w1_run).mono ?_
  rintro e w2 ⟨rfl, A2, hX2, ht2, hg2⟩
  have hX2 : QX w2 A2 q W1 := hX2
  have hb2 : Below w.heap.size w w2 := hb1.trans (ht2.below hb1.size (fun k hk e => by omega))
  have hA2 : ∀ k, A2 k → w.heap.size ≤ k := fun k hk => by
    rcases hg2 k hk with h | h
    · exact h.1
    · have := hb1.size; omega
  go_wp2_with fail
  refine (apart_any hX2 w1_fine 9).mono ?_
  rintro e w3 ⟨vl, rfl, hR3, hb3⟩
  rw [w1_apart] at hR3
  obtain ⟨al, cl, rfl, -⟩ := hR3.shape
  have hX3 := hX2.later hb3
  go_wp2_with fail
  refine (put_t hX3 w1_fine 10 sAB (by decide) (by omega) (by omega) [97, 98, 99, 100] w2_run).mono ?_
  rintro e w4 ⟨rfl, A4, hX4, ht4, hg4⟩
  have hX4 : QX w4 A4 q W2 := hX4
  have hb4 : Below w.heap.size w w4 := (bt hb2 hb3).trans (ht4.below (by have := hb2.size; have := hb3.size; omega) (fun k hk e => by have := hA2 k e; omega))
  have hA4 : ∀ k, A4 k → w.heap.size ≤ k := fun k hk => by
    rcases hg4 k hk with h | h
    · exact hA2 k h
    · have := (bt hb2 hb3).size; omega
  have hR4 : RV w4 (.slice al 1 cl) [(12, 14)] := by
    have h9 : RO w4 w2.heap.size (.slice al 1 cl) [(12, 14)] := row_turn hR3 ht4 (fun k hk e => by
      have h1 := hX2.lw k e
      have h2 := row_ge hR3 k hk
      omega)
    exact h9.rv
  have hlit : RV (w4.alloc (.cells #[.int .i64 12, .int .i64 14] 56)) (.slice (some ⟨w4.heap.size, 0, none⟩) 1 1) [(12, 14)] := by
    refine ⟨_, _, rfl, fun i e he => ⟨_, rfl, ?_⟩⟩
    have hi : i = 0 := by have := (List.getElem?_eq_some_iff.1 he).1; simpa using this
    subst hi
    simp at he
    subst he
    have hA := At.box w4 #[.int .i64 12, .int .i64 14] 56
    exact ⟨(hA.2 0 _ rfl).1, (hA.2 1 _ rfl).1⟩
  have hb5 := bel1 w4 (.cells #[.int .i64 12, .int .i64 14] 56)
  go_wp2_with fail
  refine (same_any (hR4.later hb5) hlit (by decide)).mono ?_
  rintro e w6 ⟨rfl, hb6⟩
  have hX6 := (hX4.later hb5).later hb6
  go_wp2_with fail
  refine (read_any hX6 w2_fine 9).mono ?_
  rintro e w7 ⟨rfl, hX7, ht7⟩
  rw [w2_read]
  have hb7 : Below w.heap.size w w7 := (bt (bt hb4 hb5) hb6).trans (ht7.below (by have := (bt (bt hb4 hb5) hb6).size; omega) (fun k hk e => by have := hA4 k e; omega))
  go_wp2
  go_ret
  exact ⟨rfl, hb7⟩
end Go.Proofs.Ytiglaalppaljbaa
