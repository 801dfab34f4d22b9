/- SameInts of equal lists; works: the chapter's example. -/
import Derived.Test.YtajknafmlghcgaaBh
namespace Go.Proofs.Ytajknafmlghcgaa
open Go.RowKit Go.Maps
set_option maxRecDepth 100000
set_option linter.unusedVariables false
set_option linter.unusedSimpArgs false

/-- A list of numbers: it has none, or it leads to a row of cells that hold them. -/
def Row (w : World) (a : Option Addr) (zs : List Int) : Prop :=
  zs = [] ∨ ∃ b off, a = some ⟨b, off, none⟩ ∧ ∀ j, j < zs.length → w.cell? ⟨b, off + j, none⟩ = some (.int .i64 (zs.getD j 0))
theorem Row.later {w x : World} {a : Option Addr} {zs : List Int} (h : Row w a zs) (hb : Below w.heap.size w x) : Row x a zs := by
  rcases h with h | ⟨b, off, h, hc⟩
  · exact Or.inl h
  · exact Or.inr ⟨b, off, h, fun j hj => Ytajknafmlghcgaa.later hb (hc j hj)⟩

theorem same_any (a1 : Option Addr) (c1 : Nat) (a2 : Option Addr) (c2 : Nat) (zs : List Int) (w : World) (hbig : zs.length ≤ 9223372036854775807) (h1 : Row w a1 zs) (h2 : Row w a2 zs) :
    Calls Try.prog 15 #[.slice a1 zs.length c1, .slice a2 zs.length c2] w fun e w' => e = .returned (.bool true) ∧ Below w.heap.size w w' := by
  rcases h1 with rfl | ⟨b1, o1, rfl, hc1⟩
  · go_enter Try.func15, Try.ntmps15
    go_wp2
    refine wp_loop_rounds 1 ?_
    rw [rounds_succ]
    go_wp2
    go_ret
    exact ⟨rfl, Below.refl _ _⟩
  · rcases h2 with rfl | ⟨b2, o2, rfl, hc2⟩
    · go_enter Try.func15, Try.ntmps15
      go_wp2
      refine wp_loop_rounds 1 ?_
      rw [rounds_succ]
      go_wp2
      go_ret
      exact ⟨rfl, Below.refl _ _⟩
    · have H1 : Hid (∀ j, j < zs.length → w.cell? ⟨b1, o1 + j, none⟩ = some (.int .i64 (zs.getD j 0))) := hc1
      have H2 : Hid (∀ j, j < zs.length → w.cell? ⟨b2, o2 + j, none⟩ = some (.int .i64 (zs.getD j 0))) := hc2
      clear hc1 hc2
      go_enter Try.func15, Try.ntmps15
      go_wp2
      go_loopw [5] (fun i wr => ∃ k : Nat, k ≤ zs.length ∧ i = .int .i64 k ∧ Below w.heap.size w wr) (fun i _ => zs.length - (intOf i).toNat)
      case atStart => exact ⟨0, Nat.zero_le _, rfl, Below.refl _ _⟩
      case round =>
        obtain ⟨k, hk, rfl, hbel⟩ := hrel
        by_cases hlt : k < zs.length
        · have g1 := later hbel (H1.out k hlt)
          have g2 := later hbel (H2.out k hlt)
          have hki : (k : Int) < (zs.length : Int) := by omega
          have hk0 : (0 : Int) ≤ (k : Int) := by omega
          generalize zs.getD k 0 = p at *
          go_wp2
          go_quiet (fail)
          go_wp2
          go_roundw
          case rel => exact ⟨k + 1, by omega, by go_num, below_drewN hbel _⟩
          case measure => simp [intOf]; omega
        · go_wp2
          go_ret
          exact ⟨rfl, hbel⟩
theorem Ints.row {w : World} {base : Nat} {v : Value} {zs : List Int} (h : Ints w base v zs) : ∃ a cap, v = .slice a zs.length cap ∧ Row w a zs := by
  rcases h.2 with ⟨rfl, h0⟩ | ⟨g, cap, cur, rfl, hg, hb, h1, h2, h3, h4⟩
  · obtain rfl : zs = [] := List.length_eq_zero_iff.1 h0
    exact ⟨none, 0, rfl, Or.inl rfl⟩
  · refine ⟨_, cap, rfl, Or.inr ⟨g, 0, rfl, fun j hj => ?_⟩⟩
    have := World.ownsRow.cellAt h j (by omega)
    rw [Nat.zero_add]
    rw [show (zs.map (Value.int .i64))[j]? = some (.int .i64 (zs.getD j 0)) by simp [List.getD, hj]] at this
    exact this
theorem Ints.turn {S : Nat → Prop} {w w' : World} {base : Nat} {v : Value} {zs : List Int} (h : Ints w base v zs) (ht : Turn S w w') (hS : ∀ k, base ≤ k → ¬ S k) : Ints w' base v zs := by
  obtain ⟨i1, i2⟩ := h
  refine ⟨i1, ?_⟩
  rcases i2 with h | ⟨g, cap, cur, a1, a2, a3, a4⟩
  · exact Or.inl h
  · exact Or.inr ⟨g, cap, cur, a1, a2, (ht.block g (Array.getElem?_eq_some_iff.1 a3).1 (hS g a2)).trans a3, a4⟩
theorem ints_two (w : World) (s t : Int) : Ints (w.alloc (.cells #[.int .i64 s, .int .i64 t] 3)) w.heap.size (.slice (some ⟨w.heap.size, 0, none⟩) 2 2) [s, t] := World.ownsRow_lit w #[.int .i64 s, .int .i64 t] 2 (Nat.le_refl _) (by unfold maxLen; omega) rfl
theorem row_of {w : World} {base n cap : Nat} {a : Option Addr} {zs : List Int} (h : Ints w base (.slice a n cap) zs) : Row w a zs := by
  obtain ⟨a', c', e, hr⟩ := h.row
  cases e
  exact hr
set_option maxHeartbeats 2000000 in
theorem works_any (w : World) : Calls Try.prog 9 #[] w fun e w' => e = .returned (.bool true) ∧ Below w.heap.size w w' := by
  go_enter Try.func9, Try.ntmps9
  go_wp2_with fail
  refine (new_t 3 10 9 w (by decide)).mono ?_
  rintro e w1 ⟨B, M, rfl, hBb, hMb, hA, hL, hb1⟩
  go_wp2_with fail
  refine (take_4 B M 3 10 9 0 0 6 5 2048 1 ⟨#[]⟩ [] w1 hA hL (by decide) (by decide) (by decide) (by decide) (by decide) (by decide) (by decide) (by decide) (by decide) (by decide)).mono ?_
  rintro e w2 ⟨v, rfl, hI, hA2, hL2, ht2⟩
  rw [show learnL 9 (oldL 10 1 []) (5, 0, 1) = [(5, 0, 1)] by decide] at hI hL2
  rw [show waysL 3 [(5, 0, 1)] 0 6 = [1, 2] by decide] at hI
  have hAl := hA.1
  have hLl := hL.1.lt
  have hb2 : Below w.heap.size w w2 := hb1.trans (ht2.below hb1.size (fun k hk he => by omega))
  clear hA hL
  obtain ⟨a1, c1, rfl, -⟩ := hI.row
  go_wp2_with fail
  refine (take_4 B M 3 10 9 1 2 5 6 2048 2 ⟨#[]⟩ [(5, 0, 1)] w2 hA2 hL2 (by decide) (by decide) (by decide) (by decide) (by decide) (by decide) (by decide) (by decide) (by decide) (by decide)).mono ?_
  rintro e w3 ⟨v2, rfl, hI2, hA3, hL3, ht3⟩
  rw [show waysL 3 (learnL 9 (oldL 10 2 [(5, 0, 1)]) (6, 2, 2)) 2 5 = [0] by decide] at hI2
  have hb3 : Below w.heap.size w w3 := hb2.trans (ht3.below hb2.size (fun k hk he => by omega))
  replace hI := hI.turn ht3 (fun k hk he => by omega)
  obtain ⟨a2, c2, rfl, -⟩ := hI2.row
  clear hA2 hL2 hA3 hL3 ht2 ht3 hb1 hb2
  have q4 := bel1 w3 (.cells #[.int .i64 1, .int .i64 2] 3)
  have r1 := (row_of hI).later q4
  have r2 := row_of (ints_two w3 1 2)
  have hI3 := hI2.turn (S := fun _ => False) (Turn.of_below q4) (fun _ _ h => h)
  go_wp2_with fail
  refine (same_any a1 c1 _ 2 [1, 2] _ (by decide) r1 r2).mono ?_
  rintro e w5 ⟨rfl, hb5⟩
  have hI4 := hI3.turn (S := fun _ => False) (Turn.of_below hb5) (fun _ _ h => h)
  have q6 := bel1 w5 (.cells #[.int .i64 0] 3)
  have r3 := (row_of hI4).later q6
  have r4 := row_of (ints_one w5 0)
  go_wp2_with fail
  refine (same_any a2 c2 _ 1 [0] _ (by decide) r3 r4).mono ?_
  rintro e w7 ⟨rfl, hb7⟩
  go_wp2
  go_ret
  exact ⟨rfl, bt hb3 (bt q4 (bt hb5 (bt q6 hb7)))⟩
end Go.Proofs.Ytajknafmlghcgaa
