/- The example works; WheelOnce, walked. -/
import Derived.Test.YtbdloehdhdifpaaWh
import Derived.Test.YtbdloehdhdifpaaFlat
namespace Go.Proofs.Ytbdloehdhdifpaa
open Go.Shelf Go.RowKit Go.Maps Go.Lib Go.Sort Go.Proofs
set_option maxRecDepth 100000
set_option linter.unusedVariables false
set_option linter.unusedSimpArgs false

abbrev Bel := Go.RowKit.Below
theorem bel_turn {S : Nat → Prop} {w w1 w2 : World} {n : Nat} (h : Bel n w w1) (ht : Turn S w1 w2) (hS : ∀ k, k < n → ¬ S k) (hn : n ≤ w.heap.size) : Bel n w w2 := h.trans (ht.below (Nat.le_trans hn h.size) hS)
set_option maxHeartbeats 4000000 in
theorem works_any (w : World) : Calls Try.prog 8 #[] w fun e w' => e = .returned (.bool true) ∧ Bel w.heap.size w w' := by
  go_enter Try.func8, Try.ntmps8
  go_wp2_with fail
  refine (new_t 0 w (by decide)).mono ?_
  rintro e w1 ⟨B, M, rfl, hBb, hMb, hW, hb1⟩
  have hS : ∀ k, k < w.heap.size → ¬ (k = M) := fun k hk he => by omega
  have hS2 : ∀ k, k < w.heap.size → ¬ (k = B ∨ k = M) := fun k hk he => by omega
  go_wp2_with fail
  refine (set_t B M 0 7 5 [] w1 hW WL.nil (by decide) (Or.inr (by decide))).mono ?_
  rintro e w2 ⟨rfl, hW2, hL2, ht2⟩
  rw [show putT [] (7, 5) = [(7, 5)] by decide] at hW2 hL2
  replace hb1 := bel_turn hb1 ht2 hS (Nat.le_refl _)
  go_wp2_with fail
  refine (set_t B M 0 3 5 _ w2 hW2 hL2 (by decide) (Or.inr (by decide))).mono ?_
  rintro e w3 ⟨rfl, hW3, hL3, ht3⟩
  rw [show putT [(7, 5)] (3, 5) = [(3, 5), (7, 5)] by decide] at hW3 hL3
  replace hb1 := bel_turn hb1 ht3 hS (Nat.le_refl _)
  go_wp2_with fail
  refine (set_t B M 0 9 2 _ w3 hW3 hL3 (by decide) (Or.inr (by decide))).mono ?_
  rintro e w4 ⟨rfl, hW4, hL4, ht4⟩
  rw [show putT [(3, 5), (7, 5)] (9, 2) = [(9, 2), (3, 5), (7, 5)] by decide] at hW4 hL4
  replace hb1 := bel_turn hb1 ht4 hS (Nat.le_refl _)
  clear hW hW2 hW3 hL2 hL3 ht2 ht3 ht4
  go_wp2_with fail
  refine (go_t B M 0 4 _ w4 hW4 hL4 (by decide) (by decide)).mono ?_
  rintro e w5 ⟨v5, rfl, hI5, hW5, ht5⟩
  have hL5 : WL (restL 4 [(9, 2), (3, 5), (7, 5)]) := hL4.part _
  rw [show dueL 4 [(9, 2), (3, 5), (7, 5)] = [9] by decide] at hI5
  rw [show restL 4 [(9, 2), (3, 5), (7, 5)] = [(3, 5), (7, 5)] by decide] at hW5 hL5
  have hlt4 := hW4.lt
  replace hb1 := bel_turn hb1 ht5 hS2 (Nat.le_refl _)
  obtain ⟨a1, c1, rfl, -⟩ := hI5.row
  go_wp2_with fail
  refine (go_t B M 4 5 _ w5 hW5 hL5 (by decide) (by decide)).mono ?_
  rintro e w6 ⟨v6, rfl, hI6, hW6, ht6⟩
  rw [show dueL 5 [(3, 5), (7, 5)] = [3, 7] by decide] at hI6
  replace hb1 := bel_turn hb1 ht6 hS2 (Nat.le_refl _)
  replace hI5 := hI5.turn ht6 (fun k hk he => by omega)
  obtain ⟨a2, c2, rfl, -⟩ := hI6.row
  clear hW4 hW5 hW6 ht5 ht6
  have q4 := bel1 w6 (.cells #[.int .i64 9] 3)
  have r1 := (row_of hI5).later q4
  have r2 := row_of (ints_one w6 9)
  have hI7 := hI6.later q4
  go_wp2_with fail
  refine (same_any a1 c1 _ 1 [9] _ (by decide) r1 r2).mono ?_
  rintro e w7 ⟨rfl, hb7⟩
  have hI8 := hI7.later hb7
  have q6 := bel1 w7 (.cells #[.int .i64 3, .int .i64 7] 3)
  have r3 := (row_of hI8).later q6
  have r4 := row_of (ints_two w7 3 7)
  go_wp2_with fail
  refine (same_any a2 c2 _ 2 [3, 7] _ (by decide) r3 r4).mono ?_
  rintro e w8 ⟨rfl, hb8⟩
  go_wp2
  go_ret
  exact ⟨rfl, bt hb1 (bt q4 (bt hb7 (bt q6 hb8)))⟩
/-- A wheel, and a map of what it has. -/
def TW (w : World) (B M D : Nat) (now : Int) (L : List Tm) : Prop := WH w B M now L ∧ WL L ∧ (∃ l, VM w D l ∧ l.Perm (L.map tV)) ∧ ∀ e ∈ L, 0 ≤ e.1 ∧ e.1 < 12
theorem TW.later {w w' : World} {B M D : Nat} {now : Int} {L : List Tm} (h : TW w B M D now L) (hb : Bel w.heap.size w w') : TW w' B M D now L := by
  obtain ⟨h1, h2, ⟨l, h3, h4⟩, h5⟩ := h
  exact ⟨h1.later hb, h2, ⟨l, h3.later hb, h4⟩, h5⟩
theorem pigeon : ∀ (n : Nat) (l : List Nat), l.Nodup → (∀ x ∈ l, x < n) → l.length ≤ n
  | 0, l, _, h => by
    cases l with
    | nil => exact Nat.le_refl _
    | cons x r => have := h x (List.mem_cons_self ..); omega
  | n + 1, l, hn, h => by
    by_cases hm : n ∈ l
    · have h1 := pigeon n (l.erase n) (hn.erase n) (fun x hx => by
        have h2 := (List.Nodup.mem_erase_iff hn).1 hx
        have h3 := h x h2.2
        have h4 := h2.1
        omega)
      have h5 := List.length_erase_of_mem hm
      omega
    · have h1 := pigeon n l hn (fun x hx => by
        have h3 := h x hx
        have h4 : x ≠ n := fun e => hm (e ▸ hx)
        omega)
      omega
theorem few {L : List Tm} (hL : WL L) (h : ∀ e ∈ L, 0 ≤ e.1 ∧ e.1 < 12) : L.length ≤ 12 := by
  have h1 : ((L.map (·.1)).map Int.toNat).Nodup := by
    rw [List.nodup_iff_pairwise_ne, List.pairwise_map]
    refine List.Pairwise.imp_of_mem ?_ (List.nodup_iff_pairwise_ne.1 hL.nod)
    intro a b ha hb hne he
    obtain ⟨x, hx, rfl⟩ := List.mem_map.1 ha
    obtain ⟨y, hy, rfl⟩ := List.mem_map.1 hb
    have := h x hx
    have := h y hy
    exact hne (by omega)
  have := pigeon 12 _ h1 (fun n hn => by
    obtain ⟨z, hz, rfl⟩ := List.mem_map.1 hn
    obtain ⟨x, hx, rfl⟩ := List.mem_map.1 hz
    have := h x hx
    omega)
  simpa using this
end Go.Proofs.Ytbdloehdhdifpaa
