/- The contracts of Of, Whole and Turn, of package sum and of the document, and of the law's example: each returns just the values named here; nothing that was there turns. -/
import Derived.Test.YtckfaohmjddkhabMore
import Derived.LoopN
namespace Go.Proofs.Ytckfaohmjddkhab
open Go.RowKit

theorem total_list (b off cap : Nat) (ss : List ByteArray) (w : World) (hbig : ss.length ≤ 9223372036854775807)
    (hc : ∀ j, j < ss.length → w.cell? ⟨b, off + j, none⟩ = some (.string (ss.getD j ByteArray.empty)))
    (hs : (catS ss).length ≤ 140737488355328) :
    Calls Try.prog 14 #[.slice (some ⟨b, off, none⟩) ss.length cap] w fun e w' => e = .returned (.int .i64 (totS ss)) ∧ w' = w := by
  have h := total_any b off ss.length cap ss w (Nat.le_refl _) hbig hc (by rw [List.take_length]; exact hs)
  rw [List.take_length] at h
  exact h

theorem of_any (b off cap : Nat) (ss : List ByteArray) (w : World) (hbig : ss.length ≤ 9223372036854775807)
    (hc : ∀ j, j < ss.length → w.cell? ⟨b, off + j, none⟩ = some (.string (ss.getD j ByteArray.empty)))
    (hs : ∀ s ∈ ss, s.size ≤ 140737488355328) :
    Calls Try.prog 8 #[.slice (some ⟨b, off, none⟩) ss.length cap] w fun e w' => e = .returned (.tuple #[.int .i64 (ofV ss), .int .i64 (codeL (ofB ss))]) ∧ w' = w := by
  have HB := cat_bound ss hs
  have HC : Hid (∀ j, j < ss.length → w.cell? ⟨b, off + j, none⟩ = some (.string (ss.getD j ByteArray.empty))) := hc
  have HS : Hid (∀ s ∈ ss, s.size ≤ 140737488355328) := hs
  clear hc hs
  unfold ofV
  by_cases hlen : ss.length ≤ 1024
  · have HB' : Hid (∀ k, k ≤ ss.length → (catS (ss.take k)).length ≤ k * 140737488355328) := HB
    clear HB
    by_cases hbig2 : (catS ss).length ≤ 65536
    · have hfin : ofB ss = true := decide_eq_true ⟨hlen, hbig2⟩
      rw [hfin, if_pos rfl]
      clear hfin
      go_enter Try.func8, Try.ntmps8
      go_wp2
      go_loop [4, 12] (fun n i => ∃ k : Nat, k ≤ ss.length ∧ i = .int .i64 k ∧ n = .int .i64 ((catS (ss.take k)).length : Int)) (fun _ i => ss.length - (intOf i).toNat)
      case atStart => exact ⟨0, Nat.zero_le _, rfl, rfl⟩
      case round =>
        obtain ⟨k, hk, rfl, rfl⟩ := hrel
        by_cases hlt : k < ss.length
        · have hcell := HC.out k hlt
          have hb1 := HB'.out (k + 1) (by omega)
          have hsn : (catS (ss.take (k + 1))).length = (catS (ss.take k)).length + (ss.getD k ByteArray.empty).size := by
            rw [take_snocS ss k hlt, catS_snoc, List.length_append]; rfl
          have HN : Hid ((catS (ss.take (k + 1))).length = (catS (ss.take k)).length + (ss.getD k ByteArray.empty).size) := hsn
          rw [hsn] at hb1
          clear hsn
          generalize ss.getD k ByteArray.empty = p at *
          generalize (catS (ss.take k)).length = L at *
          go_wp2
          go_round
          case rel => exact ⟨k + 1, by omega, by go_num, by rw [HN.out]; go_num⟩
          case measure => simp [intOf]; omega
        · have hk' : k = ss.length := by omega
          subst hk'
          have hb1 := HB'.out ss.length (Nat.le_refl _)
          rw [List.take_length] at hb1 ⊢
          have htot := totS_bd ss (by omega)
          go_wp2_with (first | (go_at_call 14; refine (total_list _ _ _ ss _ hbig HC.out (by omega)).mono ?_; rintro e w' ⟨rfl, rfl⟩) | (go_at_call 13; refine (missing_any _ _ htot.1 htot.2).mono ?_; rintro e w' ⟨rfl, rfl⟩))
          go_ret2
          exact ⟨rfl, rfl⟩
    · have hfin : ofB ss = false := decide_eq_false (fun h => hbig2 h.2)
      rw [hfin, if_neg (by simp)]
      clear hfin
      go_enter Try.func8, Try.ntmps8
      go_wp2
      go_loop [4, 12] (fun n i => ∃ k : Nat, k ≤ ss.length ∧ i = .int .i64 k ∧ n = .int .i64 ((catS (ss.take k)).length : Int)) (fun _ i => ss.length - (intOf i).toNat)
      case atStart => exact ⟨0, Nat.zero_le _, rfl, rfl⟩
      case round =>
        obtain ⟨k, hk, rfl, rfl⟩ := hrel
        by_cases hlt : k < ss.length
        · have hcell := HC.out k hlt
          have hb1 := HB'.out (k + 1) (by omega)
          have hsn : (catS (ss.take (k + 1))).length = (catS (ss.take k)).length + (ss.getD k ByteArray.empty).size := by
            rw [take_snocS ss k hlt, catS_snoc, List.length_append]; rfl
          have HN : Hid ((catS (ss.take (k + 1))).length = (catS (ss.take k)).length + (ss.getD k ByteArray.empty).size) := hsn
          rw [hsn] at hb1
          clear hsn
          generalize ss.getD k ByteArray.empty = p at *
          generalize (catS (ss.take k)).length = L at *
          go_wp2
          go_round
          case rel => exact ⟨k + 1, by omega, by go_num, by rw [HN.out]; go_num⟩
          case measure => simp [intOf]; omega
        · have hk' : k = ss.length := by omega
          subst hk'
          have hb1 := HB'.out ss.length (Nat.le_refl _)
          rw [List.take_length] at hb1 ⊢
          go_wp2
          go_ret2
          exact ⟨rfl, rfl⟩
  · have hfin : ofB ss = false := decide_eq_false (by omega)
    rw [hfin, if_neg (by simp)]
    clear HB hfin
    go_enter Try.func8, Try.ntmps8
    go_wp2
    go_ret2
    exact ⟨rfl, rfl⟩

theorem works_any (w : World) : Calls Try.prog 4 #[] w fun e w' => e = .returned (.bool true) ∧ Below w.heap.size w w' := by
  have h1 : ofV [⟨#[0, 1, 242, 3, 244, 245, 246, 247]⟩] = 8717 := by decide
  have h2 : codeL (ofB [⟨#[0, 1, 242, 3, 244, 245, 246, 247]⟩]) = 0 := by decide
  go_enter Try.func4, Try.ntmps4
  go_wp2_with fail
  refine (of_any w.heap.size 0 _ [⟨#[0, 1, 242, 3, 244, 245, 246, 247]⟩] _ (by simp) (by
    intro j hj
    have : j = 0 := by simp at hj; omega
    subst this
    simp) (by intro s hs; simp at hs; subst hs; decide)).mono ?_
  rintro e w' ⟨rfl, rfl⟩
  go_wp2
  go_ret
  exact ⟨rfl, (Below.refl _ _).alloc (Nat.le_refl _) _⟩

end Go.Proofs.Ytckfaohmjddkhab
