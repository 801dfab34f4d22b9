/- The contracts of the document's Of, and of the comparison of two lists of strings: each returns just the values named here; nothing that was there turns. -/
import Derived.Test.YtckfaohmjddkhaaSums
import Derived.Deep.QuietTactic
import Derived.BigQuiet
namespace Go.Proofs.Ytckfaohmjddkhaa
open Go.RowKit

theorem below_draws {B : Nat} {a w : World} (h : Below B a w) (n : Nat) : Below B a (w.drewN n) := h.trans ⟨rfl, rfl, rfl, Nat.le_refl _, fun _ _ => rfl⟩

theorem rof_list (b off cap : Nat) (ss : List ByteArray) (w : World) (hbig : ss.length ≤ 9223372036854775807)
    (hc : ∀ j, j < ss.length → w.cell? ⟨b, off + j, none⟩ = some (.string (ss.getD j ByteArray.empty)))
    (hs : ∀ s ∈ ss, s.size ≤ 140737488355328) :
    Calls Try.prog 10 #[.slice (some ⟨b, off, none⟩) ss.length cap] w fun e w' => e = .returned (.tuple #[.int .i64 (ofV ss), .int .i64 (codeL (ofB ss))]) ∧ w' = w := by
  have HC : Hid (∀ j, j < ss.length → w.cell? ⟨b, off + j, none⟩ = some (.string (ss.getD j ByteArray.empty))) := hc
  have HS : Hid (∀ k, k < ss.length → (ss.getD k ByteArray.empty).size ≤ 140737488355328) := by
    intro k hk
    refine hs _ ?_
    simp [List.getD, List.getElem?_eq_getElem hk]
  clear hc hs
  unfold ofV
  by_cases hlen : ss.length ≤ 1024
  · by_cases hbig2 : (catS ss).length ≤ 65536
    · have hfin : ofB ss = true := decide_eq_true ⟨hlen, hbig2⟩
      rw [hfin, if_pos rfl]
      clear hfin
      go_enter Try.func10, Try.ntmps10
      go_wp2
      go_loop [4, 5] (fun n i => ∃ k : Nat, k ≤ ss.length ∧ i = .int .i64 k ∧ n = .int .i64 ((catS (ss.take k)).length : Int)) (fun _ i => ss.length - (intOf i).toNat)
      case atStart => exact ⟨0, Nat.zero_le _, rfl, rfl⟩
      case round =>
        obtain ⟨k, hk, rfl, rfl⟩ := hrel
        by_cases hlt : k < ss.length
        · have hcell := HC.out k hlt
          have hst := cat_step ss k ss.length hlt (Nat.le_refl _)
          rw [List.take_length] at hst
          have HN : Hid ((catS (ss.take (k + 1))).length = (catS (ss.take k)).length + (ss.getD k ByteArray.empty).size) := by
            show _ = _
            rw [take_snocS ss k hlt, catS_snoc, List.length_append]; rfl
          generalize ss.getD k ByteArray.empty = p at *
          generalize (catS (ss.take k)).length = L at *
          go_wp2
          go_round
          case rel => exact ⟨k + 1, by omega, by go_num, by rw [HN.out]; go_num⟩
          case measure => simp [intOf]; omega
        · have hk' : k = ss.length := by omega
          subst hk'
          rw [List.take_length]
          go_wp2
          go_loop [6, 7] (fun s i => ∃ k : Nat, k ≤ ss.length ∧ i = .int .i64 k ∧ s = .string (catB (ss.take k))) (fun _ i => ss.length - (intOf i).toNat)
          case atStart => exact ⟨0, Nat.zero_le _, rfl, rfl⟩
          case round =>
            obtain ⟨k, hk, rfl, rfl⟩ := hrel
            by_cases hlt : k < ss.length
            · have hcell := HC.out k hlt
              have hst := cat_step ss k ss.length hlt (Nat.le_refl _)
              rw [List.take_length, ← catB_size] at hst
              have HN : Hid (catB (ss.take (k + 1)) = catB (ss.take k) ++ ss.getD k ByteArray.empty) := by
                show _ = _
                rw [take_snocS ss k hlt, catB_snoc]
              generalize ss.getD k ByteArray.empty = p at *
              generalize catB (ss.take k) = L at *
              go_wp2
              go_round
              case rel => exact ⟨k + 1, by omega, by go_num, by rw [HN.out]⟩
              case measure => simp [intOf]; omega
            · have hk' : k = ss.length := by omega
              subst hk'
              rw [List.take_length]
              have hz : (catB ss).size ≤ maxLen := by rw [catB_size]; unfold maxLen; omega
              go_wp2_with (first | (go_at_call 28; refine (rsum_any _ _ hz).mono ?_; rintro e w' ⟨rfl, rfl⟩; rw [sumS_catB]))
              go_ret2
              exact ⟨rfl, rfl⟩
    · have hfin : ofB ss = false := decide_eq_false (fun h => hbig2 h.2)
      rw [hfin, if_neg (by simp)]
      clear hfin
      go_enter Try.func10, Try.ntmps10
      go_wp2
      go_loop [4, 5] (fun n i => ∃ k : Nat, k ≤ ss.length ∧ i = .int .i64 k ∧ n = .int .i64 ((catS (ss.take k)).length : Int) ∧ (catS (ss.take k)).length ≤ 65536) (fun _ i => ss.length - (intOf i).toNat)
      case atStart => exact ⟨0, Nat.zero_le _, rfl, rfl, by simp [catS]⟩
      case round =>
        obtain ⟨k, hk, rfl, rfl, hL⟩ := hrel
        by_cases hlt : k < ss.length
        · have hcell := HC.out k hlt
          have hpz := HS.out k hlt
          have HN : Hid ((catS (ss.take (k + 1))).length = (catS (ss.take k)).length + (ss.getD k ByteArray.empty).size) := by
            show _ = _
            rw [take_snocS ss k hlt, catS_snoc, List.length_append]; rfl
          generalize ss.getD k ByteArray.empty = p at *
          generalize (catS (ss.take k)).length = L at *
          by_cases hp : (p.size : Int) ≤ 65536 - (L : Int)
          · go_wp2
            go_round
            case rel => exact ⟨k + 1, by omega, by go_num, by rw [HN.out]; go_num, by rw [HN.out]; omega⟩
            case measure => simp [intOf]; omega
          · go_wp2
            go_ret2
            exact ⟨rfl, rfl⟩
        · have hk' : k = ss.length := by omega
          subst hk'
          rw [List.take_length] at hL
          exact absurd hL hbig2
  · have hfin : ofB ss = false := decide_eq_false (by omega)
    rw [hfin, if_neg (by simp)]
    clear hfin
    go_enter Try.func10, Try.ntmps10
    go_wp2
    go_ret2
    exact ⟨rfl, rfl⟩

theorem rof_empty (ao : Option Addr) (cap : Nat) (w : World) :
    Calls Try.prog 10 #[.slice ao 0 cap] w fun e w' => e = .returned (.tuple #[.int .i64 (ofV []), .int .i64 (codeL (ofB []))]) ∧ w' = w := by
  have h1 : ofV [] = 65535 := by decide
  have h2 : codeL (ofB []) = 0 := by decide
  have h3 : sumS ⟨#[]⟩ = 65535 := by decide
  rw [h1, h2]
  go_enter Try.func10, Try.ntmps10
  go_wp2
  refine wp_loop_rounds 1 ?_
  rw [rounds_succ]
  go_wp2
  refine wp_loop_rounds 1 ?_
  rw [rounds_succ]
  go_wp2_with (first | (go_at_call 28; refine (rsum_any _ _ (by decide)).mono ?_; rw [h3]; rintro e w' ⟨rfl, rfl⟩))
  go_ret2
  exact ⟨rfl, rfl⟩

theorem same_list (b1 o1 c1 b2 o2 c2 : Nat) (ss : List ByteArray) (w : World) (hbig : ss.length ≤ 9223372036854775807)
    (hc1 : ∀ j, j < ss.length → w.cell? ⟨b1, o1 + j, none⟩ = some (.string (ss.getD j ByteArray.empty)))
    (hc2 : ∀ j, j < ss.length → w.cell? ⟨b2, o2 + j, none⟩ = some (.string (ss.getD j ByteArray.empty))) :
    Calls Try.prog 11 #[.slice (some ⟨b1, o1, none⟩) ss.length c1, .slice (some ⟨b2, o2, none⟩) ss.length c2] w fun e w' => e = .returned (.bool true) ∧ Below w.heap.size w w' := by
  have H1 : Hid (∀ j, j < ss.length → w.cell? ⟨b1, o1 + j, none⟩ = some (.string (ss.getD j ByteArray.empty))) := hc1
  have H2 : Hid (∀ j, j < ss.length → w.cell? ⟨b2, o2 + j, none⟩ = some (.string (ss.getD j ByteArray.empty))) := hc2
  clear hc1 hc2
  go_enter Try.func11, Try.ntmps11
  go_wp2
  go_loopw [5] (fun i wr => ∃ k : Nat, k ≤ ss.length ∧ i = .int .i64 k ∧ Below w.heap.size w wr) (fun i _ => ss.length - (intOf i).toNat)
  case atStart => exact ⟨0, Nat.zero_le _, rfl, Below.refl _ _⟩
  case round =>
    obtain ⟨k, hk, rfl, hbel⟩ := hrel
    by_cases hlt : k < ss.length
    · have g1 := cell_later hbel (H1.out k hlt)
      have g2 := cell_later hbel (H2.out k hlt)
      have hki : (k : Int) < (ss.length : Int) := by omega
      have hk0 : (0 : Int) ≤ (k : Int) := by omega
      generalize ss.getD k ByteArray.empty = p at *
      go_wp2
      go_quiet (fail)
      go_wp2
      go_roundw
      case rel => exact ⟨k + 1, by omega, by go_num, below_draws hbel _⟩
      case measure => simp [intOf]; omega
    · go_wp2
      go_ret
      exact ⟨rfl, hbel⟩

theorem same_empty (a1 a2 : Option Addr) (c1 c2 : Nat) (w : World) :
    Calls Try.prog 11 #[.slice a1 0 c1, .slice a2 0 c2] w fun e w' => e = .returned (.bool true) ∧ w' = w := by
  go_enter Try.func11, Try.ntmps11
  go_wp2
  refine wp_loop_rounds 1 ?_
  rw [rounds_succ]
  go_wp2
  go_ret
  exact ⟨rfl, rfl⟩
end Go.Proofs.Ytckfaohmjddkhaa
