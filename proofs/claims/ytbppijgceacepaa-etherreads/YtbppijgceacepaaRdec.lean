/- The contract of the document's Decode. -/
import Derived.Test.YtbppijgceacepaaDecodes
import Derived.Deep.RegionHeld3
namespace Go.Proofs.Ytbppijgceacepaa
open Go.RowKit

def sT (s : ByteArray) : ByteArray := s.extract 0 6
def sF (s : ByteArray) : ByteArray := s.extract 6 12
def sK (s : ByteArray) : ByteArray := s.extract 12 14

theorem undrew {a b : World} (h : Below a.drew.heap.size a.drew b) : Below a.heap.size a b := bt ((Below.refl a.heap.size a).drew) h

set_option maxHeartbeats 2000000 in
theorem rdec_any (s : ByteArray) (w : World) (hs : s.size ≤ maxLen) :
    Calls Try.prog 17 #[.string s] w fun e w' => e = .returned (.tuple #[.agg #[.int .i64 (deT s), .int .i64 (deF s), .int .i64 (deK s), .string (deD s)], .int .i64 (codeE (decB s))]) ∧ Below w.heap.size w w' := by
  have hm := hs
  unfold maxLen at hs
  unfold deT deF deK deD
  by_cases h : 14 ≤ s.size
  · have hdm : (dD s).size ≤ maxLen := by rw [dD_size]; unfold maxLen; omega
    have q1 : ∀ W, (Instr.slice 9 (.string s) none (some (.int .i64 6)) none).run Try.prog W = .ok (.string (sT s)) W := fun W => by
      rw [run_slice_string_to_if W 9 s .i64 6 Try.underlying9, if_pos ⟨by omega, by omega⟩]; rfl
    have q2 : ∀ W, (Instr.slice 9 (.string s) (some (.int .i64 6)) (some (.int .i64 12)) none).run Try.prog W = .ok (.string (sF s)) W := fun W => by
      rw [run_slice_string_if W 9 s .i64 .i64 6 12 Try.underlying9, if_pos ⟨by omega, by omega⟩, if_pos ⟨by omega, by omega⟩]; rfl
    have q3 : ∀ W, (Instr.slice 9 (.string s) (some (.int .i64 12)) (some (.int .i64 14)) none).run Try.prog W = .ok (.string (sK s)) W := fun W => by
      rw [run_slice_string_if W 9 s .i64 .i64 12 14 Try.underlying9, if_pos ⟨by omega, by omega⟩, if_pos ⟨by omega, by omega⟩]; rfl
    have q4 : ∀ W, (Instr.slice 9 (.string s) (some (.int .i64 14)) none none).run Try.prog W = .ok (.string (dD s)) W := fun W => by
      rw [run_slice_string_from_if W 9 s .i64 14 Try.underlying9, if_pos ⟨by omega, by omega⟩]; rfl
    have zT : (sT s).size ≤ 6 := by unfold sT; rw [ByteArray.size_extract]; omega
    have zF : (sF s).size ≤ 6 := by unfold sF; rw [ByteArray.size_extract]; omega
    have zK : (sK s).size ≤ 6 := by unfold sK; rw [ByteArray.size_extract]; omega
    have hr0 := at_box w (.int .i64 0) (.int .i64 0) (.int .i64 0) (.string ⟨#[]⟩) 23
    have hl0 := bel1 w (.cells #[.int .i64 0, .int .i64 0, .int .i64 0, .string ⟨#[]⟩] 23)
    change Calls Try.prog 17 #[.string s] w fun e w' => e = .returned (.tuple #[.agg #[.int .i64 (if decB s = true then numS (sT s) else 0), .int .i64 (if decB s = true then numS (sF s) else 0), .int .i64 (if decB s = true then numS (sK s) else 0), .string (if decB s = true then dD s else ⟨#[]⟩)], .int .i64 (codeE (decB s))]) ∧ Below w.heap.size w w'
    have hB : decB s = mayB (numS (sT s)) (numS (sF s)) (numS (sK s)) (dD s).size := by unfold decB; rw [if_pos h]; rfl
    generalize sT s = T at *
    generalize sF s = F at *
    generalize sK s = K at *
    generalize dD s = D at *
    rcases Bool.eq_false_or_eq_true (mayB (numS T) (numS F) (numS K) D.size) with g | g
    · rw [hB, g, if_pos rfl, if_pos rfl, if_pos rfl, if_pos rfl]
      clear hB
      go_enter Try.func17, Try.ntmps17
      go_wp2
      generalize hW0 : w.alloc (.cells #[.int .i64 0, .int .i64 0, .int .i64 0, .string ⟨#[]⟩] 23) = W0 at *
      clear hW0
      go_region_held3 (fun _ => True) (trivial) ((go_at_call 28; refine (num_any _ _ (by assumption)).mono ?_; rintro e w' ⟨rfl, rfl⟩))
      all_goals
        clear q1 q2 q3 q4
        go_wp2_with fail
        refine (rcheck_any _ _ _ _ _ hdm).mono ?_
        rw [g]
        rintro e w4 ⟨rfl, hb4'⟩
        have hb4 := undrew hb4'
        clear hb4'
        have hk := codeE_t
        obtain ⟨⟨r0, r1, r2, r3⟩, ⟨f0, f1, f2, f3⟩, hlt⟩ := hr0.later (bt (bel1 W0 _) hb4)
        obtain ⟨⟨c0, c1, c2, c3⟩, -, -⟩ := (at_box W0 (.int .i64 (numS T)) (.int .i64 (numS F)) (.int .i64 (numS K)) (.string D) 23).later hb4
        have hbl := bt hl0 (bt (bel1 W0 _) hb4)
        clear hr0 hl0 hb4 g
        generalize W0.heap.size = b3 at *
        go_wp2
        exact bodyPost_ret (v := .tuple #[.agg #[.int .i64 (numS T), .int .i64 (numS F), .int .i64 (numS K), .string D], .int .i64 0]) (by simp [results, Try.results17, go_sem, r0, r1, r2, r3]) rfl ⟨rfl, (((hbl.setCell (Nat.le_refl _) _).setCell (Nat.le_refl _) _).setCell (Nat.le_refl _) _).setCell (Nat.le_refl _) _⟩
    · rw [hB, g, if_neg (by simp), if_neg (by simp), if_neg (by simp), if_neg (by simp)]
      clear hB
      go_enter Try.func17, Try.ntmps17
      go_wp2
      generalize hW0 : w.alloc (.cells #[.int .i64 0, .int .i64 0, .int .i64 0, .string ⟨#[]⟩] 23) = W0 at *
      clear hW0
      go_region_held3 (fun _ => True) (trivial) ((go_at_call 28; refine (num_any _ _ (by assumption)).mono ?_; rintro e w' ⟨rfl, rfl⟩))
      all_goals
        clear q1 q2 q3 q4
        go_wp2_with fail
        refine (rcheck_any _ _ _ _ _ hdm).mono ?_
        rw [g]
        rintro e w4 ⟨rfl, hb4'⟩
        have hb4 := undrew hb4'
        clear hb4'
        have hk := codeE_f
        obtain ⟨⟨r0, r1, r2, r3⟩, ⟨f0, f1, f2, f3⟩, hlt⟩ := hr0.later (bt (bel1 W0 _) hb4)
        obtain ⟨⟨c0, c1, c2, c3⟩, -, -⟩ := (at_box W0 (.int .i64 (numS T)) (.int .i64 (numS F)) (.int .i64 (numS K)) (.string D) 23).later hb4
        have hbl := bt hl0 (bt (bel1 W0 _) hb4)
        clear hr0 hl0 hb4 g
        generalize W0.heap.size = b3 at *
        go_wp2
        exact bodyPost_ret (v := .tuple #[.agg #[.int .i64 0, .int .i64 0, .int .i64 0, .string ⟨#[]⟩], .int .i64 30]) (by simp [results, Try.results17, go_sem, r0, r1, r2, r3]) rfl ⟨rfl, (((hbl.setCell (Nat.le_refl _) _).setCell (Nat.le_refl _) _).setCell (Nat.le_refl _) _).setCell (Nat.le_refl _) _⟩
  · have hB : decB s = false := by unfold decB; rw [if_neg h]
    rw [hB, if_neg (by simp), if_neg (by simp), if_neg (by simp), if_neg (by simp)]
    clear hB
    have hl0 := bel1 w (.cells #[.int .i64 0, .int .i64 0, .int .i64 0, .string ⟨#[]⟩] 23)
    go_enter Try.func17, Try.ntmps17
    go_wp2
    exact bodyPost_ret (v := .tuple #[.agg #[.int .i64 0, .int .i64 0, .int .i64 0, .string ⟨#[]⟩], .int .i64 30]) (by simp [results, Try.results17, go_sem]) rfl ⟨rfl, hl0⟩
end Go.Proofs.Ytbppijgceacepaa
