/- The contracts of In and Cut of package seq and of the document's answer for layer 1: each call returns, for every input, just what is named, and leaves the world as it was. -/
import Derived.Test.YtkclookpdngkoaaMore
namespace Go.Proofs.Ytkclookpdngkoaa
open Go.RowKit
set_option maxRecDepth 100000

theorem longB_mk {a : Int} (h0 : 0 ≤ a) (h1 : a ≤ 4294967296) : longB a = true := decide_eq_true ⟨h0, h1⟩
theorem mostB_mk {a : Int} (h0 : 0 ≤ a) (h1 : a ≤ 1073741824) : mostB a = true := decide_eq_true ⟨h0, h1⟩

/-! ### 25: look, at each shape -/
theorem look2_any (a b l : Int) (w : World) :
    Calls Try.prog 30 #[.int .i64 2, .int .i64 a, .int .i64 b, .int .i64 l, .int .i64 0] w fun e w' => e = .returned (.int .i64 (codeOf (numB a && numB b && longB l))) ∧ w' = w := by
  cases hl : longB l
  · rcases longB_f hl with h0 | h0 <;> clear hl
    all_goals
      go_enter Try.func30, Try.ntmps30
      go_wp2
      go_ret
      exact ⟨by simp [codeOf], rfl⟩
  obtain ⟨l0, l1⟩ := longB_t hl; clear hl
  cases hb : numB b
  · rcases numB_f hb with h0 | h0 <;> clear hb
    all_goals
      go_enter Try.func30, Try.ntmps30
      go_wp2
      go_ret
      exact ⟨by simp [codeOf], rfl⟩
  obtain ⟨b0, b1⟩ := numB_t hb; clear hb
  cases ha : numB a
  · rcases numB_f ha with h0 | h0 <;> clear ha
    all_goals
      go_enter Try.func30, Try.ntmps30
      go_wp2
      go_ret
      exact ⟨by simp [codeOf], rfl⟩
  obtain ⟨a0, a1⟩ := numB_t ha; clear ha
  go_enter Try.func30, Try.ntmps30
  go_wp2
  go_ret
  exact ⟨by simp [codeOf], rfl⟩

theorem look3_any (a b l s : Int) (w : World) :
    Calls Try.prog 30 #[.int .i64 3, .int .i64 a, .int .i64 b, .int .i64 l, .int .i64 s] w fun e w' => e = .returned (.int .i64 (codeOf (numB a && numB b && mostB l && mostB s))) ∧ w' = w := by
  cases hs : mostB s
  · by_cases hl : 1073741824 < l
    · clear hs
      go_enter Try.func30, Try.ntmps30
      go_wp2
      go_ret
      exact ⟨by simp [codeOf], rfl⟩
    · rcases mostB_f hs with h0 | h0 <;> clear hs
      all_goals
        go_enter Try.func30, Try.ntmps30
        go_wp2
        go_ret
        exact ⟨by simp [codeOf], rfl⟩
  obtain ⟨s0, s1⟩ := mostB_t hs; clear hs
  cases hl : mostB l
  · rcases mostB_f hl with h0 | h0 <;> clear hl
    all_goals
      go_enter Try.func30, Try.ntmps30
      go_wp2
      go_ret
      exact ⟨by simp [codeOf], rfl⟩
  obtain ⟨l0, l1⟩ := mostB_t hl; clear hl
  cases hb : numB b
  · rcases numB_f hb with h0 | h0 <;> clear hb
    all_goals
      go_enter Try.func30, Try.ntmps30
      go_wp2
      go_ret
      exact ⟨by simp [codeOf], rfl⟩
  obtain ⟨b0, b1⟩ := numB_t hb; clear hb
  cases ha : numB a
  · rcases numB_f ha with h0 | h0 <;> clear ha
    all_goals
      go_enter Try.func30, Try.ntmps30
      go_wp2
      go_ret
      exact ⟨by simp [codeOf], rfl⟩
  obtain ⟨a0, a1⟩ := numB_t ha; clear ha
  go_enter Try.func30, Try.ntmps30
  go_wp2
  go_ret
  exact ⟨by simp [codeOf], rfl⟩

theorem look_of {c d : Int} {s : Array Value} {w : World} (hc : c = d) (h : Calls Try.prog 30 s w fun e w' => e = .returned (.int .i64 c) ∧ w' = w) :
    Calls Try.prog 30 s w fun e w' => e = .returned (.int .i64 d) ∧ w' = w := by rw [← hc]; exact h

/-! ### 19, 20: In -/
/-! ### 21, 22: Cut -/
theorem cut_any (f l t s : Int) (w : World) : Calls Try.prog 24 #[.int .i64 f, .int .i64 l, .int .i64 t, .int .i64 s] w fun e w' => e = .returned (.tuple #[.int .i64 (cutS f l t s), .int .i64 (cutK f l t s), .int .i64 (codeOf (cutB f l t s))]) ∧ w' = w := by
  unfold cutS cutK
  cases h : cutB f l t s
  · have H : Hid (codeOf (numB f && numB t && mostB l && mostB s) = 1) := by unfold Hid; unfold cutB at h; rw [h, codeOf_false]
    clear h
    go_enter Try.func24, Try.ntmps24
    go_wp2_with (first | (go_at_call 30; refine (look_of H.out (look3_any _ _ _ _ _)).mono ?_; rintro e w' ⟨rfl, rfl⟩) | go_in)
    go_ret3
    exact ⟨by simp [codeOf], rfl⟩
  · have H : Hid (codeOf (numB f && numB t && mostB l && mostB s) = 0) := by unfold Hid; unfold cutB at h; rw [h, codeOf_true]
    unfold cutB at h
    simp only [Bool.and_eq_true] at h
    obtain ⟨⟨⟨hf, ht⟩, hl⟩, hs⟩ := h
    obtain ⟨f0, f1⟩ := numB_t hf; obtain ⟨t0, t1⟩ := numB_t ht; obtain ⟨l0, l1⟩ := mostB_t hl; obtain ⟨s0, s1⟩ := mostB_t hs; clear hf ht hl hs
    rw [if_pos rfl, if_pos rfl, codeOf_true]
    by_cases d0 : 0 < (t - f) % 4294967296
    · by_cases d1 : (t - f) % 4294967296 < 2147483648
      all_goals
        go_enter Try.func24, Try.ntmps24
        go_wp2_with (first | (go_at_call 30; refine (look_of H.out (look3_any _ _ _ _ _)).mono ?_; rintro e w' ⟨rfl, rfl⟩) | (go_at_call 34; refine (ahead_any _ _ _ (by omega) (by omega) (by omega) (by omega)).mono ?_; rintro e w' ⟨rfl, rfl⟩) | (go_at_call 35; refine (distance_any _ _ _ (by omega) (by omega) (by omega) (by omega)).mono ?_; rintro e w' ⟨rfl, rfl⟩))
        all_goals
          go_ret3
          refine ⟨tup3 ?_ ?_, rfl⟩ <;> omega
    · go_enter Try.func24, Try.ntmps24
      go_wp2_with (first | (go_at_call 30; refine (look_of H.out (look3_any _ _ _ _ _)).mono ?_; rintro e w' ⟨rfl, rfl⟩) | (go_at_call 34; refine (ahead_any _ _ _ (by omega) (by omega) (by omega) (by omega)).mono ?_; rintro e w' ⟨rfl, rfl⟩) | (go_at_call 35; refine (distance_any _ _ _ (by omega) (by omega) (by omega) (by omega)).mono ?_; rintro e w' ⟨rfl, rfl⟩))
      all_goals
        go_ret3
        refine ⟨tup3 ?_ ?_, rfl⟩ <;> omega

end Go.Proofs.Ytkclookpdngkoaa
