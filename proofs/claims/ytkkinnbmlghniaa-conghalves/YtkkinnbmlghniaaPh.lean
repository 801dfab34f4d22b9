/- The example works. -/
import Derived.Test.YtkkinnbmlghniaaPe
import Derived.Test.YtkkinnbmlghniaaPf
import Derived.Test.YtkkinnbmlghniaaPg
namespace Go.Proofs.Ytkkinnbmlghniaa
open Go.RowKit
set_option maxRecDepth 100000
set_option linter.unusedVariables false
set_option linter.unusedSimpArgs false


theorem VY.below {w x : World} {B base : Nat} (ht : Turn (fun k => k = B) w x) {w0 : World} (hb : Below base w0 w) (h0 : base ≤ w.heap.size) (hB : base ≤ B) : Below base w0 x := hb.trans (ht.below h0 (fun k hk e => by omega))
set_option maxHeartbeats 2000000 in
theorem works_any (w : World) : Calls Try.prog 9 #[] w fun e w' => e = .returned (.bool true) ∧ Below w.heap.size w w' := by
  have hF := newV_fine (m := 100) (by decide) (by decide)
  have k1 : ackE 100 100 5 (newV 100) = ⟨500, 1048576, 0, 0, false, 0⟩ := by kernel_rfl
  have k2 : sameE 100 500 9 (⟨500, 1048576, 0, 0, false, 0⟩ : Vs) = ⟨500, 1048576, 1, 0, false, 0⟩ := by kernel_rfl
  have k3 : sameE 100 500 9 (⟨500, 1048576, 1, 0, false, 0⟩ : Vs) = ⟨500, 1048576, 2, 0, false, 0⟩ := by kernel_rfl
  have k4 : sameE 100 500 9 (⟨500, 1048576, 2, 0, false, 0⟩ : Vs) = ⟨550, 250, 3, 0, true, 9⟩ := by kernel_rfl
  have e1 : newV 100 = ⟨400, 1048576, 0, 0, false, 0⟩ := by kernel_rfl
  have b1 : backB 5 (newV 100) = false := by kernel_rfl
  have b2 : sameB (⟨500, 1048576, 0, 0, false, 0⟩ : Vs) = false := by kernel_rfl
  have b3 : sameB (⟨500, 1048576, 1, 0, false, 0⟩ : Vs) = false := by kernel_rfl
  have b4 : sameB (⟨500, 1048576, 2, 0, false, 0⟩ : Vs) = true := by kernel_rfl
  have hF1 : (ackE 100 100 5 (newV 100)).Fine 100 := ackE_fine hF (by decide)
  have hF2 := sameE_fine (f := 500) (nx := 9) hF1
  have hF3 := sameE_fine (f := 500) (nx := 9) hF2
  rw [k1] at hF1 hF2 hF3
  rw [k2] at hF2 hF3
  rw [k3] at hF3
  go_enter Try.func9, Try.ntmps9
  go_wp2_with fail
  refine (new_t 100 w (by decide) (by decide)).mono ?_
  rintro e w1 ⟨B, L, G, rfl, hBw, hV, hb⟩
  have hwin := window_any hV
  rw [show (newV 100).wi = 400 from rfl] at hwin
  go_wp2_with fail
  refine hwin.mono ?_
  rintro e w2 ⟨rfl, rfl⟩
  go_wp2_with fail
  refine (acked_any 100 5 hV hF).mono ?_
  rintro e w3 ⟨rfl, hV3, ht⟩
  have hb3 := VY.below ht hb hb.size hBw
  rw [k1] at hV3
  clear hwin hV ht hb
  go_wp2_with fail
  refine (window_any hV3).mono ?_
  rintro e w4 ⟨rfl, rfl⟩
  go_wp2_with fail
  refine (same_any 500 9 hV3 hF1).mono ?_
  rintro e w5 ⟨rfl, hV5, ht5⟩
  have hb5 := VY.below ht5 hb3 hb3.size hBw
  rw [k2] at hV5
  rw [b2]
  clear hV3 ht5 hb3
  go_wp2_with fail
  refine (same_any 500 9 hV5 hF2).mono ?_
  rintro e w6 ⟨rfl, hV6, ht6⟩
  have hb6 := VY.below ht6 hb5 hb5.size hBw
  rw [k3] at hV6
  rw [b3]
  clear hV5 ht6 hb5
  go_wp2_with fail
  refine (same_any 500 9 hV6 hF3).mono ?_
  rintro e w7 ⟨rfl, hV7, ht7⟩
  have hb7 := VY.below ht7 hb6 hb6.size hBw
  rw [k4] at hV7
  rw [b4]
  clear hV6 ht7 hb6
  go_wp2_with fail
  refine (state_any hV7).mono ?_
  rintro e w8 ⟨rfl, q, rfl⟩
  have hV8 := hV7.drewN q
  have hb8 := below_drewN hb7 q
  clear hV7 hb7
  go_wp2_with fail
  refine (window_any hV8).mono ?_
  rintro e w9 ⟨rfl, rfl⟩
  go_wp2
  go_ret
  exact ⟨rfl, hb8⟩
/-- What CongBounds carries round. -/
structure BI (m : Int) (k : Nat) (s : Vs) : Prop where
  fine : s.Fine m
  c3 : s.me = true → 3 ≤ s.sa
  c0 : s.me = false → s.up = 0
  ga : s.ga ≤ (k : Int) * 1048576
  sa : s.sa ≤ (k : Int)
theorem BI.new {m : Int} (m0 : 1 ≤ m) (m1 : m ≤ 1460) : BI m 0 (newV m) := ⟨newV_fine m0 m1, (fun e => by cases e), fun _ => rfl, by show (0 : Int) ≤ _; omega, by show (0 : Int) ≤ _; omega⟩
theorem BI.late {m f : Int} {k : Nat} {s : Vs} (h : BI m k s) : BI m (k + 1) (lateV m f) := ⟨lateV_fine h.fine.m0 h.fine.m1, (fun e => by cases e), fun _ => rfl, by show (0 : Int) ≤ _; omega, by show (0 : Int) ≤ _; omega⟩
theorem sa1_is {m : Int} {k : Nat} {s : Vs} (h : BI m k s) (hk : k < 200) : sa1 s = s.sa + 1 := by have := h.sa; have := h.fine.s0; unfold sa1; omega
theorem BI.same {m f nx : Int} {k : Nat} {s : Vs} (h : BI m k s) (hk : k < 200) : BI m (k + 1) (sameE m f nx s) ∧ (sameE m f nx s).sa = s.sa + 1 := by
  have e1 := sa1_is h hk
  have hf := sameE_fine (f := f) (nx := nx) h.fine
  have h1 := h.ga
  have h2 := h.sa
  have h3 := h.c3
  have h4 := h.c0
  have e2 : (sameE m f nx s).sa = s.sa + 1 := by
    unfold sameE
    split
    · exact e1
    · split <;> exact e1
  refine ⟨⟨hf, ?_, ?_, ?_, by rw [e2]; omega⟩, e2⟩
  · intro hm
    rw [e2]
    unfold sameE at hm
    split at hm
    · rename_i h5
      have := h3 h5
      omega
    · split at hm
      · rename_i h6
        omega
      · rename_i h5 h6
        exact absurd hm h5
  · intro hm
    unfold sameE at hm ⊢
    split at hm
    · rename_i h5
      rw [h5] at hm; cases hm
    · split at hm
      · cases hm
      · rename_i h5 h6
        rw [if_neg h5, if_neg h6]
        exact h4 hm
  · have : (sameE m f nx s).ga = s.ga := by
      unfold sameE
      split
      · rfl
      · split <;> rfl
    rw [this]; omega
theorem growE_parts {m n : Int} {s : Vs} (n0 : 0 ≤ n) (hn : n ≤ 1048576) (h0 : 0 ≤ s.wi) : (growE m n s).me = s.me ∧ (growE m n s).up = s.up ∧ (growE m n s).sa = s.sa ∧ (growE m n s).ga ≤ s.ga + n ∧ (growE m n s).th = s.th := by
  unfold growE
  split
  · exact ⟨rfl, rfl, rfl, by show s.ga ≤ _; omega, rfl⟩
  · split
    · exact ⟨rfl, rfl, rfl, by show s.ga + n ≤ _; omega, rfl⟩
    · exact ⟨rfl, rfl, rfl, by show s.ga + n - s.wi ≤ _; omega, rfl⟩
theorem BI.ack {m n up : Int} {k : Nat} {s : Vs} (h : BI m k s) (hk : k < 200) : BI m (k + 1) (ackE m n up s) ∧ (ackE m n up s).sa = if backB up s = true then s.sa else 0 := by
  have h1 := h.ga
  have h2 := h.sa
  have h3 := h.c3
  have h4 := h.c0
  have hf := ackE_fine (n := n) (up := up) h.fine (by omega)
  unfold ackE at hf ⊢
  split
  · rename_i h5
    rw [if_pos h5] at hf
    exact ⟨⟨hf, h3, h4, by show s.ga ≤ _; omega, by show s.sa ≤ _; omega⟩, rfl⟩
  · rename_i h5
    rw [if_neg h5] at hf
    split
    · rename_i h6
      rw [if_pos h6] at hf
      exact ⟨⟨hf, (fun e => by cases e), fun _ => rfl, by show s.ga ≤ _; omega, by show (0 : Int) ≤ _; omega⟩, rfl⟩
    · rename_i h6
      rw [if_neg h6] at hf
      obtain ⟨p1, p2, p3, p4, -⟩ := growE_parts (m := m) (s := { s with sa := 0 }) (amt_ok n).1 (amt_ok n).2 (show 0 ≤ s.wi by have := h.fine.w0; have := h.fine.m0; omega)
      have a1 := (amt_ok n).2
      refine ⟨⟨hf, fun e => ?_, fun e => ?_, ?_, ?_⟩, p3⟩
      · rw [p1] at e; exact absurd e h6
      · rw [p2]; exact h4 (by simpa using h6)
      · have : (growE m (amt n) { s with sa := 0 }).ga ≤ s.ga + amt n := p4
        omega
      · rw [p3]; show (0 : Int) ≤ _; omega
end Go.Proofs.Ytkkinnbmlghniaa
