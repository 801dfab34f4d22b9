/- CongGrows, walked. -/
import Derived.Test.YtkkinnbmlghniaaPh
import Derived.Deep.CutBlock
namespace Go.Proofs.Ytkkinnbmlghniaa
open Go.RowKit
set_option maxRecDepth 100000
set_option linter.unusedVariables false
set_option linter.unusedSimpArgs false


/-- A valve under which all is acknowledged: it mends not, and what is gathered is below the window. -/
structure GI (m th : Int) (s : Vs) : Prop where
  fine : s.Fine m
  me : s.me = false
  th : s.th = th
  ga : s.ga < s.wi
theorem GI.new {m : Int} (m0 : 1 ≤ m) (m1 : m ≤ 1460) : GI m 1048576 (newV m) := by
  have h := newV_fine m0 m1
  refine ⟨h, rfl, rfl, ?_⟩
  have := h.w0
  show (0 : Int) < _
  omega
theorem GI.late {m : Int} (f : Int) (m0 : 1 ≤ m) (m1 : m ≤ 1460) : GI m (halfV m f) (lateV m f) := ⟨lateV_fine m0 m1, rfl, rfl, by show (0 : Int) < m; omega⟩
theorem GI.ack {m th : Int} {s : Vs} (h : GI m th s) : backB 0 s = false ∧ ackE m m 0 s = growE m m { s with sa := 0 } := by
  have hb : backB 0 s = false := by unfold backB; rw [h.me]; rfl
  refine ⟨hb, ?_⟩
  have ha : amt m = m := by have := h.fine.m0; have := h.fine.m1; unfold amt; omega
  unfold ackE
  rw [if_neg (by rw [hb]; decide), if_neg (by rw [h.me]; decide), ha]
theorem GI.step {m th : Int} {s : Vs} (h : GI m th s) : GI m th (ackE m m 0 s) ∧ (s.wi < th → (ackE m m 0 s).wi = min 1048576 (s.wi + m)) ∧ (th ≤ s.wi → (s.ga + m < s.wi ∧ (ackE m m 0 s).wi = s.wi ∧ (ackE m m 0 s).ga = s.ga + m) ∨ (s.wi ≤ s.ga + m ∧ (ackE m m 0 s).wi = min 1048576 (s.wi + m) ∧ (ackE m m 0 s).ga = s.ga + m - s.wi)) := by
  obtain ⟨hb, he⟩ := h.ack
  have hf := ackE_fine (n := m) (up := 0) h.fine (by have := h.ga; have := h.fine.w1; omega)
  have ⟨m0, m1, w0, w1, t0, t1, s0, s1, g0, g1, u0, u1⟩ := h.fine
  have hg := h.ga
  have ht := h.th
  have hmm : min m m = m := Int.min_self m
  have hbd : bnd m (s.wi + m) = min 1048576 (s.wi + m) := by unfold bnd; omega
  rw [he] at hf ⊢
  by_cases h1 : s.wi < s.th
  · have e : growE m m { s with sa := 0 } = { s with sa := 0, wi := bnd m (s.wi + min m m) } := if_pos h1
    rw [e] at hf ⊢
    rw [hmm, hbd] at hf ⊢
    refine ⟨⟨hf, h.me, h.th, ?_⟩, fun _ => rfl, fun h2 => by omega⟩
    show s.ga < min 1048576 (s.wi + m)
    omega
  · by_cases h2 : s.ga + m < s.wi
    · have e : growE m m { s with sa := 0 } = { s with sa := 0, ga := s.ga + m } := by
        unfold growE
        rw [if_neg h1, if_pos h2]
      rw [e] at hf ⊢
      exact ⟨⟨hf, h.me, h.th, h2⟩, fun h3 => by omega, fun _ => Or.inl ⟨h2, rfl, rfl⟩⟩
    · have e : growE m m { s with sa := 0 } = { s with sa := 0, ga := s.ga + m - s.wi, wi := bnd m (s.wi + m) } := by
        unfold growE
        rw [if_neg h1, if_neg h2]
      rw [e] at hf ⊢
      rw [hbd] at hf ⊢
      refine ⟨⟨hf, h.me, h.th, ?_⟩, fun h3 => by omega, fun _ => Or.inr ⟨by omega, rfl, rfl⟩⟩
      show s.ga + m - s.wi < min 1048576 (s.wi + m)
      omega
/-- What holds behind j acknowledgements of the last loop: w, g: the window and what was gathered ahead of it. -/
def GJ (m th w g : Int) (j : Nat) (s : Vs) : Prop := GI m th s ∧ ((s.wi = w ∧ s.ga = g + (j : Int) * m) ∨ (s.wi = w + m ∧ s.ga = g + (j : Int) * m - w))
theorem GJ.step {m th w g : Int} {j : Nat} {s : Vs} (h : GJ m th w g j s) (hw : th ≤ w) (hc : w + m < 1048576) (hg : g < w) (hj : (j : Int) * m ≤ w) : GJ m th w g (j + 1) (ackE m m 0 s) := by
  obtain ⟨hi, hcase⟩ := h
  have m0 := hi.fine.m0
  obtain ⟨h1, -, h3⟩ := hi.step
  refine ⟨h1, ?_⟩
  have ej : ((j + 1 : Nat) : Int) * m = (j : Int) * m + m := by rw [Int.natCast_add, Int.add_mul]; simp
  rw [ej]
  generalize (j : Int) * m = jm at *
  rcases hcase with ⟨a, b⟩ | ⟨a, b⟩
  · rcases h3 (by omega) with ⟨c, d, e⟩ | ⟨c, d, e⟩
    · exact Or.inl ⟨by omega, by omega⟩
    · exact Or.inr ⟨by omega, by omega⟩
  · rcases h3 (by omega) with ⟨c, d, e⟩ | ⟨c, d, e⟩
    · exact Or.inr ⟨by omega, by omega⟩
    · omega
theorem GJ.fin {m th w g : Int} {s : Vs} {j : Nat} (h : GJ m th w g j s) (hj : w < (j : Int) * m) (g0 : 0 ≤ g) : s.wi = w + m := by
  obtain ⟨hi, hcase⟩ := h
  have := hi.ga
  rcases hcase with ⟨a, b⟩ | ⟨a, b⟩
  · omega
  · exact a
set_option maxHeartbeats 8000000 in
theorem grows_any (mss many lates : Int) (w : World) (w1 : (Lit.int .i64 lates).wf = true) :
    Calls Try.prog 5 #[.int .i64 mss, .int .i64 many, .int .i64 lates] w fun e w' => e = .returned (.bool true) ∧ Below w.heap.size w w' := by
  go_enter Try.func5, Try.ntmps5
  go_wp2_with fail
  refine (among_any mss 1460 w (by decide) (by decide)).mono ?_
  rintro e w1 ⟨rfl, rfl⟩
  have f0 : 0 ≤ mss % 1460 := Int.emod_nonneg _ (by decide)
  have f1 : mss % 1460 < 1460 := Int.emod_lt_of_pos _ (by decide)
  generalize mss % 1460 = m' at *
  go_wp2_with fail
  have m0 : 1 ≤ 1 + m' := by omega
  have m1 : 1 + m' ≤ 1460 := by omega
  generalize 1 + m' = m at *
  clear f0 f1
  refine (new_t m w1 m0 m1).mono ?_
  rintro e w2 ⟨B, L, G, rfl, hBw, hV, hb⟩
  go_wp2_with fail
  refine (works_any w2).mono ?_
  rintro e w3 ⟨rfl, hb2⟩
  have hV3 := hV.later hb2
  have hb3 := bt hb hb2
  have hF0 := GI.new m0 m1
  clear hb hb2 hV
  go_upto_if 37 with fail
  go_cut [7] from 35 to 41 (fun c7 W => c7 = .pointer (some ⟨B, 0, none⟩) ∧ ∃ (th : Int) (s : Vs), 2 * m ≤ th ∧ th ≤ 1048576 ∧ GI m th s ∧ VY W B L G m s ∧ Below w1.heap.size w1 W)
  case first =>
    cases hl : (lates.tmod 2 == 1) with
    | false =>
      go_wp2
      go_meet
      case rel => exact ⟨rfl, 1048576, _, by omega, by omega, hF0, hV3, hb3⟩
    | true =>
      go_wp2_with fail
      refine (late_any (20 * m) hV3 hF0.fine).mono ?_
      rintro e w4 ⟨rfl, hV4, ht⟩
      have hb4 := VY.below ht hb3 hb3.size hBw
      have hh := halfV_ok (f := 20 * m) m0 m1
      go_wp2
      go_meet
      case rel => exact ⟨rfl, _, _, hh.1, hh.2, GI.late (20 * m) m0 m1, hV4, hb4⟩
  case rest =>
  clear hV3 hb3 hF0
  obtain ⟨rfl, th, s0, t0, t1, hI, hV, hb⟩ := hcut
  obtain ⟨w4, hw4⟩ : ∃ x, x = wc := ⟨wc, rfl⟩
  subst hw4
  have hst := state_any hV
  rw [hI.th, hI.me] at hst
  go_wp2_with fail
  refine hst.mono ?_
  rintro e w5 ⟨rfl, q, rfl⟩
  have hV5 := hV.drewN q
  have hb5 := below_drewN hb q
  clear hV hb hst
  generalize w4.drewN q = w5 at *
  go_wp2_with fail
  refine (among_any many 300 w5 (by decide) (by decide)).mono ?_
  rintro e w6 ⟨rfl, rfl⟩
  have n0 : 0 ≤ many % 300 := Int.emod_nonneg _ (by decide)
  have n1 : many % 300 < 300 := Int.emod_lt_of_pos _ (by decide)
  generalize many % 300 = nn at *
  obtain ⟨N, rfl⟩ : ∃ N : Nat, nn = (N : Int) := ⟨nn.toNat, by omega⟩
  go_wp2_with fail
  try go_frame
  go_loopw [52] (fun i wr => ∃ (k : Nat) (s : Vs), k ≤ N ∧ i = .int .i64 (k : Int) ∧ GI m th s ∧ VY wr B L G m s ∧ Below w1.heap.size w1 wr) (fun i _ => N - (intOf i).toNat)
  case atStart => exact ⟨0, s0, Nat.zero_le _, rfl, hI, hV5, hb5⟩
  case round =>
    clear hV5 hb5 hI
    obtain ⟨k, s, hkN, rfl, hI, hV, hbr⟩ := hrel
    by_cases hlt : k < N
    · have hk1 : (k : Int) < (N : Int) := by omega
      have hk3 : (0 : Int) ≤ (k : Int) := by omega
      obtain ⟨hI2, hs1, hs2⟩ := hI.step
      obtain ⟨hbk, -⟩ := hI.ack
      have hak := acked_any m 0 hV hI.fine
      rw [hbk] at hak
      have hw0 := hI.fine.w0
      have hw1 := hI.fine.w1
      generalize ackE m m 0 s = s2 at *
      go_wp2_with fail
      refine (window_any hV).mono ?_
      rintro e w7 ⟨rfl, rfl⟩
      go_wp2_with fail
      refine hak.mono ?_
      rintro e w8 ⟨rfl, hV8, ht⟩
      have hb8 := VY.below ht hbr hbr.size hBw
      clear hV hak ht hbr
      go_wp2_with fail
      refine (window_any hV8).mono ?_
      rintro e w9 ⟨rfl, rfl⟩
      have hi0 := hI.th
      clear hI
      have HI2 : Hid (GI m th s2) := hI2
      clear hI2 hi0 hbk
      by_cases h1 : s.wi < th
      · have hx : (s2.wi != min 1048576 (s.wi + m)) = false := by rw [hs1 h1]; simp
        have h1' : ¬ th ≤ s.wi := by omega
        clear hs1 hs2
        go_wp2
        go_roundw
        case rel => exact ⟨k + 1, s2, by omega, by simp, HI2.out, hV8, hb8⟩
        case measure => simp [intOf]; omega
      · have h1' : th ≤ s.wi := by omega
        rcases hs2 h1' with ⟨c, d, e⟩ | ⟨c, d, e⟩
        · have hx : (s2.wi != s.wi) = false := by rw [d]; simp
          clear hs1 hs2 c d e
          go_wp2
          go_roundw
          case rel => exact ⟨k + 1, s2, by omega, by simp, HI2.out, hV8, hb8⟩
          case measure => simp [intOf]; omega
        · have hx : (s2.wi != min 1048576 (s.wi + m)) = false := by rw [d]; simp
          clear hs1 hs2 c d e
          cases hy : (s2.wi != s.wi) with
          | true =>
            go_wp2
            go_roundw
            case rel => exact ⟨k + 1, s2, by omega, by simp, HI2.out, hV8, hb8⟩
            case measure => simp [intOf]; omega
          | false =>
            go_wp2
            go_roundw
            case rel => exact ⟨k + 1, s2, by omega, by simp, HI2.out, hV8, hb8⟩
            case measure => simp [intOf]; omega
    · have hk1 : ¬ (k : Int) < (N : Int) := by omega
      have hw0 := hI.fine.w0
      have hw1 := hI.fine.w1
      have hga := hI.ga
      have hg0 := hI.fine.g0
      by_cases hc : th ≤ s.wi ∧ s.wi + m < 1048576
      · obtain ⟨hc1, hc2⟩ := hc
        obtain ⟨Q, hQ⟩ : ∃ Q : Nat, (Q : Int) = s.wi / m := ⟨(s.wi / m).toNat, by have := Int.ediv_nonneg (show 0 ≤ s.wi by omega) (show 0 ≤ m by omega); omega⟩
        have hq1 : s.wi.tdiv m = (Q : Int) := by rw [hQ]; exact Int.tdiv_eq_ediv_of_nonneg (by omega)
        have hq2 : (Q : Int) * m ≤ s.wi := by rw [hQ]; exact Int.ediv_mul_le _ (by omega)
        have hq3 : s.wi < ((Q : Int) + 1) * m := by rw [hQ]; exact Int.lt_ediv_add_one_mul_self _ (by omega)
        have hq4 : (Q : Int) ≤ 1048576 := by rw [hQ]; exact Int.le_trans (Int.ediv_le_self _ (by omega)) hw1
        have hm0 : (m == 0) = false := by rw [beq_eq_false_iff_ne]; omega
        have HQ2 : Hid ((Q : Int) * m ≤ s.wi) := hq2
        have HQ3 : Hid (s.wi < ((Q : Int) + 1) * m) := hq3
        have HJ : Hid (GJ m th s.wi s.ga 0 s) := ⟨hI, Or.inl ⟨rfl, by simp⟩⟩
        clear hQ hq2 hq3 hI
        go_wp2_with fail
        refine (window_any hV).mono ?_
        rintro e w7 ⟨rfl, rfl⟩
        go_wp2_with fail
        try go_frame
        go_loopw [106] (fun i wx => ∃ (j : Nat) (s' : Vs), j ≤ Q + 1 ∧ i = .int .i64 (j : Int) ∧ Hid (GJ m th s.wi s.ga j s') ∧ VY wx B L G m s' ∧ Below w1.heap.size w1 wx) (fun i _ => Q + 1 - (intOf i).toNat)
        case atStart => exact ⟨0, s, Nat.zero_le _, rfl, HJ, hV, hbr⟩
        case round =>
          clear hV hbr HJ
          obtain ⟨j, s', hjQ, rfl, hJ, hV, hbx⟩ := hrel
          by_cases hjl : j < Q + 1
          · have hj1 : (j : Int) < (Q : Int) + 1 := by omega
            have hj3 : (0 : Int) ≤ (j : Int) := by omega
            have hJ2 : GJ m th s.wi s.ga (j + 1) (ackE m m 0 s') := hJ.out.step hc1 hc2 hga (Int.le_trans (Int.mul_le_mul_of_nonneg_right (by omega) (by omega)) HQ2.out)
            have hHJ : Hid (GJ m th s.wi s.ga (j + 1) (ackE m m 0 s')) := hJ2
            have hak := acked_any m 0 hV hJ.out.1.fine
            clear hJ2
            generalize ackE m m 0 s' = s2 at *
            go_wp2_with fail
            refine hak.mono ?_
            rintro e w8 ⟨rfl, hV8, ht⟩
            have hb8 := VY.below ht hbx hbx.size hBw
            clear hV hak ht hbx
            go_wp2
            go_roundw
            case rel => exact ⟨j + 1, s2, by omega, by simp, hHJ, hV8, hb8⟩
            case measure => simp [intOf]; omega
          · have hj1 : ¬ (j : Int) < (Q : Int) + 1 := by omega
            have hjq : (j : Int) = (Q : Int) + 1 := by omega
            have hfin := GJ.fin hJ.out (by rw [hjq]; exact HQ3.out) hg0
            have hz1 : s.wi < s'.wi := by omega
            have hz2 : s'.wi ≤ s.wi + 2 * m := by omega
            clear hfin hjq hJ
            have hw2 : s'.wi ≤ 2000000 := by omega
            go_wp2_with fail
            refine (window_any hV).mono ?_
            rintro e w8 ⟨rfl, rfl⟩
            go_wp2_with fail
            refine (window_any hV).mono ?_
            rintro e w8 ⟨rfl, rfl⟩
            go_wp2
            go_ret
            exact ⟨rfl, hbx⟩
      · go_wp2_with fail
        refine (window_any hV).mono ?_
        rintro e w7 ⟨rfl, rfl⟩
        by_cases hc1 : th ≤ s.wi
        · have hc2 : ¬ s.wi + m < 1048576 := fun h => hc ⟨hc1, h⟩
          clear hc
          go_wp2
          go_ret
          exact ⟨rfl, hbr⟩
        · clear hc
          go_wp2
          go_ret
          exact ⟨rfl, hbr⟩
end Go.Proofs.Ytkkinnbmlghniaa
