/- What a sample brings; Sample and Back. -/
import Derived.Test.YtlhfmkobmaafcaaRa
import Derived.Test.YtlhfmkobmaafcaaFactsD
namespace Go.Proofs.Ytlhfmkobmaafcaa
open Go.RowKit
set_option maxRecDepth 100000
set_option linter.unusedVariables false
set_option linter.unusedSimpArgs false

theorem Turn.drew {S : Nat → Prop} {w w' : World} (h : Turn S w w') : Turn S w w'.drew := ⟨h.os, h.tape, h.output, h.size, h.block⟩
theorem with_any (so : Bool) (me de t : Int) (w : World) (m0 : 0 ≤ me) (m1 : me ≤ 8388608) (d0 : 0 ≤ de) (d1 : de ≤ 4194307) (ht : tickOk t = true) (hn : so = false → me = 0 ∧ de = 0) :
    Calls Try.prog 18 #[.agg #[.bool so, .int .i64 me, .int .i64 de], .int .i64 t] w fun e w' => e = .returned (.agg #[.bool true, .int .i64 (meS so me t), .int .i64 (deS so me de t)]) ∧ Below w.heap.size w w' := by
  obtain ⟨t0, t1⟩ := of_decide_eq_true ht
  have e8 : me.tdiv 8 = me / 8 := Int.tdiv_eq_ediv_of_nonneg m0
  have e4 : de.tdiv 4 = de / 4 := Int.tdiv_eq_ediv_of_nonneg d0
  cases so with
  | false =>
    obtain ⟨rfl, rfl⟩ := hn rfl
    have e2 : (t * 4).tdiv 2 = 2 * t := by rw [Int.tdiv_eq_ediv_of_nonneg (by omega)]; omega
    have e3 : t * 4 / 2 = 2 * t := by omega
    have e5 : t * 8 = 8 * t := by omega
    go_enter Try.func18, Try.ntmps18
    go_wp2
    exact bodyPost_ret (v := .agg #[.bool true, .int .i64 (8 * t), .int .i64 (2 * t)]) (by simp [results, Try.results18, go_sem, e3, e5]) rfl ⟨rfl, bt (bel1 _ _) (bel1 _ _)⟩
  | true =>
    have e3 : max (t - me / 8) (-(t - me / 8)) ≤ 1048576 := by omega
    have e6 : 0 ≤ max (t - me / 8) (-(t - me / 8)) := by omega
    go_enter Try.func18, Try.ntmps18
    go_wp2
    exact bodyPost_ret (v := .agg #[.bool true, .int .i64 (me + (t - me / 8)), .int .i64 (de + (max (t - me / 8) (-(t - me / 8)) - de / 4))]) (by simp [results, Try.results18, go_sem]) rfl ⟨rfl, bt (bel1 _ _) (bel1 _ _)⟩
theorem bwait_any (so : Bool) (me de : Int) (w : World) (m0 : 0 ≤ me) (m1 : me ≤ 8388608) (d0 : 0 ≤ de) (d1 : de ≤ 4194307) :
    Calls Try.prog 19 #[.agg #[.bool so, .int .i64 me, .int .i64 de]] w fun e w' => e = .returned (.int .i64 (me / 8 + max de 1)) ∧ Below w.heap.size w w' := by
  have e8 : me.tdiv 8 = me / 8 := Int.tdiv_eq_ediv_of_nonneg m0
  go_enter Try.func19, Try.ntmps19
  go_wp2
  go_ret
  exact ⟨rfl, bel1 _ _⟩
theorem back_any (B : Nat) (le gr : Int) (s : Es) (w : World) (hB : At w B (rV le gr s)) (hF : s.Fine le gr) :
    Calls Try.prog 12 #[.pointer (some ⟨B, 0, none⟩)] w fun e w' => e = .returned (.int .i64 (backE gr s).wa) ∧ At w' B (rV le gr (backE gr s)) ∧ Turn (fun k => k = B) w w' := by
  have hk : ∀ (W : World), At W B (rV le gr s) → At ((W.setCell ⟨B, 5, none⟩ (.int .i64 (min (2 * s.wa) gr))).setCell ⟨B, 6, none⟩ (.int .i64 (min (s.ba + 1) 32))) B (rV le gr (backE gr s)) := fun W h => (h.set 5 _).set 6 _
  have ht : ∀ (W : World), Turn (fun k => k = B) w W → Turn (fun k => k = B) w ((W.setCell ⟨B, 5, none⟩ (.int .i64 (min (2 * s.wa) gr))).setCell ⟨B, 6, none⟩ (.int .i64 (min (s.ba + 1) 32))) := fun W h => (h.trans (turn_set _ _ _ _)).trans (turn_set _ _ _ _)
  obtain ⟨⟨c0, c1, c2, c3, c4, c5, c6⟩, f0, f1, f2, f3, f4, f5, f6⟩ := hB.seven
  obtain ⟨l0, g1, m0, m1, d0, d1, w0, w1, b0, b1, no⟩ := hF
  go_enter Try.func12, Try.ntmps12
  go_upto_region 1 with fail
  go_region
  go_wp2
  go_ret
  exact ⟨rfl, hk _ hB, (ht _ (Turn.refl w)).drew⟩
theorem sample_f (B : Nat) (t : Int) (w : World) (h : tickOk t = false) :
    Calls Try.prog 13 #[.pointer (some ⟨B, 0, none⟩), .int .i64 t] w fun e w' => e = .returned (.int .i64 1) ∧ w' = w := by
  have h' := of_decide_eq_false h
  go_enter Try.func13, Try.ntmps13
  by_cases a0 : t < 0
  · go_wp2
    go_ret
    exact ⟨rfl, rfl⟩
  · have a1 : 1048576 < t := by omega
    go_wp2
    go_ret
    exact ⟨rfl, rfl⟩
theorem At.samp {W : World} {B : Nat} {le gr : Int} {s : Es} (h : At W B (rV le gr s)) (a b : Int) : At (((W.setCell ⟨B, 2, none⟩ (.bool true)).setCell ⟨B, 3, none⟩ (.int .i64 a)).setCell ⟨B, 4, none⟩ (.int .i64 b)) B (rV le gr { s with so := true, me := a, de := b }) := ((h.set 2 _).set 3 _).set 4 _
theorem turn_samp (W : World) (B : Nat) (a b : Int) : Turn (fun k => k = B) W (((W.setCell ⟨B, 2, none⟩ (.bool true)).setCell ⟨B, 3, none⟩ (.int .i64 a)).setCell ⟨B, 4, none⟩ (.int .i64 b)) := ((turn_set _ _ _ _).trans (turn_set _ _ _ _)).trans (turn_set _ _ _ _)
set_option maxHeartbeats 4000000 in
theorem sample_of (B : Nat) (le gr t a b : Int) (s : Es) (w : World) (hB : At w B (rV le gr s)) (h : tickOk t = true) (n0 : 0 ≤ a) (n1 : a ≤ 8388608) (n2 : 0 ≤ b) (n3 : b ≤ 4194307)
    (hw : Calls Try.prog 18 #[.agg #[.bool s.so, .int .i64 s.me, .int .i64 s.de], .int .i64 t] w fun e w' => e = .returned (.agg #[.bool true, .int .i64 a, .int .i64 b]) ∧ Below w.heap.size w w') :
    Calls Try.prog 13 #[.pointer (some ⟨B, 0, none⟩), .int .i64 t] w fun e w' => e = .returned (.int .i64 0) ∧ At w' B (rV le gr { so := true, me := a, de := b, wa := min (max (a / 8 + max b 1) le) gr, ba := 0 }) ∧ Turn (fun k => k = B) w w' := by
  have h' := of_decide_eq_true h
  obtain ⟨⟨c0, c1, c2, c3, c4, c5, c6⟩, f0, f1, f2, f3, f4, f5, f6⟩ := hB.seven
  go_enter Try.func13, Try.ntmps13
  go_upto_region 3 with fail
  go_wp2_with fail
  refine hw.mono ?_
  rintro e w1 ⟨rfl, hb1⟩
  have hB1 := hB.later hb1
  clear c0 c1 c2 c3 c4 c5 c6 f0 f1 f2 f3 f4 f5 f6
  obtain ⟨⟨c0, c1, c2, c3, c4, c5, c6⟩, f0, f1, f2, f3, f4, f5, f6⟩ := hB1.seven
  go_upto_region 4 with fail
  have hB2 := hB1.samp a b
  have ht2 := (Turn.of_below (S := fun k => k = B) hb1).trans (turn_samp w1 B a b)
  generalize ((w1.setCell ⟨B, 2, none⟩ (.bool true)).setCell ⟨B, 3, none⟩ (.int .i64 a)).setCell ⟨B, 4, none⟩ (.int .i64 b) = w2 at *
  clear c0 c1 c2 c3 c4 c5 c6 f0 f1 f2 f3 f4 f5 f6
  obtain ⟨⟨c0, c1, c2, c3, c4, c5, c6⟩, f0, f1, f2, f3, f4, f5, f6⟩ := hB2.seven
  have HS0 : At w2.drew B (rV le gr { s with so := true, me := a, de := b }) ∧ Turn (fun k => k = B) w w2.drew := ⟨hB2, ht2.drew⟩
  clear c0 c1 c2 c3 c4 c5 c6 f0 f1 f2 f3 f4 f5 f6 hB2 ht2 hB1 hB hw hb1
  refine wp_region_any (by kernel_rfl) ?_
  refine region_facts_end (fun W => At W B (rV le gr { s with so := true, me := a, de := b }) ∧ Turn (fun k => k = B) w W) (GV (fun qq => match qq with | 0 => .pointer (some ⟨B, 0, none⟩) | 1 => .pointer (some ⟨B, 0, none⟩) | 2 => .pointer (some ⟨B, 0, none⟩) | 3 => .pointer (some ⟨B, 2, none⟩) | 4 => .agg #[.bool true, .int .i64 a, .int .i64 b] | 5 => .int .i64 (a / 8 + max b 1) | 6 => .pointer (some ⟨B, 0, none⟩) | 7 => .pointer (some ⟨B, 0, none⟩) | 8 => .pointer (some ⟨B, 0, none⟩) | 9 => .int .i64 (le) | 10 => .int .i64 (max (a / 8 + max b 1) le) | 11 => .pointer (some ⟨B, 0, none⟩) | 12 => .pointer (some ⟨B, 0, none⟩) | 13 => .pointer (some ⟨B, 1, none⟩) | 14 => .int .i64 (gr) | 15 => .int .i64 (min (max (a / 8 + max b 1) le) gr) | _ => undef) (fun _ => none)) (n := 41) 16 6 (by kernel_rfl) (by kernel_rfl) rfl (by kernel_rfl) (GV_later _ _) ?_ ?_ HS0 (Nat.le_refl _)
  · skip
    refine ⟨?_, ?_, ?_, ?_, ?_, ?_, ?_, ?_, ?_, ?_, ?_, ?_, ?_, ?_, ?_, ?_, trivial⟩
    · intro ac w1 hS hT hB hD K hK
      rw [if_pos (by rfl)]
      have d0 : ac.tmps.getD 0 undef = .pointer (some ⟨B, 0, none⟩) := hB 0 (by kernel_rfl)
      clear hB hD hT
      go_simp
      exact hK _ _ hS (Below.refl _ _) rfl
    · intro ac w1 hS hT hB hD K hK
      rw [if_pos (by rfl)]
      have d0 : ac.tmps.getD 0 undef = .pointer (some ⟨B, 0, none⟩) := hB 0 (by kernel_rfl)
      clear hB hD hT
      go_simp
      exact hK _ _ hS (Below.refl _ _) rfl
    · intro ac w1 hS hT hB hD K hK
      rw [if_pos (by rfl)]
      have d21 : ac.tmps.getD 21 undef = .pointer (some ⟨B, 0, none⟩) := hD ⟨1, .data⟩ (by simp) rfl _ 21 rfl rfl
      clear hB hD hT
      go_simp
      exact hK _ _ hS (Below.refl _ _) rfl
    · intro ac w1 hS hT hB hD K hK
      rw [if_pos (by rfl)]
      have d22 : ac.tmps.getD 22 undef = .pointer (some ⟨B, 0, none⟩) := hD ⟨2, .data⟩ (by simp) rfl _ 22 rfl rfl
      clear hB hD hT
      go_simp
      exact hK _ _ hS (Below.refl _ _) rfl
    · intro ac w1 hS hT hB hD K hK
      rw [if_pos (by rfl)]
      have d23 : ac.tmps.getD 23 undef = .pointer (some ⟨B, 2, none⟩) := hD ⟨3, .data⟩ (by simp) rfl _ 23 rfl rfl
      clear hB hD hT
      obtain ⟨⟨c0, c1, c2, c3, c4, c5, c6⟩, f0, f1, f2, f3, f4, f5, f6⟩ := hS.1.seven
      go_simp
      exact hK _ _ hS (Below.refl _ _) rfl
    · intro ac w1 hS hT hB hD K hK
      rw [if_pos (by rfl)]
      have d24 : ac.tmps.getD 24 undef = .agg #[.bool true, .int .i64 a, .int .i64 b] := hD ⟨4, .data⟩ (by simp) rfl _ 24 rfl rfl
      clear hB hD hT
      go_simp
      refine (bwait_any true a b _ n0 n1 n2 n3).mono ?_
      rintro e w' ⟨rfl, hb⟩
      exact hK _ _ ⟨hS.1.later hb, hS.2.later hb⟩ hb rfl
    · intro ac w1 hS hT hB hD K hK
      rw [if_pos (by rfl)]
      have d0 : ac.tmps.getD 0 undef = .pointer (some ⟨B, 0, none⟩) := hB 0 (by kernel_rfl)
      clear hB hD hT
      go_simp
      exact hK _ _ hS (Below.refl _ _) rfl
    · intro ac w1 hS hT hB hD K hK
      rw [if_pos (by rfl)]
      have d26 : ac.tmps.getD 26 undef = .pointer (some ⟨B, 0, none⟩) := hD ⟨6, .data⟩ (by simp) rfl _ 26 rfl rfl
      clear hB hD hT
      go_simp
      exact hK _ _ hS (Below.refl _ _) rfl
    · intro ac w1 hS hT hB hD K hK
      rw [if_pos (by rfl)]
      have d27 : ac.tmps.getD 27 undef = .pointer (some ⟨B, 0, none⟩) := hD ⟨7, .data⟩ (by simp) rfl _ 27 rfl rfl
      clear hB hD hT
      go_simp
      exact hK _ _ hS (Below.refl _ _) rfl
    · intro ac w1 hS hT hB hD K hK
      rw [if_pos (by rfl)]
      have d28 : ac.tmps.getD 28 undef = .pointer (some ⟨B, 0, none⟩) := hD ⟨8, .data⟩ (by simp) rfl _ 28 rfl rfl
      clear hB hD hT
      obtain ⟨⟨c0, c1, c2, c3, c4, c5, c6⟩, f0, f1, f2, f3, f4, f5, f6⟩ := hS.1.seven
      go_simp
      exact hK _ _ hS (Below.refl _ _) rfl
    · intro ac w1 hS hT hB hD K hK
      rw [if_pos (by rfl)]
      have d25 : ac.tmps.getD 25 undef = .int .i64 (a / 8 + max b 1) := hD ⟨5, .data⟩ (by simp) rfl _ 25 rfl rfl
      have d29 : ac.tmps.getD 29 undef = .int .i64 (le) := hD ⟨9, .data⟩ (by simp) rfl _ 29 rfl rfl
      clear hB hD hT
      go_simp
      exact hK _ _ hS (Below.refl _ _) rfl
    · intro ac w1 hS hT hB hD K hK
      rw [if_pos (by rfl)]
      have d0 : ac.tmps.getD 0 undef = .pointer (some ⟨B, 0, none⟩) := hB 0 (by kernel_rfl)
      clear hB hD hT
      go_simp
      exact hK _ _ hS (Below.refl _ _) rfl
    · intro ac w1 hS hT hB hD K hK
      rw [if_pos (by rfl)]
      have d31 : ac.tmps.getD 31 undef = .pointer (some ⟨B, 0, none⟩) := hD ⟨11, .data⟩ (by simp) rfl _ 31 rfl rfl
      clear hB hD hT
      go_simp
      exact hK _ _ hS (Below.refl _ _) rfl
    · intro ac w1 hS hT hB hD K hK
      rw [if_pos (by rfl)]
      have d32 : ac.tmps.getD 32 undef = .pointer (some ⟨B, 0, none⟩) := hD ⟨12, .data⟩ (by simp) rfl _ 32 rfl rfl
      clear hB hD hT
      go_simp
      exact hK _ _ hS (Below.refl _ _) rfl
    · intro ac w1 hS hT hB hD K hK
      rw [if_pos (by rfl)]
      have d33 : ac.tmps.getD 33 undef = .pointer (some ⟨B, 1, none⟩) := hD ⟨13, .data⟩ (by simp) rfl _ 33 rfl rfl
      clear hB hD hT
      obtain ⟨⟨c0, c1, c2, c3, c4, c5, c6⟩, f0, f1, f2, f3, f4, f5, f6⟩ := hS.1.seven
      go_simp
      exact hK _ _ hS (Below.refl _ _) rfl
    · intro ac w1 hS hT hB hD K hK
      rw [if_pos (by rfl)]
      have d30 : ac.tmps.getD 30 undef = .int .i64 (max (a / 8 + max b 1) le) := hD ⟨10, .data⟩ (by simp) rfl _ 30 rfl rfl
      have d34 : ac.tmps.getD 34 undef = .int .i64 (gr) := hD ⟨14, .data⟩ (by simp) rfl _ 34 rfl rfl
      clear hB hD hT
      go_simp
      exact hK _ _ hS (Below.refl _ _) rfl
  · intro ac w9 hS hT hdf hB hF
    obtain ⟨⟨l⟩, df⟩ := ac
    match l, hT with
    | x0 :: x1 :: x2 :: x3 :: x4 :: x5 :: x6 :: x7 :: x8 :: x9 :: x10 :: x11 :: x12 :: x13 :: x14 :: x15 :: x16 :: x17 :: x18 :: x19 :: x20 :: x21 :: x22 :: x23 :: x24 :: x25 :: x26 :: x27 :: x28 :: x29 :: x30 :: x31 :: x32 :: x33 :: x34 :: x35 :: x36 :: x37 :: x38 :: x39 :: x40 :: [], _ =>
      have s0 : x0 = .pointer (some ⟨B, 0, none⟩) := hB 0 (by kernel_rfl)
      have s1 : x1 = .int .i64 (t) := hB 1 (by kernel_rfl)
      have s20 : x20 = .pointer (some ⟨B, 0, none⟩) := hF 0 _ 20 (by decide) rfl rfl
      have s35 : x35 = .int .i64 (min (max (a / 8 + max b 1) le) gr) := hF 15 _ 35 (by decide) rfl rfl
      have sd : df = [] := hdf
      subst s0 s1 s20 s35 sd
      clear hB hF
      obtain ⟨⟨c0, c1, c2, c3, c4, c5, c6⟩, f0, f1, f2, f3, f4, f5, f6⟩ := hS.1.seven
      intro K hK
      rw [if_pos (by rfl)]
      go_simp
      apply hK
      clear hK K
      intro K hK
      rw [if_pos (by rfl)]
      go_simp
      apply hK
      clear hK K
      intro K hK
      rw [if_pos (by rfl)]
      go_simp
      apply hK
      clear hK K
      refine TailOk_nil ?_
      go_wp2
      go_ret
      exact ⟨rfl, (hS.1.set 5 _).set 6 _, (hS.2.trans (turn_set _ _ _ _)).trans (turn_set _ _ _ _)⟩
theorem sample_t (B : Nat) (le gr t : Int) (s : Es) (w : World) (hB : At w B (rV le gr s)) (hF : s.Fine le gr) (h : tickOk t = true) :
    Calls Try.prog 13 #[.pointer (some ⟨B, 0, none⟩), .int .i64 t] w fun e w' => e = .returned (.int .i64 0) ∧ At w' B (rV le gr (sampE le gr t s)) ∧ Turn (fun k => k = B) w w' :=
  sample_of B le gr t _ _ s w hB h (hF.me_ok h).1 (hF.me_ok h).2 (hF.de_ok h).1 (hF.de_ok h).2 (with_any _ _ _ _ _ hF.m0 hF.m1 hF.d0 hF.d1 h hF.no)
end Go.Proofs.Ytlhfmkobmaafcaa
