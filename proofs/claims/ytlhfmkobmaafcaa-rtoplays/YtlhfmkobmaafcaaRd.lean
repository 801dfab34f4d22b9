/- The document's estimator. -/
import Derived.Test.YtlhfmkobmaafcaaRc
namespace Go.Proofs.Ytlhfmkobmaafcaa
open Go.RowKit
set_option maxRecDepth 100000
set_option linter.unusedVariables false
set_option linter.unusedSimpArgs false

theorem rnew_t (f l g : Int) (w : World) (h : newOk f l g = true) :
    Calls Try.prog 8 #[.int .i64 f, .int .i64 l, .int .i64 g] w fun e w' => ∃ K, e = .returned (.tuple #[.pointer (some ⟨K, 0, none⟩), .int .i64 0]) ∧ w.heap.size ≤ K ∧ At w' K (kV l g (newE f)) ∧ Below w.heap.size w w' := by
  have h' := of_decide_eq_true h
  obtain ⟨⟨a0, a1⟩, b0, c0, c1⟩ := h'
  go_enter Try.func8, Try.ntmps8
  go_wp2
  go_ret2
  exact ⟨w.heap.size, rfl, Nat.le_refl _, At.box _ _ _, bel1 w _⟩
theorem rnew_f (f l g : Int) (w : World) (h : newOk f l g = false) :
    Calls Try.prog 8 #[.int .i64 f, .int .i64 l, .int .i64 g] w fun e w' => e = .returned (.tuple #[.pointer none, .int .i64 1]) ∧ w' = w := by
  have h' := of_decide_eq_false h
  go_enter Try.func8, Try.ntmps8
  by_cases a0 : l < 1
  · go_wp2
    go_ret2
    exact ⟨rfl, rfl⟩
  · by_cases a1 : g < l
    · go_wp2
      go_ret2
      exact ⟨rfl, rfl⟩
    · by_cases b0 : 1048576 < g
      · go_wp2
        go_ret2
        exact ⟨rfl, rfl⟩
      · by_cases c0 : f < l
        · go_wp2
          go_ret2
          exact ⟨rfl, rfl⟩
        · have c1 : g < f := by omega
          go_wp2
          go_ret2
          exact ⟨rfl, rfl⟩
theorem rback_any (K : Nat) (le gr : Int) (s : Es) (w : World) (hB : At w K (kV le gr s)) (hF : s.Fine le gr) :
    Calls Try.prog 14 #[.pointer (some ⟨K, 0, none⟩)] w fun e w' => e = .returned (.int .i64 (backE gr s).wa) ∧ At w' K (kV le gr (backE gr s)) ∧ Turn (fun k => k = K) w w' := by
  have hk : ∀ (W : World), At W K (kV le gr s) → At ((W.setCell ⟨K, 2, none⟩ (.int .i64 (min (2 * s.wa) gr))).setCell ⟨K, 5, none⟩ (.int .i64 (min (s.ba + 1) 32))) K (kV le gr (backE gr s)) := fun W h => (h.set 2 _).set 5 _
  have ht : ∀ (W : World), Turn (fun k => k = K) w W → Turn (fun k => k = K) w ((W.setCell ⟨K, 2, none⟩ (.int .i64 (min (2 * s.wa) gr))).setCell ⟨K, 5, none⟩ (.int .i64 (min (s.ba + 1) 32))) := fun W h => (h.trans (turn_set _ _ _ _)).trans (turn_set _ _ _ _)
  obtain ⟨⟨c0, c1, c2, c3, c4, c5, c6⟩, f0, f1, f2, f3, f4, f5, f6⟩ := hB.seven
  obtain ⟨l0, g1, m0, m1, d0, d1, w0, w1, b0, b1, no⟩ := hF
  have e1 : min gr (2 * s.wa) = min (2 * s.wa) gr := Int.min_comm _ _
  have e2 : min 32 (s.ba + 1) = min (s.ba + 1) 32 := Int.min_comm _ _
  go_enter Try.func14, Try.ntmps14
  go_upto_region 1 with fail
  go_region
  go_wp2
  go_ret
  first
  | exact ⟨rfl, hk _ hB, (ht _ (Turn.refl w)).drew⟩
  | (rw [e1, e2]; exact ⟨rfl, hk _ hB, (ht _ (Turn.refl w)).drew⟩)
theorem rsample_f (K : Nat) (t : Int) (w : World) (h : tickOk t = false) :
    Calls Try.prog 15 #[.pointer (some ⟨K, 0, none⟩), .int .i64 t] w fun e w' => e = .returned (.int .i64 1) ∧ w' = w := by
  have h' := of_decide_eq_false h
  go_enter Try.func15, Try.ntmps15
  by_cases a0 : t < 0
  · go_wp2
    go_ret
    exact ⟨rfl, rfl⟩
  · have a1 : 1048576 < t := by omega
    go_wp2
    go_ret
    exact ⟨rfl, rfl⟩
set_option maxHeartbeats 4000000 in
theorem rsample_0 (K : Nat) (le gr t me de wa ba : Int) (w : World) (hB : At w K (kV le gr ⟨false, me, de, wa, ba⟩)) (l0 : 1 ≤ le) (g1 : gr ≤ 1048576) (h : tickOk t = true) :
    Calls Try.prog 15 #[.pointer (some ⟨K, 0, none⟩), .int .i64 t] w fun e w' => e = .returned (.int .i64 0) ∧ At w' K (kV le gr ⟨true, 8 * t, 2 * t, min gr (max le (t + max 1 (2 * t))), 0⟩) ∧ Turn (fun k => k = K) w w' := by
  have h' := of_decide_eq_true h
  have e8 : (8 * t).tdiv 8 = 8 * t / 8 := Int.tdiv_eq_ediv_of_nonneg (by omega)
  obtain ⟨⟨c0, c1, c2, c3, c4, c5, c6⟩, f0, f1, f2, f3, f4, f5, f6⟩ := hB.seven
  dsimp only at c2 c3 c4 c5 c6
  go_enter Try.func15, Try.ntmps15
  go_upto_region 13 with fail
  have hB2 : At (((((w.setCell ⟨K, 6, none⟩ (.bool true)).setCell ⟨K, 3, none⟩ (.int .i64 (8 * t))).setCell ⟨K, 4, none⟩ (.int .i64 (2 * t)))).setCell ⟨K, 5, none⟩ (.int .i64 0)) K (kV le gr ⟨true, 8 * t, 2 * t, wa, 0⟩) := (((hB.set 6 _).set 3 _).set 4 _).set 5 _
  have ht2 : Turn (fun k => k = K) w (((((w.setCell ⟨K, 6, none⟩ (.bool true)).setCell ⟨K, 3, none⟩ (.int .i64 (8 * t))).setCell ⟨K, 4, none⟩ (.int .i64 (2 * t)))).setCell ⟨K, 5, none⟩ (.int .i64 0)) := (((turn_set _ _ _ _).trans (turn_set _ _ _ _)).trans (turn_set _ _ _ _)).trans (turn_set _ _ _ _)
  generalize ((((w.setCell ⟨K, 6, none⟩ (.bool true)).setCell ⟨K, 3, none⟩ (.int .i64 (8 * t))).setCell ⟨K, 4, none⟩ (.int .i64 (2 * t)))).setCell ⟨K, 5, none⟩ (.int .i64 0) = w2 at *
  clear c0 c1 c2 c3 c4 c5 c6 f0 f1 f2 f3 f4 f5 f6
  obtain ⟨⟨c0, c1, c2, c3, c4, c5, c6⟩, f0, f1, f2, f3, f4, f5, f6⟩ := hB2.seven
  dsimp only at c2 c3 c4 c5 c6
  have ew : IntKind.i64.wrap ((8 * t).tdiv 8) = 8 * t / 8 := by rw [IntKind.wrap_i64, e8]; omega
  have ew2 : IntKind.i64.wrap (8 * t / 8 + max 1 (2 * t)) = 8 * t / 8 + max 1 (2 * t) := by rw [IntKind.wrap_i64]; omega
  go_region
  go_wp2
  go_ret
  exact ⟨rfl, hB2.set 2 _, (ht2.trans (turn_set _ _ _ _)).drew⟩
set_option maxHeartbeats 4000000 in
theorem rsample_1 (K : Nat) (le gr t me de wa ba x y : Int) (w : World) (hB : At w K (kV le gr ⟨true, me, de, wa, ba⟩)) (l0 : 1 ≤ le) (g1 : gr ≤ 1048576) (m0 : 0 ≤ me) (m1 : me ≤ 8388608) (d0 : 0 ≤ de) (d1 : de ≤ 4194307) (h : tickOk t = true)
    (x0 : 0 ≤ x) (x1 : x ≤ 8388608) (y0 : 0 ≤ y) (y1 : y ≤ 4194307) (hx : Hid (me + (t - me / 8) = x)) (hy : Hid (de + (max (t - me / 8) (-(t - me / 8)) - de / 4) = y)) :
    Calls Try.prog 15 #[.pointer (some ⟨K, 0, none⟩), .int .i64 t] w fun e w' => e = .returned (.int .i64 0) ∧ At w' K (kV le gr ⟨true, x, y, min gr (max le (x / 8 + max 1 y)), 0⟩) ∧ Turn (fun k => k = K) w w' := by
  have h' := of_decide_eq_true h
  have e8 : me.tdiv 8 = me / 8 := Int.tdiv_eq_ediv_of_nonneg m0
  have e4 : de.tdiv 4 = de / 4 := Int.tdiv_eq_ediv_of_nonneg d0
  obtain ⟨⟨c0, c1, c2, c3, c4, c5, c6⟩, f0, f1, f2, f3, f4, f5, f6⟩ := hB.seven
  dsimp only at c2 c3 c4 c5 c6
  go_enter Try.func15, Try.ntmps15
  go_upto_region 8 with fail
  have hx' := hx.out
  have hd : Hid (max (t - me / 8) (-(t - me / 8)) = if t - me / 8 < 0 then -(t - me / 8) else t - me / 8) := by
    show _ = _
    split <;> omega
  have hdb : -1048576 ≤ t - me / 8 ∧ t - me / 8 ≤ 1048576 := by omega
  obtain ⟨q0, q1⟩ := hdb
  generalize t - me / 8 = d at *
  have hwx : IntKind.i64.wrap (me + d) = x := by rw [IntKind.wrap_i64]; omega
  clear hx'
  go_upto_region 9 with fail
  have hB1 : At (w.setCell ⟨K, 3, none⟩ (.int .i64 x)) K (kV le gr ⟨true, x, de, wa, ba⟩) := hB.set 3 _
  have ht1 : Turn (fun k => k = K) w (w.setCell ⟨K, 3, none⟩ (.int .i64 x)) := turn_set _ _ _ _
  generalize w.setCell ⟨K, 3, none⟩ (.int .i64 x) = w1 at *
  clear c0 c1 c2 c3 c4 c5 c6 f0 f1 f2 f3 f4 f5 f6
  obtain ⟨⟨c0, c1, c2, c3, c4, c5, c6⟩, f0, f1, f2, f3, f4, f5, f6⟩ := hB1.seven
  dsimp only at c2 c3 c4 c5 c6
  by_cases hq : d < 0
  · have hD : max d (-d) = -d := by omega
    have hwy : IntKind.i64.wrap (de + ((-d) - de / 4)) = y := by rw [IntKind.wrap_i64]; have := hy.out; omega
    have hw1 : IntKind.i64.wrap ((-d) - de / 4) = (-d) - de / 4 := by rw [IntKind.wrap_i64]; omega
    have hw2 : IntKind.i64.wrap (de.tdiv 4) = de / 4 := by rw [IntKind.wrap_i64, e4]; omega
    have hw3 : IntKind.i64.wrap (-d) = (-d) := by rw [IntKind.wrap_i64]; omega
    have hw4 : de + ((-d) - de / 4) = y := by have := hy.out; omega
    have a0 : d < 0 := hq
    clear hd hy
    go_upto_region 11 with fail
    go_region
    go_upto_region 13 with fail
    have hB2 : At ((w1.setCell ⟨K, 4, none⟩ (.int .i64 y)).setCell ⟨K, 5, none⟩ (.int .i64 0)).drew K (kV le gr ⟨true, x, y, wa, 0⟩) := (hB1.set 4 _).set 5 _
    have ht2 : Turn (fun k => k = K) w ((w1.setCell ⟨K, 4, none⟩ (.int .i64 y)).setCell ⟨K, 5, none⟩ (.int .i64 0)).drew := ((ht1.trans (turn_set _ _ _ _)).trans (turn_set _ _ _ _)).drew
    generalize ((w1.setCell ⟨K, 4, none⟩ (.int .i64 y)).setCell ⟨K, 5, none⟩ (.int .i64 0)).drew = w2 at *
    clear c0 c1 c2 c3 c4 c5 c6 f0 f1 f2 f3 f4 f5 f6
    obtain ⟨⟨c0, c1, c2, c3, c4, c5, c6⟩, f0, f1, f2, f3, f4, f5, f6⟩ := hB2.seven
    dsimp only at c2 c3 c4 c5 c6
    clear hwy hw1 hw2 hw3 hw4 a0 hB1 ht1
    have e9 : x.tdiv 8 = x / 8 := Int.tdiv_eq_ediv_of_nonneg x0
    have ew : IntKind.i64.wrap (x.tdiv 8) = x / 8 := by rw [IntKind.wrap_i64, e9]; omega
    have ew2 : IntKind.i64.wrap (x / 8 + max 1 y) = x / 8 + max 1 y := by rw [IntKind.wrap_i64]; omega
    go_region
    go_wp2
    go_ret
    exact ⟨rfl, hB2.set 2 _, (ht2.trans (turn_set _ _ _ _)).drew⟩
  · have hD : max d (-d) = d := by omega
    have hwy : IntKind.i64.wrap (de + (d - de / 4)) = y := by rw [IntKind.wrap_i64]; have := hy.out; omega
    have hw1 : IntKind.i64.wrap (d - de / 4) = d - de / 4 := by rw [IntKind.wrap_i64]; omega
    have hw2 : IntKind.i64.wrap (de.tdiv 4) = de / 4 := by rw [IntKind.wrap_i64, e4]; omega
    have hw3 : IntKind.i64.wrap d = d := by rw [IntKind.wrap_i64]; omega
    have hw4 : de + (d - de / 4) = y := by have := hy.out; omega
    have a0 : ¬ d < 0 := hq
    clear hd hy
    go_upto_region 11 with fail
    go_region
    go_upto_region 13 with fail
    have hB2 : At ((w1.setCell ⟨K, 4, none⟩ (.int .i64 y)).setCell ⟨K, 5, none⟩ (.int .i64 0)).drew K (kV le gr ⟨true, x, y, wa, 0⟩) := (hB1.set 4 _).set 5 _
    have ht2 : Turn (fun k => k = K) w ((w1.setCell ⟨K, 4, none⟩ (.int .i64 y)).setCell ⟨K, 5, none⟩ (.int .i64 0)).drew := ((ht1.trans (turn_set _ _ _ _)).trans (turn_set _ _ _ _)).drew
    generalize ((w1.setCell ⟨K, 4, none⟩ (.int .i64 y)).setCell ⟨K, 5, none⟩ (.int .i64 0)).drew = w2 at *
    clear c0 c1 c2 c3 c4 c5 c6 f0 f1 f2 f3 f4 f5 f6
    obtain ⟨⟨c0, c1, c2, c3, c4, c5, c6⟩, f0, f1, f2, f3, f4, f5, f6⟩ := hB2.seven
    dsimp only at c2 c3 c4 c5 c6
    clear hwy hw1 hw2 hw3 hw4 a0 hB1 ht1
    have e9 : x.tdiv 8 = x / 8 := Int.tdiv_eq_ediv_of_nonneg x0
    have ew : IntKind.i64.wrap (x.tdiv 8) = x / 8 := by rw [IntKind.wrap_i64, e9]; omega
    have ew2 : IntKind.i64.wrap (x / 8 + max 1 y) = x / 8 + max 1 y := by rw [IntKind.wrap_i64]; omega
    go_region
    go_wp2
    go_ret
    exact ⟨rfl, hB2.set 2 _, (ht2.trans (turn_set _ _ _ _)).drew⟩
theorem rsample_t (K : Nat) (le gr t : Int) (s : Es) (w : World) (hB : At w K (kV le gr s)) (hF : s.Fine le gr) (h : tickOk t = true) :
    Calls Try.prog 15 #[.pointer (some ⟨K, 0, none⟩), .int .i64 t] w fun e w' => e = .returned (.int .i64 0) ∧ At w' K (kV le gr (sampE le gr t s)) ∧ Turn (fun k => k = K) w w' := by
  have h' := of_decide_eq_true h
  have hm := hF.me_ok h
  have hd := hF.de_ok h
  obtain ⟨so, me, de, wa, ba⟩ := s
  cases so with
  | false =>
    have e : sampE le gr t ⟨false, me, de, wa, ba⟩ = ⟨true, 8 * t, 2 * t, min gr (max le (t + max 1 (2 * t))), 0⟩ := by
      simp [sampE, meS, deS, waS]
      omega
    rw [e]
    exact rsample_0 K le gr t me de wa ba w hB hF.l0 hF.g1 h
  | true =>
    have e : sampE le gr t ⟨true, me, de, wa, ba⟩ = ⟨true, meS true me t, deS true me de t, min gr (max le (meS true me t / 8 + max 1 (deS true me de t))), 0⟩ := by
      have : ∀ x y : Int, min (max (x / 8 + max y 1) le) gr = min gr (max le (x / 8 + max 1 y)) := fun x y => by omega
      simp only [sampE, waS, this]
    rw [e]
    exact rsample_1 K le gr t me de wa ba _ _ w hB hF.l0 hF.g1 hF.m0 hF.m1 hF.d0 hF.d1 h hm.1 hm.2 hd.1 hd.2 rfl rfl
end Go.Proofs.Ytlhfmkobmaafcaa
