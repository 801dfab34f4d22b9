/- SendqProbes: the walk. -/
import Derived.Test.YtlbdecjppgjdiaaQj
namespace Go.Proofs.Ytlbdecjppgjdiaa
open Go.RowKit Go.Maps Go.Lib
set_option maxRecDepth 100000
set_option linter.unusedVariables false
set_option linter.unusedSimpArgs false


/-- The queue behind i bytes that were asked for and acknowledged. -/
abbrev Qi (first : Int) (l : List UInt8) (i : Nat) : Qu := ⟨100, (first + (i : Int)) % 4294967296, 0, l.drop i, []⟩
theorem mod_rng (a : Int) : 0 ≤ a % 4294967296 ∧ a % 4294967296 ≤ 4294967295 := by omega
theorem qi_fine (first : Int) (l : List UInt8) (i : Nat) (hl : l.length ≤ 40) : (Qi first l i).Fine :=
  ⟨by show (1 : Int) ≤ 100; decide, by show (100 : Int) ≤ 65536; decide, (mod_rng _).1, (mod_rng _).2, by show ((l.drop i).length : Int) ≤ 100; rw [List.length_drop]; omega, Nat.zero_le _, List.Pairwise.nil, fun e he => by cases he⟩
abbrev Qo (first : Int) (l : List UInt8) (i : Nat) : Qu := ⟨100, (first + (i : Int)) % 4294967296, 1, l.drop i, []⟩
theorem qo_fine (first : Int) (l : List UInt8) (i : Nat) (hl : l.length ≤ 40) (hi : i < l.length) : (Qo first l i).Fine :=
  ⟨by show (1 : Int) ≤ 100; decide, by show (100 : Int) ≤ 65536; decide, (mod_rng _).1, (mod_rng _).2, by show ((l.drop i).length : Int) ≤ 100; rw [List.length_drop]; omega, by show 1 ≤ (l.drop i).length; rw [List.length_drop]; omega, List.Pairwise.nil, fun e he => by cases he⟩
theorem mod_mod0 (a : Int) : (a % 4294967296 + ((0 : Nat) : Int)) % 4294967296 = a % 4294967296 := by omega
theorem pr_next {w : World} {R q : Nat} {first : Int} {s : ByteArray} {i : Nat} {vb vp : Value} (h : QX w R q (Qi first s.data.toList i) vb vp) (hl : s.data.toList.length ≤ 40) :
    Calls Try.prog 18 #[PQ q, .int .i64 0, .int .i64 10] w fun e w' => e = .returned (.tuple #[.int .i64 ((first + (i : Int)) % 4294967296), .string ⟨#[]⟩]) ∧ QX w' R q (Qi first s.data.toList i) vb vp ∧ TK R w w' := by
  have hf := qi_fine first s.data.toList i hl
  refine (next_any h hf 0 10 (by decide) (by decide)).mono ?_
  rintro e w' ⟨rfl, h1, h2⟩
  have e0 : sndN (Qi first s.data.toList i) (min (max 0 0 - ((0 : Nat) : Int)) 10) = 0 := by show (max (min (((s.data.toList.drop i).length : Int) - ((0 : Nat) : Int)) (min (max 0 0 - ((0 : Nat) : Int)) 10)) 0).toNat = 0; omega
  refine ⟨?_, ?_, h2⟩
  · show Ending.returned (Value.tuple #[.int .i64 (((first + (i : Int)) % 4294967296 + ((0 : Nat) : Int)) % 4294967296), .string (strB (((s.data.toList.drop i).drop 0).take (sndN (Qi first s.data.toList i) (min (max 0 0 - ((0 : Nat) : Int)) 10))))]) = _
    rw [e0, mod_mod0]
    rfl
  · refine h1.eq ?_
    show (⟨_, _, 0 + sndN (Qi first s.data.toList i) (min (max 0 0 - ((0 : Nat) : Int)) 10), _, _⟩ : Qu) = _
    rw [e0]
theorem one_drop {s : ByteArray} {i : Nat} (hi : i < s.data.toList.length) : strB ((s.data.toList.drop i).take 1) = s.extract i (i + 1) := by
  rw [strB_extract, Nat.add_sub_cancel_left]
theorem pr_one {w : World} {R q : Nat} {first : Int} {s : ByteArray} {i : Nat} {vb vp : Value} (h : QX w R q (Qi first s.data.toList i) vb vp) (hl : s.data.toList.length ≤ 40) (hi : i < s.data.toList.length) :
    Calls Try.prog 14 #[PQ q] w fun e w' => e = .returned (.tuple #[.int .i64 ((first + (i : Int)) % 4294967296), .string (s.extract i (i + 1))]) ∧ QX w' R q (Qo first s.data.toList i) vb vp ∧ TK R w w' := by
  have hf := qi_fine first s.data.toList i hl
  refine (probe_no h hf rfl).mono ?_
  rintro e w' ⟨rfl, h1, h2⟩
  have e0 : sndN (Qi first s.data.toList i) 1 = 1 := by show (max (min (((s.data.toList.drop i).length : Int) - ((0 : Nat) : Int)) 1) 0).toNat = 1; rw [List.length_drop]; omega
  refine ⟨?_, ?_, h2⟩
  · show Ending.returned (Value.tuple #[.int .i64 (((first + (i : Int)) % 4294967296 + ((0 : Nat) : Int)) % 4294967296), .string (strB (((s.data.toList.drop i).drop 0).take (sndN (Qi first s.data.toList i) 1)))]) = _
    rw [e0, mod_mod0, List.drop_zero, one_drop hi]
  · refine h1.eq ?_
    show (⟨_, _, 0 + sndN (Qi first s.data.toList i) 1, _, _⟩ : Qu) = _
    rw [e0]
theorem pr_two {w : World} {R q : Nat} {first : Int} {s : ByteArray} {i : Nat} {vb vp : Value} (h : QX w R q (Qo first s.data.toList i) vb vp) (hl : s.data.toList.length ≤ 40) (hi : i < s.data.toList.length) :
    Calls Try.prog 14 #[PQ q] w fun e w' => e = .returned (.tuple #[.int .i64 ((first + (i : Int)) % 4294967296), .string (s.extract i (i + 1))]) ∧ QX w' R q (Qo first s.data.toList i) vb vp ∧ TK R w w' := by
  refine (probe_yes h (qo_fine first s.data.toList i hl hi) (by show 0 < 1; decide)).mono ?_
  rintro e w' ⟨rfl, h2⟩
  refine ⟨?_, h.later h2, TY.of_below h2⟩
  rw [← one_drop hi]
theorem pr_none {w : World} {R q : Nat} {first : Int} {s : ByteArray} {vb vp : Value} (h : QX w R q (Qi first s.data.toList s.data.toList.length) vb vp) (hl : s.data.toList.length ≤ 40) :
    Calls Try.prog 14 #[PQ q] w fun e w' => ∃ a, e = .returned (.tuple #[.int .i64 a, .string ⟨#[]⟩]) ∧ TK R w w' := by
  have hf := qi_fine first s.data.toList s.data.toList.length hl
  refine (probe_no h hf rfl).mono ?_
  rintro e w' ⟨rfl, h1, h2⟩
  refine ⟨nxA (Qi first s.data.toList s.data.toList.length), ?_, h2⟩
  have : sndS (Qi first s.data.toList s.data.toList.length) 1 = [] := by
    unfold sndS
    show List.take _ (List.drop _ (List.drop _ _)) = []
    rw [List.drop_eq_nil_of_le (Nat.le_refl s.data.toList.length)]
    simp
  rw [this]
  rfl
theorem pr_ack {w : World} {R q : Nat} {first : Int} {s : ByteArray} {i : Nat} {vb vp : Value} (h : QX w R q (Qo first s.data.toList i) vb vp) (hl : s.data.toList.length ≤ 40) (hi : i < s.data.toList.length) :
    Calls Try.prog 20 #[PQ q, .int .i64 ((first + ((i + 1 : Nat) : Int)) % 4294967296)] w fun e w' => e = .returned (.tuple #[.int .i64 1, .int .i64 0]) ∧ (∃ vb' vp', QX w' R q (Qi first s.data.toList (i + 1)) vb' vp') ∧ TK R w w' := by
  have hf := qo_fine first s.data.toList i hl hi
  have eo : offN (Qo first s.data.toList i) ((first + ((i + 1 : Nat) : Int)) % 4294967296) = 1 := by
    show (((first + ((i + 1 : Nat) : Int)) % 4294967296 - (first + (i : Int)) % 4294967296) % 4294967296).toNat = 1
    omega
  have hp : placeB (Qo first s.data.toList i) ((first + ((i + 1 : Nat) : Int)) % 4294967296) = true := by
    unfold placeB
    rw [Bool.and_eq_true, decide_eq_true_eq, offN_is, eo]
    exact ⟨decide_eq_true (mod_rng _), by show ((1 : Nat) : Int) ≤ ((1 : Nat) : Int); decide⟩
  refine (ack_t h hf _ hp).mono ?_
  rintro e w' ⟨rfl, ⟨vb', vp', h1⟩, h2⟩
  rw [eo]
  refine ⟨rfl, ⟨vb', vp', h1.eq ?_⟩, h2⟩
  unfold ackQ
  rw [eo]
  show (⟨_, _, _, (s.data.toList.drop i).drop 1, _⟩ : Qu) = _
  rw [List.drop_drop]
  rfl
theorem addm (first : Int) (i : Nat) (hi : i ≤ 65536) : addV (first % 4294967296) (i : Int) = (first % 4294967296 + (i : Int)) % 4294967296 := by
  unfold addV
  rw [show numB (first % 4294967296) = true from decide_eq_true (mod_rng _), show stepB (i : Int) = true from decide_eq_true (by omega)]
  rfl
theorem adds {a n : Int} (ha : 0 ≤ a ∧ a ≤ 4294967295) (hn : 0 ≤ n ∧ n ≤ 65536) (w : World) : Calls Try.prog 19 #[.int .i64 a, .int .i64 n] w fun e w' => e = .returned (.tuple #[.int .i64 ((a + n) % 4294967296), .int .i64 0]) ∧ w' = w := by
  have h := add_any a n w
  rw [addV, show numB a = true from decide_eq_true ha, show stepB n = true from decide_eq_true (by omega)] at h
  exact h
set_option maxHeartbeats 4000000 in
theorem probes_any (first : Int) (s : ByteArray) (w : World) (hs : s.size ≤ 9223372036854775807) :
    Calls Try.prog 6 #[.int .i64 first, .string s] w fun e w' => e = .returned (.bool true) ∧ Below w.heap.size w w' := by
  have hsl : s.data.toList.length = s.size := Array.length_toList
  by_cases hbig : 40 < s.size
  · have hbI : (40 : Int) < (s.size : Int) := by omega
    clear hsl
    go_enter Try.func6, Try.ntmps6
    go_wp2_with fail
    refine (works_any w).mono ?_
    rintro e w1 ⟨rfl, hb1⟩
    go_wp2_with fail
    refine (among_any first 4294967296 w1 (by decide) (by decide)).mono ?_
    rintro e w2 ⟨rfl, rfl⟩
    go_wp2_with fail
    refine (new_t (first % 4294967296) 100 w2 (mod_rng _).1 (mod_rng _).2 (by decide) (by decide)).mono ?_
    rintro e w3 ⟨rfl, -, hb3⟩
    go_wp2
    go_ret
    exact ⟨by first | rfl | simp [hbI], bt hb1 hb3⟩
  · have hsz : s.size ≤ 40 := by omega
    have hbI : ¬ (40 : Int) < (s.size : Int) := by omega
    have hl40 : s.data.toList.length ≤ 40 := by omega
    have HSL : Hid (s.data.toList.length = s.size) := hsl
    clear hbig hsl
    go_enter Try.func6, Try.ntmps6
    go_wp2_with fail
    refine (works_any w).mono ?_
    rintro e w1 ⟨rfl, hb1⟩
    go_wp2_with fail
    refine (among_any first 4294967296 w1 (by decide) (by decide)).mono ?_
    rintro e w2 ⟨rfl, rfl⟩
    go_wp2_with fail
    obtain ⟨fi, hfi⟩ : ∃ x, x = first % 4294967296 := ⟨_, rfl⟩
    have hf0 : 0 ≤ fi ∧ fi ≤ 4294967295 := by rw [hfi]; exact mod_rng _
    rw [← hfi]
    clear hfi
    refine (new_t fi 100 w2 hf0.1 hf0.2 (by decide) (by decide)).mono ?_
    rintro e w3 ⟨rfl, hX3, hb3⟩
    have hbw := bt hb1 hb3
    have hR3 : w2.heap.size ≤ w3.heap.size := hb3.size
    have hwR : w.heap.size ≤ w2.heap.size := hb1.size
    generalize hz : w2.heap.size = R at *
    have hfu : fullB (Q0 100 fi) s = false := by simp [fullB]
    have hc4 := write_t hX3 (q0_fine (by decide) (by decide) hf0.1 hf0.2) hR3 s (by omega) hfu
    clear hz hb3 hX3
    go_wp2_with fail
    refine hc4.mono ?_
    rintro e w4 ⟨rfl, ⟨vb4, hX4⟩, ht4⟩
    have HQ : Hid (QX w4 R R (Qi fi s.data.toList 0) vb4 (.slice none 0 0)) := by
      refine hX4.eq ?_
      unfold wrQ
      have e1 : wrN (Q0 100 fi) s = s.size := by show min s.size (100 - 0) = s.size; omega
      rw [e1]
      show (⟨100, fi, 0, [] ++ s.data.toList.take s.size, []⟩ : Qu) = ⟨100, (fi + ((0 : Nat) : Int)) % 4294967296, 0, s.data.toList.drop 0, []⟩
      rw [List.nil_append, List.take_of_length_le (by rw [HSL.out]; exact Nat.le_refl _), List.drop_zero, show (fi + ((0 : Nat) : Int)) % 4294967296 = fi by omega]
    have HB4 : Hid (Below w.heap.size w w4) := hbw.trans (ht4.below hR3 |>.mono hwR)
    have hR4 : R ≤ w4.heap.size := Nat.le_trans hR3 ht4.size
    clear hX4 ht4 hbw hfu
    go_wp2
    go_loopw [50] (fun s50 W => ∃ i : Nat, i ≤ s.data.toList.length ∧ s50 = .int .i64 (i : Int) ∧ Hid (∃ vb vp, QX W R R (Qi fi s.data.toList i) vb vp) ∧ Hid (TK R w4 W)) (fun s50 _ => s.data.toList.length - (intOf s50).toNat)
    case atStart => exact ⟨0, Nat.zero_le _, rfl, ⟨vb4, _, HQ.out⟩, TY.refl _⟩
    case round =>
      obtain ⟨i, hin, rfl, HV, HT⟩ := hrel
      obtain ⟨vb, vp, hX⟩ := HV.out
      by_cases hlt : i < s.data.toList.length
      · have hltI : (i : Int) < (s.size : Int) := by have := HSL.out; omega
        have hi40 : (i : Int) ≤ 40 := by omega
        go_wp2_with fail
        refine (adds hf0 ⟨by omega, by omega⟩ wr).mono ?_
        rintro e w5 ⟨rfl, rfl⟩
        go_wp2_with fail
        refine (pr_next hX hl40).mono ?_
        rintro e w6 ⟨rfl, hX6, ht6⟩
        go_wp2_with fail
        refine (pr_one hX6 hl40 hlt).mono ?_
        rintro e w7 ⟨rfl, hX7, ht7⟩
        go_wp2_with fail
        refine (pr_two hX7 hl40 hlt).mono ?_
        rintro e w8 ⟨rfl, hX8, ht8⟩
        have hcA := adds (mod_rng (fi + (i : Int))) (n := 1) ⟨by decide, by decide⟩ w8
        rw [show ((fi + (i : Int)) % 4294967296 + 1) % 4294967296 = (fi + ((i + 1 : Nat) : Int)) % 4294967296 by omega] at hcA
        have hcB := pr_ack hX8 hl40 hlt
        generalize (fi + ((i + 1 : Nat) : Int)) % 4294967296 = nx at hcA hcB
        generalize (fi + (i : Int)) % 4294967296 = wt at *
        go_wp2_with fail
        refine hcA.mono ?_
        rintro e w9 ⟨rfl, rfl⟩
        go_wp2_with fail
        refine hcB.mono ?_
        rintro e wA ⟨rfl, hXA, htA⟩
        have HT9 : Hid (TK R w4 wA) := HT.out.trans (ht6.trans (ht7.trans (ht8.trans htA)))
        have HXA : Hid (∃ vb vp, QX wA R R (Qi fi s.data.toList (i + 1)) vb vp) := hXA
        have hi1 : ((i : Int) + 1) ≤ (s.size : Int) := by omega
        clear hXA htA ht6 ht7 ht8 hX6 hX7 hX8 hX hcA hcB HV
        go_wp2
        go_roundw
        case rel => exact ⟨i + 1, by omega, by first | rfl | simp, HXA, HT9⟩
        case measure => simp [intOf]; omega
      · obtain rfl : i = s.data.toList.length := by omega
        have hltI : ¬ ((s.data.toList.length : Nat) : Int) < (s.size : Int) := by have := HSL.out; omega
        have hcN := pr_none hX hl40
        clear hX HV
        go_wp2_with fail
        refine hcN.mono ?_
        rintro e w5 ⟨a, rfl, ht5⟩
        go_wp2
        go_ret
        exact ⟨by first | rfl | simp, HB4.out.trans (((HT.out.trans ht5).below hR4).mono hwR)⟩
end Go.Proofs.Ytlbdecjppgjdiaa
