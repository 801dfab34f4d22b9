/- BridgeRoom, walked. -/
import Derived.Test.YtajknafmlghcgaaBj
namespace Go.Proofs.Ytajknafmlghcgaa
open Go.RowKit Go.Maps
set_option maxRecDepth 100000
set_option linter.unusedVariables false
set_option linter.unusedSimpArgs false

def Arg (w : World) (a : Option Addr) (zs : List Int) : Prop := zs = [] ∨ ∃ x, a = some x ∧ ∀ i, i < zs.length → w.cell? (x.add i) = some (.int .i64 (zs.getD i 0))
set_option maxHeartbeats 4000000 in
theorem room_any (room : Int) (a : Option Addr) (cap : Nat) (zs : List Int) (w : World) (hi : Arg w a zs) (hz : zs.length * 8 ≤ 140737488351232) :
    Calls Try.prog 5 #[.int .i64 room, .slice a zs.length cap] w fun e w' => e = .returned (.bool true) ∧ Below w.heap.size w w' := by
  have hmm := @run_makeMap Try.prog
  have HA : Hid (Arg w a zs) := hi
  clear hi
  go_enter Try.func5, Try.ntmps5
  go_wp2_with fail
  refine (among_any room 6 w (by decide) (by decide)).mono ?_
  rintro e w1 ⟨rfl, rfl⟩
  have hr0 : 0 ≤ room % 6 := Int.emod_nonneg _ (by decide)
  have hr1 : room % 6 < 6 := Int.emod_lt_of_pos _ (by decide)
  generalize room % 6 = rm at *
  go_wp2_with fail
  refine (new_t 2 1000 (1 + rm) w1 (decide_eq_true (by omega))).mono ?_
  rintro e w2 ⟨B, M, rfl, hBb, hMb, hA, hL, hb1⟩
  go_wp2_with fail
  refine (works_any w2).mono ?_
  rintro e w3 ⟨rfl, hb2⟩
  go_wp2
  have q3 := bel1 w3 (.map #[] 0)
  have hA0 := (hA.later hb2).later q3
  have hL0 := (hL.later hb2).later q3
  have hK0 : KS (w3.alloc (.map #[] 0)) w3.heap.size [] := World.ownsMap_made _ _ _ _
  have hb0 := bt hb1 (bt hb2 q3)
  have hBK : B < w3.heap.size := Nat.lt_of_lt_of_le hA.1 hb2.size
  have hMK : M < w3.heap.size := Nat.lt_of_lt_of_le hL.1.lt hb2.size
  have hK9 : w1.heap.size ≤ w3.heap.size := (bt hb1 hb2).size
  clear hA hL hb1 hb2 q3
  generalize w3.alloc (.map #[] 0) = w4 at *
  generalize w3.heap.size = K at *
  go_loopw [8] (fun i wr => ∃ (k : Nat) (l : List En) (la : Int), i = .int .i64 (k : Int) ∧ k ≤ zs.length ∧ k ≤ 60 ∧ 0 ≤ la ∧ la ≤ (k : Int) ∧ At wr B (brV 2 1000 (1 + rm) la M) ∧ Lrn wr M l ∧ KS wr K l ∧ (l.length : Int) ≤ 1 + rm ∧ Below w1.heap.size w1 wr) (fun i _ => zs.length - (intOf i).toNat)
  case atStart => exact ⟨0, [], 0, rfl, Nat.zero_le _, by decide, by decide, by decide, hA0, hL0, hK0, by simp; omega, hb0⟩
  case round =>
    clear hA0 hL0 hK0 hb0
    obtain ⟨k, l, la, rfl, hk, hk60, hla0, hla1, hA, hL, hK, hlen, hb⟩ := hrel
    by_cases hlt : k < zs.length ∧ k < 60
    · obtain ⟨x, rfl, hc⟩ : ∃ x, a = some x ∧ ∀ i, i < zs.length → w1.cell? (x.add i) = some (.int .i64 (zs.getD i 0)) := by
        rcases HA.out with h | h
        · subst h; simp at hlt
        · exact h
      have g := later hb (hc k hlt.1)
      have hk1 : (k : Int) < (zs.length : Int) := by omega
      have hk2 : (k : Int) < 60 := by omega
      have hk3 : (0 : Int) ≤ (k : Int) := by omega
      clear hc
      generalize zs.getD k 0 = z at *
      go_wp2_with fail
      refine (among_any z 20 wr (by decide) (by decide)).mono ?_
      rintro e w5 ⟨rfl, rfl⟩
      have hf0 : 0 ≤ z % 20 := Int.emod_nonneg _ (by decide)
      have hf1 : z % 20 < 20 := Int.emod_lt_of_pos _ (by decide)
      generalize z % 20 = f at *
      go_wp2_with fail
      have hp0 : 0 ≤ (k : Int) % 2 := Int.emod_nonneg _ (by decide)
      have hp1 : (k : Int) % 2 < 2 := Int.emod_lt_of_pos _ (by decide)
      have hP : hasP 2 ((k : Int) % 2) = true := by unfold hasP; rw [decide_eq_true hp0, decide_eq_true hp1]; rfl
      have hwf : (Lit.int .i64 f).wf = true := WalkArith.wf_i64 (by omega)
      have hln : l.length < 5000 := by omega
      refine (take_4 B M 2 1000 (1 + rm) la ((k : Int) % 2) 99 f 2048 (k : Int) ⟨#[]⟩ l w5 hA hL (by decide) hP (decide_eq_true ⟨hla1, by omega⟩) (decide_eq_true ⟨by omega, by omega, by omega, by omega, by decide⟩) (by decide) (by decide) (by decide) (by decide) hla0 hln).mono ?_
      rintro e w6 ⟨v, rfl, -, hA6, hL6, ht6⟩
      rw [old_none hL (by omega)] at hL6
      have hBK' : ¬ (K = M ∨ K = B) := by omega
      have hK6 := hK.turn ht6 hBK'
      have hb6 : Below w1.heap.size w1 w6 := hb.trans (ht6.below hb.size (fun j hj he => by omega))
      have hrl := hL.2.1
      clear hA hL hK hb ht6 g
      by_cases hs1 : (l.length : Int) < 1 + rm
      · have hl' : learnL (1 + rm) l (f, (k : Int) % 2, (k : Int)) = (putL l (f, (k : Int) % 2, (k : Int))) := by unfold learnL; rw [decide_eq_true hs1, Bool.or_true]; rfl
        rw [hl'] at hL6
        have hlk : lk (putL l (f, (k : Int) % 2, (k : Int))) f = some ((k : Int) % 2, (k : Int)) := lk_of_mem hL6.2.1 (mem_ins.2 (Or.inl rfl))
        have hll : (((putL l (f, (k : Int) % 2, (k : Int)))).length : Int) ≤ 1 + rm := by have := len_put (l := l) (f, (k : Int) % 2, (k : Int)); omega
        go_wp2_with (first
          | (at_len; refine wpList_len_own _ rfl _ 53 rfl 3 4 Try.underlying53 _ K _ _ rfl hK6 ?_; rw [size_setD])
          | (at_mapUpdate; refine wpList_mapUpdate_in _ rfl _ _ _ 53 rfl 3 4 law3 Try.underlying53 _ K _ _ rfl hK6 (by unfold maxLen; omega) _ _ _ rfl rfl (keyOf_int_mk Try.underlying3 hwf) _ [] (plainElem_bool Try.underlying4 true) ?_; intro w7 hown7 hturn7)
          | (go_at_call 17; fail))
        have ht7 : Turn (fun j => j = K) w6 w7 := Turn.of_grown hturn7.grown (fun j h => by cases h; exact Or.inl rfl)
        have hK7 : KS w7 K (putL l (f, (k : Int) % 2, (k : Int))) := KS.len (n := l.length + 1) (by rw [← put_setD]; exact hown7)
        have hA7 := hA6.turn ht7 (by omega)
        have hL7 := hL6.turn ht7 (by omega)
        have hb7 : Below w1.heap.size w1 w7 := hb6.trans (ht7.below hb6.size (fun j hj he => by omega))
        refine (port_any B M 2 1000 (1 + rm) (k : Int) f (k : Int) (putL l (f, (k : Int) % 2, (k : Int))) w7 hA7 hL7 (by decide) (by decide) hwf).mono ?_
        rintro e w8 ⟨rfl, hb8⟩
        rw [show portL (putL l (f, (k : Int) % 2, (k : Int))) 1000 f (k : Int) = ((k : Int) % 2, true) by unfold portL; rw [hlk]; simp; omega]
        have hK8 := hK7.turn (S := fun _ => False) (Turn.of_below hb8) (fun h => h)
        have hA8 := hA7.later hb8
        have hL8 := hL7.later hb8
        go_wp2_with (first
          | (at_lookup; refine wpList_lookup_b rfl _ _ rfl K (putL l (f, (k : Int) % 2, (k : Int))) f hwf rfl hK8 rfl ?_; rw [hlk])
          | (go_at_call 19; fail))
        refine (known_any B M 2 1000 (1 + rm) (k : Int) (k : Int) (putL l (f, (k : Int) % 2, (k : Int))) w8 hA8 hL8 (by decide) (by decide) (by omega)).mono ?_
        rintro e w9 ⟨v9, rfl, hI9, hb9⟩
        have hkl : (knownL 1000 (k : Int) (putL l (f, (k : Int) % 2, (k : Int)))).length = ((putL l (f, (k : Int) % 2, (k : Int)))).length := by unfold knownL; rw [old_none hL8 (by omega), List.length_map]
        obtain ⟨a9, c9, rfl, -⟩ := hI9.row
        rw [hkl]
        have hK9' := hK8.turn (S := fun _ => False) (Turn.of_below hb9) (fun h => h)
        have hA9 := hA8.later hb9
        have hL9 := hL8.later hb9
        have hb10 := bt hb7 (bt hb8 hb9)
        clear hK8 hA8 hL8 hK7 hA7 hL7 hb7 hb8 hb9 hI9
        have hlen9 : ∀ ty : TypeId, (Builtin.len_ #[53] ty #[.map (some K)]).run Try.prog w9 = .ok (.int .i64 (putL l (f, (k : Int) % 2, (k : Int))).length) w9 := fun ty => by
          have := World.ownsMap.len hK9' Try.underlying53 ty
          rwa [size_setD] at this
        go_wp2
        go_roundw
        case rel => exact ⟨k + 1, (putL l (f, (k : Int) % 2, (k : Int))), (k : Int), by simp, by omega, by omega, by omega, by omega, hA9, hL9, hK9', hll, hb10⟩
        case measure => simp [intOf]; omega
      · cases hs2 : (lk l f).isSome with
        | true =>
          have hl' : learnL (1 + rm) l (f, (k : Int) % 2, (k : Int)) = (putL l (f, (k : Int) % 2, (k : Int))) := by unfold learnL; rw [hs2]; rfl
          rw [hl'] at hL6
          have hlk : lk (putL l (f, (k : Int) % 2, (k : Int))) f = some ((k : Int) % 2, (k : Int)) := lk_of_mem hL6.2.1 (mem_ins.2 (Or.inl rfl))
          have hkeys := keys_put hrl (e := (f, (k : Int) % 2, (k : Int))) hs2
          have hll : (((putL l (f, (k : Int) % 2, (k : Int)))).length : Int) ≤ 1 + rm := by have := congrArg List.length hkeys; simp only [List.length_map] at this; omega
          have hK6' : KS w6 K (putL l (f, (k : Int) % 2, (k : Int))) := KS.len (n := l.length) (by rw [setD_keys hkeys]; exact hK6)
          go_wp2_with (first
            | (at_len; refine wpList_len_own _ rfl _ 53 rfl 3 4 Try.underlying53 _ K _ _ rfl hK6 ?_; rw [size_setD])
            | (go_at_call 17; fail))
          obtain ⟨w7, hw7⟩ : ∃ W, W = w6 := ⟨_, rfl⟩
          have hK7 : KS w7 K (putL l (f, (k : Int) % 2, (k : Int))) := by rw [hw7]; exact hK6'
          have hA7 : At w7 B (brV 2 1000 (1 + rm) (k : Int) M) := by rw [hw7]; exact hA6
          have hL7 : Lrn w7 M (putL l (f, (k : Int) % 2, (k : Int))) := by rw [hw7]; exact hL6
          have hb7 : Below w1.heap.size w1 w7 := by rw [hw7]; exact hb6
          rw [← hw7]
          refine (port_any B M 2 1000 (1 + rm) (k : Int) f (k : Int) (putL l (f, (k : Int) % 2, (k : Int))) w7 hA7 hL7 (by decide) (by decide) hwf).mono ?_
          rintro e w8 ⟨rfl, hb8⟩
          rw [show portL (putL l (f, (k : Int) % 2, (k : Int))) 1000 f (k : Int) = ((k : Int) % 2, true) by unfold portL; rw [hlk]; simp; omega]
          have hK8 := hK7.turn (S := fun _ => False) (Turn.of_below hb8) (fun h => h)
          have hA8 := hA7.later hb8
          have hL8 := hL7.later hb8
          go_wp2_with (first
            | (at_lookup; refine wpList_lookup_b rfl _ _ rfl K (putL l (f, (k : Int) % 2, (k : Int))) f hwf rfl hK8 rfl ?_; rw [hlk])
            | (go_at_call 19; fail))
          refine (known_any B M 2 1000 (1 + rm) (k : Int) (k : Int) (putL l (f, (k : Int) % 2, (k : Int))) w8 hA8 hL8 (by decide) (by decide) (by omega)).mono ?_
          rintro e w9 ⟨v9, rfl, hI9, hb9⟩
          have hkl : (knownL 1000 (k : Int) (putL l (f, (k : Int) % 2, (k : Int)))).length = ((putL l (f, (k : Int) % 2, (k : Int)))).length := by unfold knownL; rw [old_none hL8 (by omega), List.length_map]
          obtain ⟨a9, c9, rfl, -⟩ := hI9.row
          rw [hkl]
          have hK9' := hK8.turn (S := fun _ => False) (Turn.of_below hb9) (fun h => h)
          have hA9 := hA8.later hb9
          have hL9 := hL8.later hb9
          have hb10 := bt hb7 (bt hb8 hb9)
          clear hK8 hA8 hL8 hK7 hA7 hL7 hb7 hb8 hb9 hI9
          have hlen9 : ∀ ty : TypeId, (Builtin.len_ #[53] ty #[.map (some K)]).run Try.prog w9 = .ok (.int .i64 (putL l (f, (k : Int) % 2, (k : Int))).length) w9 := fun ty => by
            have := World.ownsMap.len hK9' Try.underlying53 ty
            rwa [size_setD] at this
          go_wp2
          go_roundw
          case rel => exact ⟨k + 1, (putL l (f, (k : Int) % 2, (k : Int))), (k : Int), by simp, by omega, by omega, by omega, by omega, hA9, hL9, hK9', hll, hb10⟩
          case measure => simp [intOf]; omega
        | false =>
          have hl' : learnL (1 + rm) l (f, (k : Int) % 2, (k : Int)) = l := by unfold learnL; rw [hs2, decide_eq_false hs1]; rfl
          rw [hl'] at hL6
          have hlk : lk l f = none := by cases hq : lk l f with
            | none => rfl
            | some c => rw [hq] at hs2; cases hs2
          have hll : ((l).length : Int) ≤ 1 + rm := hlen
          have hK6' := hK6
          go_wp2_with (first
            | (at_len; refine wpList_len_own _ rfl _ 53 rfl 3 4 Try.underlying53 _ K _ _ rfl hK6 ?_; rw [size_setD])
            | (go_at_call 17; fail))
          obtain ⟨w7, hw7⟩ : ∃ W, W = w6 := ⟨_, rfl⟩
          have hK7 : KS w7 K l := by rw [hw7]; exact hK6'
          have hA7 : At w7 B (brV 2 1000 (1 + rm) (k : Int) M) := by rw [hw7]; exact hA6
          have hL7 : Lrn w7 M l := by rw [hw7]; exact hL6
          have hb7 : Below w1.heap.size w1 w7 := by rw [hw7]; exact hb6
          rw [← hw7]
          refine (port_any B M 2 1000 (1 + rm) (k : Int) f (k : Int) l w7 hA7 hL7 (by decide) (by decide) hwf).mono ?_
          rintro e w8 ⟨rfl, hb8⟩
          rw [show portL l 1000 f (k : Int) = (0, false) by unfold portL; rw [hlk]]
          have hK8 := hK7.turn (S := fun _ => False) (Turn.of_below hb8) (fun h => h)
          have hA8 := hA7.later hb8
          have hL8 := hL7.later hb8
          go_wp2_with (first
            | (at_lookup; refine wpList_lookup_b rfl _ _ rfl K l f hwf rfl hK8 rfl ?_; rw [hlk])
            | (go_at_call 19; fail))
          refine (known_any B M 2 1000 (1 + rm) (k : Int) (k : Int) l w8 hA8 hL8 (by decide) (by decide) (by omega)).mono ?_
          rintro e w9 ⟨v9, rfl, hI9, hb9⟩
          have hkl : (knownL 1000 (k : Int) l).length = (l).length := by unfold knownL; rw [old_none hL8 (by omega), List.length_map]
          obtain ⟨a9, c9, rfl, -⟩ := hI9.row
          rw [hkl]
          have hK9' := hK8.turn (S := fun _ => False) (Turn.of_below hb9) (fun h => h)
          have hA9 := hA8.later hb9
          have hL9 := hL8.later hb9
          have hb10 := bt hb7 (bt hb8 hb9)
          clear hK8 hA8 hL8 hK7 hA7 hL7 hb7 hb8 hb9 hI9
          have hlen9 : ∀ ty : TypeId, (Builtin.len_ #[53] ty #[.map (some K)]).run Try.prog w9 = .ok (.int .i64 (l).length) w9 := fun ty => by
            have := World.ownsMap.len hK9' Try.underlying53 ty
            rwa [size_setD] at this
          go_wp2
          go_roundw
          case rel => exact ⟨k + 1, l, (k : Int), by simp, by omega, by omega, by omega, by omega, hA9, hL9, hK9', hll, hb10⟩
          case measure => simp [intOf]; omega
    · go_wp2
      all_goals (go_ret; exact ⟨rfl, hb⟩)
end Go.Proofs.Ytajknafmlghcgaa
