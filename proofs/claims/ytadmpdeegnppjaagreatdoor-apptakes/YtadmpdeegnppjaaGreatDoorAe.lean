/- What the library keeps in variables; numbers; names. -/
import Derived.Test.YtadmpdeegnppjaaGreatDoorAd
import Derived.Lib.AtoiAllMem
import Derived.Lib.OthersKept
import Derived.Deep.RegionHeld3
namespace Go.Proofs.YtadmpdeegnppjaaGreatDoor
open Go.RowKit Go.Maps Go.Shelf Go.Lib
set_option maxRecDepth 100000
set_option linter.unusedVariables false
set_option linter.unusedSimpArgs false


theorem gPow : Tryz.prog.globalNamed "internal/strconv.uint64pow10" = some 1 := by kernel_rfl
/-- What the library reads of its variables: they lie below block 4. -/
structure Env (w : World) : Prop where
  big : 4 ≤ w.heap.size
  mx : ∃ m, w.cell? ⟨0, 0, none⟩ = some (.int .i64 m)
  tab : Lib.TabIs Tryz.prog w "internal/strconv.uint64pow10" .u64 Lib.pow10Tab
  es : ∃ ev, w.cell? ⟨2, 0, none⟩ = some ev ∧ (ev = .nilIface ∨ ∃ te pe, ev = .iface te pe)
  er : ∃ ev, w.cell? ⟨3, 0, none⟩ = some ev ∧ (ev = .nilIface ∨ ∃ te pe, ev = .iface te pe)
theorem Env.turn {S : Nat → Prop} {w w' : World} (h : Env w) (ht : Turn S w w') (hS : ∀ k, S k → 4 ≤ k) : Env w' := by
  have hb : ∀ k, k < 4 → w'.heap[k]? = w.heap[k]? := fun k hk => ht.block k (Nat.lt_of_lt_of_le hk h.big) (fun e => by have := hS k e; omega)
  have hc : ∀ k, k < 4 → ∀ i, w'.cell? ⟨k, i, none⟩ = w.cell? ⟨k, i, none⟩ := fun k hk i => World.cell?_of_block (hb k hk)
  obtain ⟨m, hm⟩ := h.mx
  obtain ⟨e1, h1, h1'⟩ := h.es
  obtain ⟨e2, h2, h2'⟩ := h.er
  refine ⟨Nat.le_trans h.big ht.size, ⟨m, (hc _ (by omega) _).trans hm⟩, ?_, ⟨e1, (hc _ (by omega) _).trans h1, h1'⟩, ⟨e2, (hc _ (by omega) _).trans h2, h2'⟩⟩
  have := h.tab
  unfold Lib.TabIs World.var? at this ⊢
  rw [gPow] at this ⊢
  simp only [Option.bind_some] at this ⊢
  rw [hb 1 (by omega)]
  exact this
theorem Env.later {w w' : World} (h : Env w) (hb : Below w.heap.size w w') : Env w' := h.turn (S := fun _ => False) (Turn.of_below hb) (fun _ h => h.elim)
theorem belDN (w : World) (n : Nat) : Below w.heap.size w (w.drewN n) := below_drewN (Below.refl _ _) n
theorem itoa_any {w : World} (h : Env w) (n : Int) (h0 : -9223372036854775808 ≤ n) (h1 : n ≤ 9223372036854775807) : Calls Tryz.prog 64 #[.int .i64 n] w fun e w' => e = .returned (.string (B (Go.Lib.itoa n))) ∧ Below w.heap.size w w' := by
  refine (Tryz.strconv_Itoa n h0 h1 w h.tab).mono ?_
  rintro e w' ⟨rfl, k, os, rfl⟩
  exact ⟨rfl, Lib.below_grow _ _ (Nat.le_refl _) k os⟩
theorem cut_any {w : World} (h : Env w) (s : By) (c : UInt8) (hs : s.length < 4294967281) : Calls Tryz.prog 19 #[.string (B s), .string (B [c])] w fun e w' => e = .returned (.tuple #[.string (B (cutC c s).1), .string (B (cutC c s).2.1), .bool (cutC c s).2.2]) ∧ Below w.heap.size w w' := by
  obtain ⟨m, hm⟩ := h.mx
  have := Tryz.strings_Cut (B s) (B [c]) m w (by rw [B_size]; exact hs) hm
  simp only [B_list, cut_one] at this
  refine this.mono ?_
  rintro e w' ⟨rfl, n, rfl⟩
  exact ⟨rfl, belDN w n⟩
def shortB (n : Int) : Bool := decide (-999999999 ≤ n) && decide (n ≤ 999999999)
theorem short_any (n : Int) (w : World) : Calls Tryz.prog 67 #[.int .i64 n] w fun e w' => e = .returned (.bool (shortB n)) ∧ w' = w := by
  go_enter Tryz.func67, Tryz.ntmps67
  unfold shortB
  cases h0 : decide (-999999999 ≤ n)
  · go_wp2
    go_ret
    exact ⟨rfl, rfl⟩
  · go_wp2
    go_ret
    exact ⟨rfl, rfl⟩
theorem B_app (a b : By) : B a ++ B b = B (a ++ b) := by
  apply ByteArray.ext
  simp [B, ByteArray.data_append]
theorem B_tl (l : By) : (B l).toList = l := ByteArray.toList_mk l
theorem B_eq (a b : By) : ((B a).toList == (B b).toList) = (a == b) := by rw [B_tl, B_tl]
theorem valued_any (t : By) (w : World) (ht : t.length ≤ 1000000) : Calls Tryz.prog 62 #[.string (B t)] w fun e w' => e = .returned (.string (B (bVALUE ++ t))) ∧ w' = w := by
  have hz : (B t).size ≤ 1000000 := by rw [B_size]; exact ht
  have hap : Hid (B bVALUE ++ B t = B (bVALUE ++ t)) := B_app bVALUE t
  go_enter Tryz.func62, Tryz.ntmps62
  go_wp2
  go_ret
  exact ⟨congrArg (fun x => Ending.returned (.string x)) hap.out, rfl⟩
theorem counted_any {w : World} (h : Env w) (n : Int) (h0 : 0 ≤ n) (h1 : n < 1000000000) : Calls Tryz.prog 49 #[.int .i64 n] w fun e w' => e = .returned (.string (B (bCOUNT ++ Go.Lib.itoa n))) ∧ Below w.heap.size w w' := by
  have hc := itoa_any h n (by omega) (by omega)
  have hl := itoa_len (v := n) (by omega) (by omega)
  clear h
  go_enter Tryz.func49, Tryz.ntmps49
  go_wp2_with fail
  refine hc.mono ?_
  rintro e w1 ⟨rfl, hb⟩
  clear hc
  have hz : (B (Go.Lib.itoa n)).size ≤ 1000000 := by rw [B_size]; omega
  have hap : Hid (B bCOUNT ++ B (Go.Lib.itoa n) = B (bCOUNT ++ Go.Lib.itoa n)) := B_app _ _
  go_wp2
  go_ret
  exact ⟨congrArg (fun x => Ending.returned (.string x)) hap.out, hb⟩

set_option maxHeartbeats 1000000 in
/-- number: what a word counts as, and whether it is a whole number. -/
theorem number_any {w : World} (h : Env w) (s : By) (hs : s.length ≤ 1000000) : Calls Tryz.prog 65 #[.string (B s)] w fun e w' => e = .returned (.tuple #[.int .i64 (numV s), .bool (numF s).isSome]) ∧ Below w.heap.size w w' := by
  have hsz : (B s).size ≤ 1000000 := by rw [B_size]; exact hs
  cases ha : Go.Lib.atoiAll s with
  | ok v =>
    obtain ⟨v0, v1⟩ := Lib.atoiAll_bounds ha
    have hA := Tryz.strconv_Atoi_ok (B s) (by omega) v ha w
    by_cases hv : shortB v = true
    · have hi := fun (W : World) (hW : Env W) => itoa_any hW v (by omega) (by omega)
      by_cases hq : Go.Lib.itoa v = s
      · have hn : numF s = some v := by
          unfold numF; rw [ha]; simp only
          unfold shortB at hv
          simp only [Bool.and_eq_true, decide_eq_true_eq] at hv
          rw [if_pos ⟨hv.1, hv.2, hq⟩]
        have hnv : numV s = v := by unfold numV; rw [hn]; rfl
        rw [hnv, hn]
        have hne : ((B (Go.Lib.itoa v)).toList == (B s).toList) = true := by rw [B_eq, hq]; exact beq_self_eq_true s
        have HE : Hid _ := h
        clear hn hnv hq ha h
        go_enter Tryz.func65, Tryz.ntmps65
        go_wp2_with fail
        refine hA.mono ?_
        rintro e w1 ⟨rfl, hw⟩
        have hb : Below w.heap.size w w1 := by
          rcases hw with rfl | ⟨t, rfl⟩
          · exact Below.refl _ _
          · exact Lib.bytesWorld_below _ _ _
        clear hw hA
        go_wp2_with fail
        refine (short_any v w1).mono ?_
        rintro e w2 ⟨rfl, rfl⟩
        go_wp2_with fail
        refine (hi w2 (HE.out.later hb)).mono ?_
        rintro e w3 ⟨rfl, hb3⟩
        go_wp2
        go_ret2
        exact ⟨rfl, bt hb hb3⟩
      · have hn : numF s = none := by
          unfold numF; rw [ha]; simp only
          rw [if_neg (fun q => hq q.2.2)]
        have hnv : numV s = 0 := by unfold numV; rw [hn]; rfl
        rw [hnv, hn]
        have hne : ((B (Go.Lib.itoa v)).toList == (B s).toList) = false := by rw [B_eq]; exact beq_eq_false_iff_ne.2 hq
        have HE : Hid _ := h
        clear hn hnv hq ha h
        go_enter Tryz.func65, Tryz.ntmps65
        go_wp2_with fail
        refine hA.mono ?_
        rintro e w1 ⟨rfl, hw⟩
        have hb : Below w.heap.size w w1 := by
          rcases hw with rfl | ⟨t, rfl⟩
          · exact Below.refl _ _
          · exact Lib.bytesWorld_below _ _ _
        clear hw hA
        go_wp2_with fail
        refine (short_any v w1).mono ?_
        rintro e w2 ⟨rfl, rfl⟩
        go_wp2_with fail
        refine (hi w2 (HE.out.later hb)).mono ?_
        rintro e w3 ⟨rfl, hb3⟩
        go_wp2
        go_ret2
        exact ⟨rfl, bt hb hb3⟩
    · have hv2 : shortB v = false := by simpa using hv
      have hn : numF s = none := by
        unfold numF; rw [ha]; simp only
        unfold shortB at hv
        simp only [Bool.and_eq_true, decide_eq_true_eq] at hv
        rw [if_neg (fun q => hv ⟨q.1, q.2.1⟩)]
      have hnv : numV s = 0 := by unfold numV; rw [hn]; rfl
      rw [hnv, hn]
      clear hn hnv ha h hv
      go_enter Tryz.func65, Tryz.ntmps65
      go_wp2_with fail
      refine hA.mono ?_
      rintro e w1 ⟨rfl, hw⟩
      have hb : Below w.heap.size w w1 := by
        rcases hw with rfl | ⟨t, rfl⟩
        · exact Below.refl _ _
        · exact Lib.bytesWorld_below _ _ _
      clear hw hA
      go_wp2_with fail
      refine (short_any v w1).mono ?_
      rintro e w2 ⟨rfl, rfl⟩
      go_wp2
      go_ret2
      exact ⟨rfl, hb⟩
  | «syntax» =>
    have hn : numF s = none := by unfold numF; rw [ha]
    have hnv : numV s = 0 := by unfold numV; rw [hn]; rfl
    rw [hnv, hn]
    obtain ⟨ev, h1, h2⟩ := h.es
    have hA := Tryz.strconv_Atoi_syntax (B s) (by omega) ha ev w h1 h2
    clear hn hnv h h1 h2 ha
    go_enter Tryz.func65, Tryz.ntmps65
    go_wp2_with fail
    refine hA.mono ?_
    rintro e w1 ⟨n, rfl, -, -, hb⟩
    clear hA
    go_wp2
    go_ret2
    exact ⟨rfl, hb⟩
  | range =>
    have hn : numF s = none := by unfold numF; rw [ha]
    have hnv : numV s = 0 := by unfold numV; rw [hn]; rfl
    rw [hnv, hn]
    obtain ⟨ev, h1, h2⟩ := h.er
    have hA := Tryz.strconv_Atoi_range (B s) (by omega) ha ev w h1 h2
    clear hn hnv h h1 h2 ha
    go_enter Tryz.func65, Tryz.ntmps65
    go_wp2_with fail
    refine hA.mono ?_
    rintro e w1 ⟨n, rfl, -, -, hb⟩
    clear hA
    go_wp2
    go_ret2
    exact ⟨rfl, hb⟩
end Go.Proofs.YtadmpdeegnppjaaGreatDoor
