/- the texts PDec, PRdec, PFactsB, PRdf, in part, merged by program -/
import Derived.Test.YtkpdmgoldngdaaaGreatDoorRows
import Derived.Deep.RegionWith
import Derived.WalkKit
import Derived.WalkSpells
import Derived.Deep.RegionHeld3
import Derived.Deep.QuietTactic
import Derived.BigQuiet
import Derived.WalkSmall
import Derived.LoopN
import Derived.RegionTactic
import Derived.Below
import Derived.Test.YtkpdmgoldngdaaaGreatDoorMA01
import Derived.Test.YtkpdmgoldngdaaaGreatDoorMA03
import Derived.Test.YtkpdmgoldngdaaaGreatDoorMD01
import Derived.Test.YtkpdmgoldngdaaaGreatDoorME01
import Derived.Test.YtkpdmgoldngdaaaGreatDoorMG01
import Derived.Test.YtkpdmgoldngdaaaGreatDoorMG02
import Derived.Test.YtkpdmgoldngdaaaGreatDoorMH01
import Derived.Test.YtkpdmgoldngdaaaGreatDoorMO01
import Derived.Test.YtkpdmgoldngdaaaGreatDoorMO03
namespace Go.Proofs.YtkpdmgoldngdaaaGreatDoor.Ip
open Go.RowKit
set_option maxRecDepth 100000
theorem len_n {s : ByteArray} (h : (s.size : Int) < 20 ∨ 20 ≤ (s.size : Int) ∧ (byS s 0 / 16 != 4) = true) (w : World) (hs : s.size ≤ 1125899906842624) :
    Calls Tryz.prog 105 #[.string s] w fun e w' => e = .returned (.tuple #[.int .i64 0, .int .i64 0, .bool false]) ∧ Below w.heap.size w w' := by
  have hs' : (s.size : Int) ≤ 1125899906842624 := by omega
  rcases h with h | ⟨h, q⟩
  · go_enter Tryz.func105, Tryz.ntmps105
    go_wp2
    go_ret3
    exact ⟨rfl, Below.refl _ _⟩
  · have h0 : 0 < s.size := by omega
    have e0 := byS_is s 0 h0
    go_enter Tryz.func105, Tryz.ntmps105
    go_wp2
    go_ret3
    exact ⟨rfl, Below.refl _ _⟩
set_option maxRecDepth 100000 in
set_option maxHeartbeats 1000000 in
theorem dec_1 {s : ByteArray} (h : (s.size : Int) < 20 ∨ 20 ≤ (s.size : Int) ∧ (byS s 0 / 16 != 4) = true) (w : World) (hs : s.size ≤ 1125899906842624) :
    Calls Tryz.prog 61 #[.string s] w fun e w' => e = .returned (.tuple #[.agg #[.int .i64 0, .int .i64 0, .int .i64 0, .int .i64 0, .int .i64 0, .int .i64 0, .bool false, .bool false, .string ⟨#[]⟩, .string ⟨#[]⟩], .int .i64 50]) ∧ Below w.heap.size w w' := by
  have hl := bel1 w (.cells #[.int .i64 0, .int .i64 0, .int .i64 0, .int .i64 0, .int .i64 0, .int .i64 0, .bool false, .bool false, .string ⟨#[]⟩, .string ⟨#[]⟩] 27)
  have hR := At.box w #[.int .i64 0, .int .i64 0, .int .i64 0, .int .i64 0, .int .i64 0, .int .i64 0, .bool false, .bool false, .string ⟨#[]⟩, .string ⟨#[]⟩] 27
  go_enter Tryz.func61, Tryz.ntmps61
  go_wp2_with fail
  refine (len_n h _ hs).mono ?_
  rintro e w1 ⟨rfl, hb⟩
  have hl := bt hl hb
  obtain ⟨⟨r0, r1, r2, r3, r4, r5, r6, r7, r8, r9⟩, ⟨f0, f1, f2, f3, f4, f5, f6, f7, f8, f9⟩, hlt⟩ := (hR.later hb).ten
  clear hR hb
  go_wp2
  exact bodyPost_ret (v := .tuple #[.agg #[.int .i64 0, .int .i64 0, .int .i64 0, .int .i64 0, .int .i64 0, .int .i64 0, .bool false, .bool false, .string ⟨#[]⟩, .string ⟨#[]⟩], .int .i64 50]) (by simp [results, Tryz.results61, go_sem, r0, r1, r2, r3, r4, r5, r6, r7, r8, r9]) rfl ⟨rfl, below10 hl (Nat.le_refl _) _ _ _ _ _ _ _ _ _ _⟩
set_option maxRecDepth 100000 in
set_option maxHeartbeats 1000000 in
theorem dec_2 {s : ByteArray} (h20 : 20 ≤ (s.size : Int)) (h4 : (byS s 0 / 16 != 4) = false) (h : dH s < 20 ∨ 20 ≤ dH s ∧ dL s < dH s ∨ 20 ≤ dH s ∧ dH s ≤ dL s ∧ (s.size : Int) < dL s) (w : World) (hs : s.size ≤ 1125899906842624) :
    Calls Tryz.prog 61 #[.string s] w fun e w' => e = .returned (.tuple #[.agg #[.int .i64 0, .int .i64 0, .int .i64 0, .int .i64 0, .int .i64 0, .int .i64 0, .bool false, .bool false, .string ⟨#[]⟩, .string ⟨#[]⟩], .int .i64 50]) ∧ Below w.heap.size w w' := by
  have hl := bel1 w (.cells #[.int .i64 0, .int .i64 0, .int .i64 0, .int .i64 0, .int .i64 0, .int .i64 0, .bool false, .bool false, .string ⟨#[]⟩, .string ⟨#[]⟩] 27)
  have hR := At.box w #[.int .i64 0, .int .i64 0, .int .i64 0, .int .i64 0, .int .i64 0, .int .i64 0, .bool false, .bool false, .string ⟨#[]⟩, .string ⟨#[]⟩] 27
  go_enter Tryz.func61, Tryz.ntmps61
  go_wp2_with fail
  refine (len_y h20 h4 false (h.elim (fun h => .inl ⟨rfl, h⟩) fun h => h.elim (fun h => .inr (.inl ⟨rfl, h⟩)) fun h => .inr (.inr (.inl ⟨rfl, h⟩))) _ hs).mono ?_
  rintro e w1 ⟨rfl, hb⟩
  have hl := bt hl hb
  obtain ⟨⟨r0, r1, r2, r3, r4, r5, r6, r7, r8, r9⟩, ⟨f0, f1, f2, f3, f4, f5, f6, f7, f8, f9⟩, hlt⟩ := (hR.later hb).ten
  clear hR hb
  go_wp2
  exact bodyPost_ret (v := .tuple #[.agg #[.int .i64 0, .int .i64 0, .int .i64 0, .int .i64 0, .int .i64 0, .int .i64 0, .bool false, .bool false, .string ⟨#[]⟩, .string ⟨#[]⟩], .int .i64 50]) (by simp [results, Tryz.results61, go_sem, r0, r1, r2, r3, r4, r5, r6, r7, r8, r9]) rfl ⟨rfl, below10 hl (Nat.le_refl _) _ _ _ _ _ _ _ _ _ _⟩
theorem wh_f {s : ByteArray} (h : ¬ sumS s = 0) (w : World) (hs : s.size ≤ 140737488355328) : Calls Tryz.prog 70 #[.string s] w fun e w' => e = .returned (.bool false) ∧ Below w.heap.size w w' := by
  have := whole_any s w hs; rw [show (sumS s == 0) = false by simpa using h] at this; exact this
set_option maxRecDepth 100000 in
set_option maxHeartbeats 1000000 in
theorem dec_3 {s : ByteArray} (h20 : 20 ≤ (s.size : Int)) (h4 : (byS s 0 / 16 != 4) = false) (hH : 20 ≤ dH s) (hL : dH s ≤ dL s) (hS : dL s ≤ (s.size : Int)) (h : ¬ sumS (headS' s) = 0) (w : World) (hs : s.size ≤ 1125899906842624) :
    Calls Tryz.prog 61 #[.string s] w fun e w' => e = .returned (.tuple #[.agg #[.int .i64 0, .int .i64 0, .int .i64 0, .int .i64 0, .int .i64 0, .int .i64 0, .bool false, .bool false, .string ⟨#[]⟩, .string ⟨#[]⟩], .int .i64 20]) ∧ Below w.heap.size w w' := by
  have hl := bel1 w (.cells #[.int .i64 0, .int .i64 0, .int .i64 0, .int .i64 0, .int .i64 0, .int .i64 0, .bool false, .bool false, .string ⟨#[]⟩, .string ⟨#[]⟩] 27)
  have hR := At.box w #[.int .i64 0, .int .i64 0, .int .i64 0, .int .i64 0, .int .i64 0, .int .i64 0, .bool false, .bool false, .string ⟨#[]⟩, .string ⟨#[]⟩] 27
  have x1 : s.extract 0 (dH s).toNat = headS' s := rfl
  have hHs : dH s ≤ (s.size : Int) := by omega
  have hH0 : 0 ≤ dH s := by omega
  go_enter Tryz.func61, Tryz.ntmps61
  go_wp2_with fail
  refine (len_y h20 h4 true (.inr (.inr (.inr ⟨rfl, hH, hL, hS⟩))) _ hs).mono ?_
  rintro e w1 ⟨rfl, hb⟩
  have hl := bt hl hb
  replace hR := hR.later hb
  clear hb
  go_wp2_with fail
  refine (wh_f h _ (hd_size s)).mono ?_
  rintro e w2 ⟨rfl, hb⟩
  replace hl := bt hl hb
  obtain ⟨⟨r0, r1, r2, r3, r4, r5, r6, r7, r8, r9⟩, ⟨f0, f1, f2, f3, f4, f5, f6, f7, f8, f9⟩, hlt⟩ := (hR.later hb).ten
  clear hR hb
  go_wp2
  exact bodyPost_ret (v := .tuple #[.agg #[.int .i64 0, .int .i64 0, .int .i64 0, .int .i64 0, .int .i64 0, .int .i64 0, .bool false, .bool false, .string ⟨#[]⟩, .string ⟨#[]⟩], .int .i64 20]) (by simp [results, Tryz.results61, go_sem, r0, r1, r2, r3, r4, r5, r6, r7, r8, r9]) rfl ⟨rfl, below10 hl (Nat.le_refl _) _ _ _ _ _ _ _ _ _ _⟩

set_option maxRecDepth 100000 in
set_option maxHeartbeats 2000000 in
theorem dec_4b {s : ByteArray} (h20 : 20 ≤ (s.size : Int)) (h4 : (byS s 0 / 16 != 4) = false) (hH : 20 ≤ dH s) (hL : dH s ≤ dL s) (hS : dL s ≤ (s.size : Int)) (hw : sumS (headS' s) = 0) (h1 : (byS s 1 != 0) = false) (h6 : (byS s 6 / 128 != 0) = false) (h : mayD s = false) (w : World) (hs : s.size ≤ 1125899906842624) :
    Calls Tryz.prog 61 #[.string s] w fun e w' => e = .returned (.tuple #[.agg #[.int .i64 0, .int .i64 0, .int .i64 0, .int .i64 0, .int .i64 0, .int .i64 0, .bool false, .bool false, .string ⟨#[]⟩, .string ⟨#[]⟩], .int .i64 50]) ∧ Below w.heap.size w w' := by
  have hl := bel1 w (.cells #[.int .i64 0, .int .i64 0, .int .i64 0, .int .i64 0, .int .i64 0, .int .i64 0, .bool false, .bool false, .string ⟨#[]⟩, .string ⟨#[]⟩] 27)
  have hR := At.box w #[.int .i64 0, .int .i64 0, .int .i64 0, .int .i64 0, .int .i64 0, .int .i64 0, .bool false, .bool false, .string ⟨#[]⟩, .string ⟨#[]⟩] 27
  have x1 : s.extract 0 (dH s).toNat = headS' s := rfl
  have hHs : dH s ≤ (s.size : Int) := by omega
  have hH0 : 0 ≤ dH s := by omega
  have e1 := byS_is s 1 (by omega)
  have e6 := byS_is s 6 (by omega)
  have z1 := dOp_size hH hL hS
  have z2 := dDa_size hH hL hS
  have hbd := dH_bd s
  have hbl := dL_bd s
  have ho : (dOp s).size ≤ 1125899906842624 := by omega
  have hd : (dDa s).size ≤ 1125899906842624 := by omega
  have hq1 : 1 < (s.size : Int) := by omega
  have hq6 : 6 < (s.size : Int) := by omega
  clear z1 z2 hbd hbl
  have hh := h
  iterate 1
    go_enter Tryz.func61, Tryz.ntmps61
    go_wp2_with fail
    refine (len_y h20 h4 true (.inr (.inr (.inr ⟨rfl, hH, hL, hS⟩))) _ hs).mono ?_
    rintro e w1 ⟨rfl, hb⟩
    have hl := bt hl hb
    replace hR := hR.later hb
    clear hb
    go_wp2_with fail
    refine (wh_t hw _ (hd_size s)).mono ?_
    rintro e w2 ⟨rfl, hb⟩
    replace hl := bt hl hb
    replace hR := hR.later hb
    clear hb
    go_wp2_with fail
    refine (read_y h20 hH hL hS _ hs).mono ?_
    rintro e w3 ⟨rfl, hb⟩
    replace hl := bt hl hb
    replace hR := hR.later hb
    clear hb
    have hP := At.box w3 #[.int .i64 (dF s), .int .i64 (dT s), .int .i64 (dTl s), .int .i64 (dPr s), .int .i64 (dId s), .int .i64 (dFr s), .bool (dMo s), .bool (dDn s), .string (dOp s), .string (dDa s)] 27
    replace hR := hR.later (bel1 w3 (.cells #[.int .i64 (dF s), .int .i64 (dT s), .int .i64 (dTl s), .int .i64 (dPr s), .int .i64 (dId s), .int .i64 (dFr s), .bool (dMo s), .bool (dDn s), .string (dOp s), .string (dDa s)] 27))
    replace hl := bt hl (bel1 w3 (.cells #[.int .i64 (dF s), .int .i64 (dT s), .int .i64 (dTl s), .int .i64 (dPr s), .int .i64 (dId s), .int .i64 (dFr s), .bool (dMo s), .bool (dDn s), .string (dOp s), .string (dDa s)] 27))
    obtain ⟨⟨r0, r1, r2, r3, r4, r5, r6, r7, r8, r9⟩, ⟨f0, f1, f2, f3, f4, f5, f6, f7, f8, f9⟩, hlt⟩ := hR.ten
    go_wp2_with fail
    refine (mp_f h _ ho hd).mono ?_
    rintro e w4 ⟨rfl, hb⟩
    clear r0 r1 r2 r3 r4 r5 r6 r7 r8 r9 f0 f1 f2 f3 f4 f5 f6 f7 f8 f9 hlt
    replace hl := bt hl hb
    obtain ⟨⟨r0, r1, r2, r3, r4, r5, r6, r7, r8, r9⟩, ⟨f0, f1, f2, f3, f4, f5, f6, f7, f8, f9⟩, hlt⟩ := (hR.later hb).ten
    obtain ⟨⟨p0, p1, p2, p3, p4, p5, p6, p7, p8, p9⟩, -, -⟩ := (hP.later hb).ten
    go_wp2
    exact bodyPost_ret (v := .tuple #[.agg #[.int .i64 0, .int .i64 0, .int .i64 0, .int .i64 0, .int .i64 0, .int .i64 0, .bool false, .bool false, .string ⟨#[]⟩, .string ⟨#[]⟩], .int .i64 50]) (by simp [results, Tryz.results61, go_sem, r0, r1, r2, r3, r4, r5, r6, r7, r8, r9]) rfl ⟨rfl, below10 hl (Nat.le_refl _) _ _ _ _ _ _ _ _ _ _⟩

end Go.Proofs.YtkpdmgoldngdaaaGreatDoor.Ip

namespace Go.Proofs.YtkpdmgoldngdaaaGreatDoor.Ip
open Go.RowKit
set_option maxRecDepth 100000

theorem byS_num (s : ByteArray) (i j : Nat) (hj : j = i + 1) (h : i < s.size) : byS s i = numS (s.extract i j) := by
  subst hj
  have hl := len_toList s
  unfold numS
  rw [ext_toList, ← byS_is s i h, show i + 1 - i = 1 by omega]
  rw [List.drop_eq_getElem_cons (by omega : i < s.data.toList.length)]
  simp [numL]
  rfl
theorem run_sl (s : ByteArray) (a b : Nat) (x : ByteArray) (hx : s.extract a b = x) (h : (b : Int) ≤ s.size) (hab : a ≤ b) : ∀ W, (Instr.slice 9 (.string s) (some (.int .i64 (a : Int))) (some (.int .i64 (b : Int))) none).run Tryz.prog W = .ok (.string x) W := fun W => by
  rw [run_slice_string_if W 9 s .i64 .i64 a b Tryz.underlying9, if_pos ⟨by omega, by omega⟩, if_pos ⟨by omega, by omega⟩, ← hx]; rfl
theorem run_slI (s : ByteArray) (a b : Int) (x : ByteArray) (hx : s.extract a.toNat b.toNat = x) (h : b ≤ s.size) (h0 : 0 ≤ a) (hab : a ≤ b) : ∀ W, (Instr.slice 9 (.string s) (some (.int .i64 a)) (some (.int .i64 b)) none).run Tryz.prog W = .ok (.string x) W := fun W => by
  rw [run_slice_string_if W 9 s .i64 .i64 a b Tryz.underlying9, if_pos ⟨by omega, by omega⟩, if_pos ⟨by omega, by omega⟩, ← hx]
theorem run_ix (s : ByteArray) (i : Nat) (x : Int) (h : (i : Int) < s.size) (hx : byS s i = x) : ∀ W, (Instr.index 9 (.string s) (.int .i64 (i : Int))).run Tryz.prog W = .ok (.int .u8 x) W := fun W => by
  rw [run_index_string W 9 s .i64 i Tryz.underlying9, dif_pos ⟨by omega, h⟩, ← hx, ← byS_is s i (by omega)]; rfl

set_option maxRecDepth 100000 in
set_option maxHeartbeats 1000000 in
theorem rdec_1 {s : ByteArray} (h : (s.size : Int) < 20 ∨ 20 ≤ (s.size : Int) ∧ (byS s 0 / 16 != 4) = true) (w : World) (hs : s.size ≤ 1125899906842624) :
    Calls Tryz.prog 31 #[.string s] w fun e w' => e = .returned (.tuple #[.agg #[.int .i64 0, .int .i64 0, .int .i64 0, .int .i64 0, .int .i64 0, .int .i64 0, .bool false, .bool false, .string ⟨#[]⟩, .string ⟨#[]⟩], .int .i64 50]) ∧ Below w.heap.size w w' := by
  have hs' : (s.size : Int) ≤ 1125899906842624 := by omega
  have hl := bel1 w (.cells #[.int .i64 0, .int .i64 0, .int .i64 0, .int .i64 0, .int .i64 0, .int .i64 0, .bool false, .bool false, .string ⟨#[]⟩, .string ⟨#[]⟩] 27)
  rcases h with h | ⟨h, q⟩
  · go_enter Tryz.func31, Tryz.ntmps31
    go_wp2
    exact bodyPost_ret (v := .tuple #[.agg #[.int .i64 0, .int .i64 0, .int .i64 0, .int .i64 0, .int .i64 0, .int .i64 0, .bool false, .bool false, .string ⟨#[]⟩, .string ⟨#[]⟩], .int .i64 50]) (by simp [results, Tryz.results31, go_sem]) rfl ⟨rfl, hl⟩
  · have e0 := byS_is s 0 (by omega)
    have q1 := byS_bd s 0
    go_enter Tryz.func31, Tryz.ntmps31
    go_wp2
    exact bodyPost_ret (v := .tuple #[.agg #[.int .i64 0, .int .i64 0, .int .i64 0, .int .i64 0, .int .i64 0, .int .i64 0, .bool false, .bool false, .string ⟨#[]⟩, .string ⟨#[]⟩], .int .i64 50]) (by simp [results, Tryz.results31, go_sem]) rfl ⟨rfl, hl⟩
set_option maxRecDepth 100000 in
set_option maxHeartbeats 1000000 in
theorem rdec_2 {s : ByteArray} (h20 : 20 ≤ (s.size : Int)) (h4 : (byS s 0 / 16 != 4) = false) (h : dH s < 20 ∨ 20 ≤ dH s ∧ (s.size : Int) < dH s ∨ (20 ≤ dH s ∧ dH s ≤ (s.size : Int)) ∧ (dL s < dH s ∨ dH s ≤ dL s ∧ (s.size : Int) < dL s)) (w : World) (hs : s.size ≤ 1125899906842624) :
    Calls Tryz.prog 31 #[.string s] w fun e w' => e = .returned (.tuple #[.agg #[.int .i64 0, .int .i64 0, .int .i64 0, .int .i64 0, .int .i64 0, .int .i64 0, .bool false, .bool false, .string ⟨#[]⟩, .string ⟨#[]⟩], .int .i64 50]) ∧ Below w.heap.size w w' := by
  have hs' : (s.size : Int) ≤ 1125899906842624 := by omega
  have hl := bel1 w (.cells #[.int .i64 0, .int .i64 0, .int .i64 0, .int .i64 0, .int .i64 0, .int .i64 0, .bool false, .bool false, .string ⟨#[]⟩, .string ⟨#[]⟩] 27)
  have e0 := byS_is s 0 (by omega)
  have q1 := byS_bd s 0
  have e2 : byS s 0 % 16 * 4 = dH s := rfl
  have e4 : numS (s.extract 2 4) = dL s := rfl
  have hz : (s.extract 2 4).size ≤ 6 := by rw [ByteArray.size_extract]; omega
  have q2 : 0 ≤ byS s 0 % 16 := by omega
  have q3 : byS s 0 % 16 ≤ 15 := by omega
  rcases h with h | ⟨h, g⟩ | ⟨⟨h, g⟩, k | ⟨k, g2⟩⟩
  all_goals
    go_enter Tryz.func31, Tryz.ntmps31
    go_wp2_with fail
    refine (num_any _ _ hz).mono ?_
    rintro e w1 ⟨rfl, rfl⟩
    go_wp2
    exact bodyPost_ret (v := .tuple #[.agg #[.int .i64 0, .int .i64 0, .int .i64 0, .int .i64 0, .int .i64 0, .int .i64 0, .bool false, .bool false, .string ⟨#[]⟩, .string ⟨#[]⟩], .int .i64 50]) (by simp [results, Tryz.results31, go_sem]) rfl ⟨rfl, hl⟩
theorem rwh_t {s : ByteArray} (h : sumS s = 0) (w : World) (hs : s.size ≤ maxLen) : Calls Tryz.prog 66 #[.string s] w fun e w' => e = .returned (.bool true) ∧ w' = w := by
  have := rwhole_any s w hs; rw [h] at this; exact this
theorem rwh_f {s : ByteArray} (h : ¬ sumS s = 0) (w : World) (hs : s.size ≤ maxLen) : Calls Tryz.prog 66 #[.string s] w fun e w' => e = .returned (.bool false) ∧ w' = w := by
  have := rwhole_any s w hs; rw [show (sumS s == 0) = false by simpa using h] at this; exact this
theorem hd_size' (s : ByteArray) : (headS' s).size ≤ maxLen := by have := hd_size s; unfold maxLen; omega
set_option maxRecDepth 100000 in
set_option maxHeartbeats 1000000 in
theorem rdec_3 {s : ByteArray} (h20 : 20 ≤ (s.size : Int)) (h4 : (byS s 0 / 16 != 4) = false) (hH : 20 ≤ dH s) (hL : dH s ≤ dL s) (hS : dL s ≤ (s.size : Int)) (hw : ¬ sumS (headS' s) = 0) (w : World) (hs : s.size ≤ 1125899906842624) :
    Calls Tryz.prog 31 #[.string s] w fun e w' => e = .returned (.tuple #[.agg #[.int .i64 0, .int .i64 0, .int .i64 0, .int .i64 0, .int .i64 0, .int .i64 0, .bool false, .bool false, .string ⟨#[]⟩, .string ⟨#[]⟩], .int .i64 20]) ∧ Below w.heap.size w w' := by
  have hs' : (s.size : Int) ≤ 1125899906842624 := by omega
  have hl := bel1 w (.cells #[.int .i64 0, .int .i64 0, .int .i64 0, .int .i64 0, .int .i64 0, .int .i64 0, .bool false, .bool false, .string ⟨#[]⟩, .string ⟨#[]⟩] 27)
  have e0 := byS_is s 0 (by omega)
  have q1 := byS_bd s 0
  have e2 : byS s 0 % 16 * 4 = dH s := rfl
  have e4 : numS (s.extract 2 4) = dL s := rfl
  have hz : (s.extract 2 4).size ≤ 6 := by rw [ByteArray.size_extract]; omega
  have q2 : 0 ≤ byS s 0 % 16 := by omega
  have q3 : byS s 0 % 16 ≤ 15 := by omega
  have x1 : s.extract 0 (dH s).toNat = headS' s := rfl
  have hHs : dH s ≤ (s.size : Int) := by omega
  have hH0 : 0 ≤ dH s := by omega
  go_enter Tryz.func31, Tryz.ntmps31
  go_wp2_with fail
  refine (num_any _ _ hz).mono ?_
  rintro e w1 ⟨rfl, rfl⟩
  go_wp2_with fail
  refine (rwh_f hw _ (hd_size' s)).mono ?_
  rintro e w1 ⟨rfl, rfl⟩
  go_wp2
  exact bodyPost_ret (v := .tuple #[.agg #[.int .i64 0, .int .i64 0, .int .i64 0, .int .i64 0, .int .i64 0, .int .i64 0, .bool false, .bool false, .string ⟨#[]⟩, .string ⟨#[]⟩], .int .i64 20]) (by simp [results, Tryz.results31, go_sem]) rfl ⟨rfl, hl⟩

end Go.Proofs.YtkpdmgoldngdaaaGreatDoor.Ip

namespace Go.Proofs.YtkpdmgoldngdaaaGreatDoor.Ip
open Go.RowKit
set_option maxRecDepth 100000
section
variable {P : Program} {ops : Array Oper} {Q : Exit → Act → World → Prop} {md : Region.Mode}

def lastB (md : Region.Mode) (ops : Array Oper) (m : Nat) : Bool := decide (ops.size = m + 1) && match ops[m]? with
  | some o => (List.range m).all fun j => o.after.any fun e => Region.binds md e && e.on == j
  | none => false
theorem lastB_size {m : Nat} (h : lastB md ops m = true) : ops.size = m + 1 := by
  unfold lastB at h
  simp only [Bool.and_eq_true] at h
  exact of_decide_eq_true h.1
theorem lastB_all {m : Nat} (h : lastB md ops m = true) {o : Oper} (ho : ops[m]? = some o) {l : Array Bool} (hall : ∀ e ∈ o.after, Region.binds md e = true → l.getD e.on false = true) : ∀ j, j < m → l.getD j false = true := by
  intro j hj
  unfold lastB at h
  simp only [Bool.and_eq_true, ho] at h
  have h1 := List.all_eq_true.1 h.2 j (List.mem_range.2 hj)
  obtain ⟨e, he, hb⟩ := Array.any_eq_true'.1 h1
  simp only [Bool.and_eq_true, beq_iff_eq] at hb
  rw [← hb.2]
  exact hall e he hb.1

theorem region_facts_last (S : World → Prop) (G : Nat → Value → World → Prop) {a0 : Act} {n fuel m : Nat} (hlast : lastB md ops m = true) (hord : orderlyB md ops = true) (hn : a0.tmps.size = n)
    (hdb : dstB ops n = true)
    (hG : ∀ i v w w', G i v w → Below w.heap.size w w' → G i v w')
    (hops : StepsOk P md ops Q S G a0 n (ops.toList.take m) 0)
    (hend : ∀ (om : Oper), ops[m]? = some om → ∀ a w, S w → a.tmps.size = n → a.defers = a0.defers → (∀ k, slotFreeB ops k = true → a.tmps.getD k undef = a0.tmps.getD k undef) → (∀ (i : Nat) (o : Oper) (d : Nat), i < m → ops[i]? = some o → o.dst = some d → G i (a.tmps.getD d undef) w) →
      ∀ K : Act → World → Prop, (∀ a' w', Q .normal a' w' → K a' w') → if Region.wanted om (yielded ops a.tmps) = true then Oper.wp P om a w K Q else K (a.put om.dst undef) w)
    {w : World} (hS : S w) (hf : ops.size ≤ fuel) : wpAny P md ops Q fuel (Array.replicate ops.size false) a0 w := by
  have hsz := lastB_size hlast
  refine wpAny_inv (I := fun l a w => (Inv ops S G a0 n l a w ∧ l.getD m true = false) ∨ ((∀ i, i < ops.size → l.getD i true = true) ∧ Q .normal a w)) ?_ ?_ fuel _ a0 w ?_ ?_
  · intro l a w i hII hi
    obtain ⟨hun, o, ho, hall⟩ := mem_ready.1 hi
    have hio : i < ops.size := (Array.getElem?_eq_some_iff.1 ho).1
    rcases hII with ⟨hI, hm⟩ | ⟨hdone, _⟩
    case inr => rw [hdone i hio] at hun; cases hun
    refine wpOp_step ho fun K' hK => ?_
    by_cases him : i = m
    · subst him
      have hl := lastB_all hlast ho hall
      refine hend o ho a w hI.holds hI.tsize hI.defers hI.base (fun j oj d hj hoj hd => hI.facts j oj d hoj hd (hl j hj)) K' ?_
      intro a' w' hq
      refine hK a' w' (.inr ⟨fun j hj => ?_, hq⟩)
      by_cases hji : j = i
      · subst hji
        rw [Array.getD_eq_getD_getElem?, Array.getElem?_setIfInBounds]
        simp [hI.size, hio]
      · have h1 := hl j (by omega)
        have hlj : j < l.size := by rw [hI.size]; exact hj
        rw [Array.getD_eq_getD_getElem?, Array.getElem?_eq_getElem hlj] at h1
        rw [Array.getD_eq_getD_getElem?, Array.getElem?_setIfInBounds_ne (Ne.symm hji), Array.getElem?_eq_getElem hlj]
        exact h1
    · have hlt : i < m := by omega
      have hop := steps_at (ops.toList.take m) 0 hops i o (by rw [List.getElem?_take, if_pos hlt]; simpa using ho)
      rw [Nat.zero_add] at hop
      refine hop a w hI.holds hI.tsize hI.base ?_ K' ?_
      · intro e he hb oe d hoe hd
        exact hI.facts e.on oe d hoe hd (hall e he hb)
      · intro v w' hS' hB hg
        apply hK
        refine .inl ⟨?_, ?_⟩
        · have hput : (a.put o.dst v).tmps.size = n ∧ (a.put o.dst v).defers = a.defers := by
            cases o.dst <;> simp [Act.put, hI.tsize]
          refine ⟨by simp [hI.size], hput.1, hput.2.trans hI.defers, hS', ?_, ?_⟩
          · intro k hk
            cases hd : o.dst with
            | none => exact hI.base k hk
            | some d =>
              have : d ≠ k := fun e => slotFree_spec hk i o ho (by rw [hd, e])
              rw [put_other this]
              exact hI.base k hk
          · intro j oj d hoj hd hl
            by_cases hji : j = i
            · subst hji
              obtain rfl : o = oj := Option.some.inj (ho.symm.trans hoj)
              rw [hd, put_self (by rw [hI.tsize]; exact dst_spec hdb j o d ho hd)]
              exact hg
            · have hl' : l.getD j false = true := by
                rw [Array.getD_eq_getD_getElem?, Array.getElem?_setIfInBounds_ne (Ne.symm hji), ← Array.getD_eq_getD_getElem?] at hl
                exact hl
              have old := hG j _ w w' (hI.facts j oj d hoj hd hl') hB
              cases hdo : o.dst with
              | none => exact old
              | some d' =>
                have : d' ≠ d := fun e => orderly_dst hord j i oj o d hoj ho hd (Ne.symm hji) (by rw [hdo, e])
                rw [put_other this]
                exact old
        · rw [Array.getD_eq_getD_getElem?, Array.getElem?_setIfInBounds_ne him, ← Array.getD_eq_getD_getElem?]
          exact hm
  · intro l a w hII hr
    rcases hII with ⟨hI, hm⟩ | ⟨_, hq⟩
    · have := all_listed hord hI.size hr m (by omega)
      have hlm : m < l.size := by rw [hI.size]; omega
      rw [Array.getD_eq_getD_getElem?, Array.getElem?_eq_getElem hlm] at this hm
      have h1 : l[m] = true := this
      have h2 : l[m] = false := hm
      rw [h1] at h2; cases h2
    · exact hq
  · simp; omega
  · refine .inl ⟨⟨by simp, hn, rfl, hS, fun _ _ => rfl, ?_⟩, by simp [hsz]⟩
    intro i o d ho hd hl
    rw [Array.getD_eq_getD_getElem?] at hl
    by_cases hi : i < ops.size
    · simp [hi] at hl
    · simp [hi] at hl
end
end Go.Proofs.YtkpdmgoldngdaaaGreatDoor.Ip

namespace Go.Proofs.YtkpdmgoldngdaaaGreatDoor.Ip
open Go.RowKit
set_option maxRecDepth 100000
set_option linter.unusedVariables false
theorem At.set_other {w : World} {b b' : Nat} {vs : Array Value} (h : At w b vs) (hne : b' ≠ b) (j : Nat) (v : Value) : At (w.setCell ⟨b', j, none⟩ v) b vs := by
  refine ⟨by simpa [World.setCell] using h.1, fun i x hi => ⟨?_, ?_⟩⟩
  · rw [World.cell?_setCell_other]
    · exact (h.2 i x hi).1
    · exact fun e => hne (congrArg Addr.block e)
  · rw [World.frozen?_setCell]
    exact (h.2 i x hi).2
theorem At.stored {w : World} {b : Nat} {u0 u1 u2 u3 u4 u5 u6 u7 u8 u9 : Value} (h : At w b #[u0, u1, u2, u3, u4, u5, u6, u7, u8, u9]) (v0 v1 v2 v3 v4 v5 v6 v7 v8 v9 : Value) : At ((((((((((w.setCell ⟨b, 0, none⟩ v0).setCell ⟨b, 1, none⟩ v1).setCell ⟨b, 2, none⟩ v2).setCell ⟨b, 3, none⟩ v3).setCell ⟨b, 4, none⟩ v4).setCell ⟨b, 5, none⟩ v5).setCell ⟨b, 6, none⟩ v6).setCell ⟨b, 7, none⟩ v7).setCell ⟨b, 8, none⟩ v8).setCell ⟨b, 9, none⟩ v9) b #[v0, v1, v2, v3, v4, v5, v6, v7, v8, v9] := by
  obtain ⟨⟨c0, c1, c2, c3, c4, c5, c6, c7, c8, c9⟩, ⟨f0, f1, f2, f3, f4, f5, f6, f7, f8, f9⟩, hlt⟩ := h.ten
  refine ⟨by simpa [World.setCell] using hlt, fun i v hi => ?_⟩
  have hi10 : i < 10 := (Array.getElem?_eq_some_iff.1 hi).1
  obtain rfl | rfl | rfl | rfl | rfl | rfl | rfl | rfl | rfl | rfl : i = 0 ∨ i = 1 ∨ i = 2 ∨ i = 3 ∨ i = 4 ∨ i = 5 ∨ i = 6 ∨ i = 7 ∨ i = 8 ∨ i = 9 := by omega
  all_goals
    obtain rfl := Option.some.inj hi
    refine ⟨by simp [go_sem, c0, c1, c2, c3, c4, c5, c6, c7, c8, c9], by simp only [World.frozen?_setCell]; assumption⟩
def GD (vals : Nat → Value) (B : Nat) (i : Nat) (v : Value) (w : World) : Prop := match i with
  | 33 => ∃ b, v = .pointer (some ⟨b, 0, none⟩) ∧ B ≤ b ∧ At w b #[.int .i64 0, .int .i64 0, .int .i64 0, .int .i64 0, .int .i64 0, .int .i64 0, .bool false, .bool false, .string ⟨#[]⟩, .string ⟨#[]⟩]
  | _ => v = vals i
theorem GD_later (vals : Nat → Value) (B : Nat) (i : Nat) (v : Value) (w w' : World) (h : GD vals B i v w) (hb : Below w.heap.size w w') : GD vals B i v w' := by
  unfold GD at *
  split at h
  · obtain ⟨b, hv, hlt, hc⟩ := h
    exact ⟨b, hv, hlt, hc.later hb⟩
  · exact h

set_option maxRecDepth 100000 in
set_option maxHeartbeats 8000000 in
theorem rdec_end {s : ByteArray} (h20 : 20 ≤ (s.size : Int)) (h4 : (byS s 0 / 16 != 4) = false) (hH : 20 ≤ dH s) (hL : dH s ≤ dL s) (hS : dL s ≤ (s.size : Int)) (hw : sumS (headS' s) = 0) (X1 X2 X3 X4 X5 X6 : Int) (X7 X8 : Bool) (X9 X10 : ByteArray) (V2 V3 V5 V8 : ByteArray) (FL : Int) (v : Value)
    (n0 : numS V8 = FL) (n1 : numS V2 = X1) (n2 : numS V3 = X2) (n5 : numS V5 = X5) (z2 : V2.size ≤ 6) (z3 : V3.size ≤ 6) (z5 : V5.size ≤ 6) (z8 : V8.size ≤ 6)
    (q2 : ∀ W, (Instr.slice 9 (.string s) (some (.int .i64 12)) (some (.int .i64 16)) none).run Tryz.prog W = .ok (.string V2) W)
    (q3 : ∀ W, (Instr.slice 9 (.string s) (some (.int .i64 16)) (some (.int .i64 20)) none).run Tryz.prog W = .ok (.string V3) W)
    (q5 : ∀ W, (Instr.slice 9 (.string s) (some (.int .i64 4)) (some (.int .i64 6)) none).run Tryz.prog W = .ok (.string V5) W)
    (x8 : s.extract 6 8 = V8)
    (q9 : ∀ W, (Instr.slice 9 (.string s) (some (.int .i64 20)) (some (.int .i64 (dH s))) none).run Tryz.prog W = .ok (.string X9) W)
    (q10 : ∀ W, (Instr.slice 9 (.string s) (some (.int .i64 (dH s))) (some (.int .i64 (dL s))) none).run Tryz.prog W = .ok (.string X10) W)
    (i8 : ∀ W, (Instr.index 9 (.string s) (.int .i64 8)).run Tryz.prog W = .ok (.int .u8 X3) W)
    (i9 : ∀ W, (Instr.index 9 (.string s) (.int .i64 9)).run Tryz.prog W = .ok (.int .u8 X4) W)
    (y3 : IntKind.i64.wrap X3 = X3) (y4 : IntKind.i64.wrap X4 = X4)
    (t1 : IntKind.i64.wrap (FL.tmod 8192) = X6) (t1' : FL.tmod 8192 = X6) (Q1 Q2 Q3 Q4 : Int) (t2 : IntKind.i64.wrap (FL.tdiv 8192) = Q1) (t3 : IntKind.i64.wrap (FL.tdiv 16384) = Q2) (t4 : Q1.tmod 2 = Q3) (t5 : Q2.tmod 2 = Q4) (t6 : (Q3 == 1) = X7) (t7 : (Q4 == 1) = X8)
    (ho : X9.size ≤ 1125899906842624) (hd : X10.size ≤ 1125899906842624)
    (hv : v = .tuple #[.agg #[.int .i64 0, .int .i64 0, .int .i64 0, .int .i64 0, .int .i64 0, .int .i64 0, .bool false, .bool false, .string ⟨#[]⟩, .string ⟨#[]⟩], .int .i64 50] ∧ (byS s 1 != 0) = true ∨ (byS s 1 != 0) = false ∧ (v = .tuple #[.agg #[.int .i64 0, .int .i64 0, .int .i64 0, .int .i64 0, .int .i64 0, .int .i64 0, .bool false, .bool false, .string ⟨#[]⟩, .string ⟨#[]⟩], .int .i64 50] ∧ 32768 ≤ FL ∨ FL < 32768 ∧ (v = .tuple #[.agg #[.int .i64 0, .int .i64 0, .int .i64 0, .int .i64 0, .int .i64 0, .int .i64 0, .bool false, .bool false, .string ⟨#[]⟩, .string ⟨#[]⟩], .int .i64 50] ∧ mayP X1 X2 X3 X4 X5 X6 X7 X9.size X10.size = false ∨ v = .tuple #[.agg #[.int .i64 X1, .int .i64 X2, .int .i64 X3, .int .i64 X4, .int .i64 X5, .int .i64 X6, .bool X7, .bool X8, .string X9, .string X10], .int .i64 0] ∧ mayP X1 X2 X3 X4 X5 X6 X7 X9.size X10.size = true))) (w : World) (hs : s.size ≤ 1125899906842624) :
    Calls Tryz.prog 31 #[.string s] w fun e w' => e = .returned v ∧ Below w.heap.size w w' := by
  have hs' : (s.size : Int) ≤ 1125899906842624 := by omega
  have hl := bel1 w (.cells #[.int .i64 0, .int .i64 0, .int .i64 0, .int .i64 0, .int .i64 0, .int .i64 0, .bool false, .bool false, .string ⟨#[]⟩, .string ⟨#[]⟩] 27)
  have hR := At.box w #[.int .i64 0, .int .i64 0, .int .i64 0, .int .i64 0, .int .i64 0, .int .i64 0, .bool false, .bool false, .string ⟨#[]⟩, .string ⟨#[]⟩] 27
  have e0 := byS_is s 0 (by omega)
  have e8 : (s[1].toNat : Int) = byS s 1 := byS_is s 1 (by omega)
  have g1 := byS_bd s 0
  have e2 : byS s 0 % 16 * 4 = dH s := rfl
  have e4 : numS (s.extract 2 4) = dL s := rfl
  have hz : (s.extract 2 4).size ≤ 6 := by rw [ByteArray.size_extract]; omega
  have g2 : 0 ≤ byS s 0 % 16 := by omega
  have g3 : byS s 0 % 16 ≤ 15 := by omega
  have x1 : s.extract 0 (dH s).toNat = headS' s := rfl
  have hHs : dH s ≤ (s.size : Int) := by omega
  have hH0 : 0 ≤ dH s := by omega
  have hL0 : 0 ≤ dL s := by omega
  have HVH : Hid (v = .tuple #[.agg #[.int .i64 0, .int .i64 0, .int .i64 0, .int .i64 0, .int .i64 0, .int .i64 0, .bool false, .bool false, .string ⟨#[]⟩, .string ⟨#[]⟩], .int .i64 50] ∧ (byS s 1 != 0) = true ∨ (byS s 1 != 0) = false ∧ (v = .tuple #[.agg #[.int .i64 0, .int .i64 0, .int .i64 0, .int .i64 0, .int .i64 0, .int .i64 0, .bool false, .bool false, .string ⟨#[]⟩, .string ⟨#[]⟩], .int .i64 50] ∧ 32768 ≤ FL ∨ FL < 32768 ∧ (v = .tuple #[.agg #[.int .i64 0, .int .i64 0, .int .i64 0, .int .i64 0, .int .i64 0, .int .i64 0, .bool false, .bool false, .string ⟨#[]⟩, .string ⟨#[]⟩], .int .i64 50] ∧ mayP X1 X2 X3 X4 X5 X6 X7 X9.size X10.size = false ∨ v = .tuple #[.agg #[.int .i64 X1, .int .i64 X2, .int .i64 X3, .int .i64 X4, .int .i64 X5, .int .i64 X6, .bool X7, .bool X8, .string X9, .string X10], .int .i64 0] ∧ mayP X1 X2 X3 X4 X5 X6 X7 X9.size X10.size = true))) := hv
  clear hv
  go_enter Tryz.func31, Tryz.ntmps31
  go_wp2_with fail
  refine (num_any _ _ hz).mono ?_
  rintro e w1 ⟨rfl, rfl⟩
  go_wp2_with fail
  refine (rwh_t hw _ (hd_size' s)).mono ?_
  rintro e w1 ⟨rfl, rfl⟩
  go_wp2_with fail
  refine (num_any _ _ z8).mono ?_
  rintro e w1 ⟨rfl, rfl⟩
  go_wp2
  refine wp_region_any (by kernel_rfl) ?_
  have HS0 : Below w.heap.size w (w.alloc (.cells #[.int .i64 0, .int .i64 0, .int .i64 0, .int .i64 0, .int .i64 0, .int .i64 0, .bool false, .bool false, .string ⟨#[]⟩, .string ⟨#[]⟩] 27)).drew ∧ At (w.alloc (.cells #[.int .i64 0, .int .i64 0, .int .i64 0, .int .i64 0, .int .i64 0, .int .i64 0, .bool false, .bool false, .string ⟨#[]⟩, .string ⟨#[]⟩] 27)).drew w.heap.size #[.int .i64 0, .int .i64 0, .int .i64 0, .int .i64 0, .int .i64 0, .int .i64 0, .bool false, .bool false, .string ⟨#[]⟩, .string ⟨#[]⟩] := ⟨hl.drew, hR⟩
  clear hl hR
  refine region_facts_last (fun W => Below w.heap.size w W ∧ At W w.heap.size #[.int .i64 0, .int .i64 0, .int .i64 0, .int .i64 0, .int .i64 0, .int .i64 0, .bool false, .bool false, .string ⟨#[]⟩, .string ⟨#[]⟩]) (GD (fun i => match i with | 0 => .string s | 1 => .string V2 | 2 => .int .i64 (X1) | 3 => .string s | 4 => .string V3 | 5 => .int .i64 (X2) | 6 => .string s | 7 => .int .u8 (X3) | 8 => .int .i64 (X3) | 9 => .string s | 10 => .int .u8 (X4) | 11 => .int .i64 (X4) | 12 => .string s | 13 => .string V5 | 14 => .int .i64 (X5) | 15 => .int .i64 (FL) | 16 => .int .i64 (X6) | 17 => .int .i64 (FL) | 18 => .int .i64 (Q1) | 19 => .int .i64 (Q3) | 20 => .bool X7 | 21 => .int .i64 (FL) | 22 => .int .i64 (Q2) | 23 => .int .i64 (Q4) | 24 => .bool X8 | 25 => .string s | 26 => .int .i64 (dH s) | 27 => .string X9 | 28 => .string s | 29 => .int .i64 (dH s) | 30 => .int .i64 (dL s) | 31 => .string X10 | 32 => .agg #[.int .i64 X1, .int .i64 X2, .int .i64 X3, .int .i64 X4, .int .i64 X5, .int .i64 X6, .bool X7, .bool X8, .string X9, .string X10] | _ => undef) (w.heap.size + 1)) (m := 34) (n := 102) (by kernel_rfl) (by kernel_rfl) rfl (by kernel_rfl) (GD_later _ _) ?_ ?_ HS0 (Nat.le_refl _)
  · clear HS0 HVH
    refine ⟨?_, ?_, ?_, ?_, ?_, ?_, ?_, ?_, ?_, ?_, ?_, ?_, ?_, ?_, ?_, ?_, ?_, ?_, ?_, ?_, ?_, ?_, ?_, ?_, ?_, ?_, ?_, ?_, ?_, ?_, ?_, ?_, ?_, ?_, trivial⟩
    · intro a w1 hS hT hB hD K hK
      have b0 : a.tmps.getD 0 undef = .string s := hB 0 (by kernel_rfl)
      rw [if_pos (by rfl)]
      clear hB hD hT
      go_simp
      exact hK _ _ hS (Below.refl _ _) rfl
    · intro a w1 hS hT hB hD K hK
      have d55 : a.tmps.getD 55 undef = .string s := hD ⟨0, .data⟩ (by simp) rfl _ 55 rfl rfl
      rw [if_pos (by rfl)]
      clear hB hD hT
      go_simp
      exact hK _ _ hS (Below.refl _ _) rfl
    · intro a w1 hS hT hB hD K hK
      have d56 : a.tmps.getD 56 undef = .string V2 := hD ⟨1, .data⟩ (by simp) rfl _ 56 rfl rfl
      rw [if_pos (by rfl)]
      clear hB hD hT
      go_simp
      refine (num_any _ _ (by assumption)).mono ?_
      rintro e w' ⟨rfl, rfl⟩
      exact hK _ _ hS (Below.refl _ _) (by show Value.int .i64 _ = Value.int .i64 _; congr)
    · intro a w1 hS hT hB hD K hK
      have b0 : a.tmps.getD 0 undef = .string s := hB 0 (by kernel_rfl)
      rw [if_pos (by rfl)]
      clear hB hD hT
      go_simp
      exact hK _ _ hS (Below.refl _ _) rfl
    · intro a w1 hS hT hB hD K hK
      have d58 : a.tmps.getD 58 undef = .string s := hD ⟨3, .data⟩ (by simp) rfl _ 58 rfl rfl
      rw [if_pos (by rfl)]
      clear hB hD hT
      go_simp
      exact hK _ _ hS (Below.refl _ _) rfl
    · intro a w1 hS hT hB hD K hK
      have d59 : a.tmps.getD 59 undef = .string V3 := hD ⟨4, .data⟩ (by simp) rfl _ 59 rfl rfl
      rw [if_pos (by rfl)]
      clear hB hD hT
      go_simp
      refine (num_any _ _ (by assumption)).mono ?_
      rintro e w' ⟨rfl, rfl⟩
      exact hK _ _ hS (Below.refl _ _) (by show Value.int .i64 _ = Value.int .i64 _; congr)
    · intro a w1 hS hT hB hD K hK
      have b0 : a.tmps.getD 0 undef = .string s := hB 0 (by kernel_rfl)
      rw [if_pos (by rfl)]
      clear hB hD hT
      go_simp
      exact hK _ _ hS (Below.refl _ _) rfl
    · intro a w1 hS hT hB hD K hK
      have d61 : a.tmps.getD 61 undef = .string s := hD ⟨6, .data⟩ (by simp) rfl _ 61 rfl rfl
      rw [if_pos (by rfl)]
      clear hB hD hT
      go_simp
      exact hK _ _ hS (Below.refl _ _) rfl
    · intro a w1 hS hT hB hD K hK
      have d62 : a.tmps.getD 62 undef = .int .u8 (X3) := hD ⟨7, .data⟩ (by simp) rfl _ 62 rfl rfl
      rw [if_pos (by rfl)]
      clear hB hD hT
      go_simp
      exact hK _ _ hS (Below.refl _ _) rfl
    · intro a w1 hS hT hB hD K hK
      have b0 : a.tmps.getD 0 undef = .string s := hB 0 (by kernel_rfl)
      rw [if_pos (by rfl)]
      clear hB hD hT
      go_simp
      exact hK _ _ hS (Below.refl _ _) rfl
    · intro a w1 hS hT hB hD K hK
      have d64 : a.tmps.getD 64 undef = .string s := hD ⟨9, .data⟩ (by simp) rfl _ 64 rfl rfl
      rw [if_pos (by rfl)]
      clear hB hD hT
      go_simp
      exact hK _ _ hS (Below.refl _ _) rfl
    · intro a w1 hS hT hB hD K hK
      have d65 : a.tmps.getD 65 undef = .int .u8 (X4) := hD ⟨10, .data⟩ (by simp) rfl _ 65 rfl rfl
      rw [if_pos (by rfl)]
      clear hB hD hT
      go_simp
      exact hK _ _ hS (Below.refl _ _) rfl
    · intro a w1 hS hT hB hD K hK
      have b0 : a.tmps.getD 0 undef = .string s := hB 0 (by kernel_rfl)
      rw [if_pos (by rfl)]
      clear hB hD hT
      go_simp
      exact hK _ _ hS (Below.refl _ _) rfl
    · intro a w1 hS hT hB hD K hK
      have d67 : a.tmps.getD 67 undef = .string s := hD ⟨12, .data⟩ (by simp) rfl _ 67 rfl rfl
      rw [if_pos (by rfl)]
      clear hB hD hT
      go_simp
      exact hK _ _ hS (Below.refl _ _) rfl
    · intro a w1 hS hT hB hD K hK
      have d68 : a.tmps.getD 68 undef = .string V5 := hD ⟨13, .data⟩ (by simp) rfl _ 68 rfl rfl
      rw [if_pos (by rfl)]
      clear hB hD hT
      go_simp
      refine (num_any _ _ (by assumption)).mono ?_
      rintro e w' ⟨rfl, rfl⟩
      exact hK _ _ hS (Below.refl _ _) (by show Value.int .i64 _ = Value.int .i64 _; congr)
    · intro a w1 hS hT hB hD K hK
      have b6 : a.tmps.getD 6 undef = .int .i64 (FL) := hB 6 (by kernel_rfl)
      rw [if_pos (by rfl)]
      clear hB hD hT
      go_simp
      exact hK _ _ hS (Below.refl _ _) rfl
    · intro a w1 hS hT hB hD K hK
      have d70 : a.tmps.getD 70 undef = .int .i64 (FL) := hD ⟨15, .data⟩ (by simp) rfl _ 70 rfl rfl
      rw [if_pos (by rfl)]
      clear hB hD hT
      go_simp
      exact hK _ _ hS (Below.refl _ _) rfl
    · intro a w1 hS hT hB hD K hK
      have b6 : a.tmps.getD 6 undef = .int .i64 (FL) := hB 6 (by kernel_rfl)
      rw [if_pos (by rfl)]
      clear hB hD hT
      go_simp
      exact hK _ _ hS (Below.refl _ _) rfl
    · intro a w1 hS hT hB hD K hK
      have d72 : a.tmps.getD 72 undef = .int .i64 (FL) := hD ⟨17, .data⟩ (by simp) rfl _ 72 rfl rfl
      rw [if_pos (by rfl)]
      clear hB hD hT
      go_simp
      exact hK _ _ hS (Below.refl _ _) rfl
    · intro a w1 hS hT hB hD K hK
      have d73 : a.tmps.getD 73 undef = .int .i64 (Q1) := hD ⟨18, .data⟩ (by simp) rfl _ 73 rfl rfl
      rw [if_pos (by rfl)]
      clear hB hD hT
      go_simp
      exact hK _ _ hS (Below.refl _ _) rfl
    · intro a w1 hS hT hB hD K hK
      have d74 : a.tmps.getD 74 undef = .int .i64 (Q3) := hD ⟨19, .data⟩ (by simp) rfl _ 74 rfl rfl
      rw [if_pos (by rfl)]
      clear hB hD hT
      go_simp
      exact hK _ _ hS (Below.refl _ _) rfl
    · intro a w1 hS hT hB hD K hK
      have b6 : a.tmps.getD 6 undef = .int .i64 (FL) := hB 6 (by kernel_rfl)
      rw [if_pos (by rfl)]
      clear hB hD hT
      go_simp
      exact hK _ _ hS (Below.refl _ _) rfl
    · intro a w1 hS hT hB hD K hK
      have d76 : a.tmps.getD 76 undef = .int .i64 (FL) := hD ⟨21, .data⟩ (by simp) rfl _ 76 rfl rfl
      rw [if_pos (by rfl)]
      clear hB hD hT
      go_simp
      exact hK _ _ hS (Below.refl _ _) rfl
    · intro a w1 hS hT hB hD K hK
      have d77 : a.tmps.getD 77 undef = .int .i64 (Q2) := hD ⟨22, .data⟩ (by simp) rfl _ 77 rfl rfl
      rw [if_pos (by rfl)]
      clear hB hD hT
      go_simp
      exact hK _ _ hS (Below.refl _ _) rfl
    · intro a w1 hS hT hB hD K hK
      have d78 : a.tmps.getD 78 undef = .int .i64 (Q4) := hD ⟨23, .data⟩ (by simp) rfl _ 78 rfl rfl
      rw [if_pos (by rfl)]
      clear hB hD hT
      go_simp
      exact hK _ _ hS (Below.refl _ _) rfl
    · intro a w1 hS hT hB hD K hK
      have b0 : a.tmps.getD 0 undef = .string s := hB 0 (by kernel_rfl)
      rw [if_pos (by rfl)]
      clear hB hD hT
      go_simp
      exact hK _ _ hS (Below.refl _ _) rfl
    · intro a w1 hS hT hB hD K hK
      have b4 : a.tmps.getD 4 undef = .int .i64 (dH s) := hB 4 (by kernel_rfl)
      rw [if_pos (by rfl)]
      clear hB hD hT
      go_simp
      exact hK _ _ hS (Below.refl _ _) rfl
    · intro a w1 hS hT hB hD K hK
      have d80 : a.tmps.getD 80 undef = .string s := hD ⟨25, .data⟩ (by simp) rfl _ 80 rfl rfl
      have d81 : a.tmps.getD 81 undef = .int .i64 (dH s) := hD ⟨26, .data⟩ (by simp) rfl _ 81 rfl rfl
      rw [if_pos (by rfl)]
      clear hB hD hT
      go_simp
      exact hK _ _ hS (Below.refl _ _) rfl
    · intro a w1 hS hT hB hD K hK
      have b0 : a.tmps.getD 0 undef = .string s := hB 0 (by kernel_rfl)
      rw [if_pos (by rfl)]
      clear hB hD hT
      go_simp
      exact hK _ _ hS (Below.refl _ _) rfl
    · intro a w1 hS hT hB hD K hK
      have b4 : a.tmps.getD 4 undef = .int .i64 (dH s) := hB 4 (by kernel_rfl)
      rw [if_pos (by rfl)]
      clear hB hD hT
      go_simp
      exact hK _ _ hS (Below.refl _ _) rfl
    · intro a w1 hS hT hB hD K hK
      have b5 : a.tmps.getD 5 undef = .int .i64 (dL s) := hB 5 (by kernel_rfl)
      rw [if_pos (by rfl)]
      clear hB hD hT
      go_simp
      exact hK _ _ hS (Below.refl _ _) rfl
    · intro a w1 hS hT hB hD K hK
      have d83 : a.tmps.getD 83 undef = .string s := hD ⟨28, .data⟩ (by simp) rfl _ 83 rfl rfl
      have d84 : a.tmps.getD 84 undef = .int .i64 (dH s) := hD ⟨29, .data⟩ (by simp) rfl _ 84 rfl rfl
      have d85 : a.tmps.getD 85 undef = .int .i64 (dL s) := hD ⟨30, .data⟩ (by simp) rfl _ 85 rfl rfl
      rw [if_pos (by rfl)]
      clear hB hD hT
      go_simp
      exact hK _ _ hS (Below.refl _ _) rfl
    · intro a w1 hS hT hB hD K hK
      have d57 : a.tmps.getD 57 undef = .int .i64 (X1) := hD ⟨2, .data⟩ (by simp) rfl _ 57 rfl rfl
      have d60 : a.tmps.getD 60 undef = .int .i64 (X2) := hD ⟨5, .data⟩ (by simp) rfl _ 60 rfl rfl
      have d63 : a.tmps.getD 63 undef = .int .i64 (X3) := hD ⟨8, .data⟩ (by simp) rfl _ 63 rfl rfl
      have d66 : a.tmps.getD 66 undef = .int .i64 (X4) := hD ⟨11, .data⟩ (by simp) rfl _ 66 rfl rfl
      have d69 : a.tmps.getD 69 undef = .int .i64 (X5) := hD ⟨14, .data⟩ (by simp) rfl _ 69 rfl rfl
      have d71 : a.tmps.getD 71 undef = .int .i64 (X6) := hD ⟨16, .data⟩ (by simp) rfl _ 71 rfl rfl
      have d75 : a.tmps.getD 75 undef = .bool X7 := hD ⟨20, .data⟩ (by simp) rfl _ 75 rfl rfl
      have d79 : a.tmps.getD 79 undef = .bool X8 := hD ⟨24, .data⟩ (by simp) rfl _ 79 rfl rfl
      have d82 : a.tmps.getD 82 undef = .string X9 := hD ⟨27, .data⟩ (by simp) rfl _ 82 rfl rfl
      have d86 : a.tmps.getD 86 undef = .string X10 := hD ⟨31, .data⟩ (by simp) rfl _ 86 rfl rfl
      clear hB hD
      obtain ⟨⟨l⟩, df⟩ := a
      match l, hT with
      | x0 :: x1 :: x2 :: x3 :: x4 :: x5 :: x6 :: x7 :: x8 :: x9 :: x10 :: x11 :: x12 :: x13 :: x14 :: x15 :: x16 :: x17 :: x18 :: x19 :: x20 :: x21 :: x22 :: x23 :: x24 :: x25 :: x26 :: x27 :: x28 :: x29 :: x30 :: x31 :: x32 :: x33 :: x34 :: x35 :: x36 :: x37 :: x38 :: x39 :: x40 :: x41 :: x42 :: x43 :: x44 :: x45 :: x46 :: x47 :: x48 :: x49 :: x50 :: x51 :: x52 :: x53 :: x54 :: x55 :: x56 :: x57 :: x58 :: x59 :: x60 :: x61 :: x62 :: x63 :: x64 :: x65 :: x66 :: x67 :: x68 :: x69 :: x70 :: x71 :: x72 :: x73 :: x74 :: x75 :: x76 :: x77 :: x78 :: x79 :: x80 :: x81 :: x82 :: x83 :: x84 :: x85 :: x86 :: x87 :: x88 :: x89 :: x90 :: x91 :: x92 :: x93 :: x94 :: x95 :: x96 :: x97 :: x98 :: x99 :: x100 :: x101 :: [], _ =>
        have q57 : x57 = .int .i64 (X1) := d57
        have q60 : x60 = .int .i64 (X2) := d60
        have q63 : x63 = .int .i64 (X3) := d63
        have q66 : x66 = .int .i64 (X4) := d66
        have q69 : x69 = .int .i64 (X5) := d69
        have q71 : x71 = .int .i64 (X6) := d71
        have q75 : x75 = .bool X7 := d75
        have q79 : x79 = .bool X8 := d79
        have q82 : x82 = .string X9 := d82
        have q86 : x86 = .string X10 := d86
        clear d57 d60 d63 d66 d69 d71 d75 d79 d82 d86
        subst q57 q60 q63 q66 q69 q71 q75 q79 q82 q86
        rw [if_pos (by rfl)]
        go_simp
        exact hK _ _ hS (Below.refl _ _) rfl
    · intro a w1 hS hT hB hD K hK
      rw [if_pos (by rfl)]
      clear hB hD hT
      go_simp
      exact hK _ _ ⟨bt hS.1 (bel1 _ _), hS.2.later (bel1 _ _)⟩ (bel1 _ _) ⟨_, rfl, hS.2.1, At.box w1 #[.int .i64 0, .int .i64 0, .int .i64 0, .int .i64 0, .int .i64 0, .int .i64 0, .bool false, .bool false, .string ⟨#[]⟩, .string ⟨#[]⟩] 27⟩
  · intro om hom a w1 hS hT hdf hB hF K hK
    obtain rfl := Option.some.inj hom
    clear HS0 hom
    obtain ⟨⟨l⟩, df⟩ := a
    match l, hT with
    | x0 :: x1 :: x2 :: x3 :: x4 :: x5 :: x6 :: x7 :: x8 :: x9 :: x10 :: x11 :: x12 :: x13 :: x14 :: x15 :: x16 :: x17 :: x18 :: x19 :: x20 :: x21 :: x22 :: x23 :: x24 :: x25 :: x26 :: x27 :: x28 :: x29 :: x30 :: x31 :: x32 :: x33 :: x34 :: x35 :: x36 :: x37 :: x38 :: x39 :: x40 :: x41 :: x42 :: x43 :: x44 :: x45 :: x46 :: x47 :: x48 :: x49 :: x50 :: x51 :: x52 :: x53 :: x54 :: x55 :: x56 :: x57 :: x58 :: x59 :: x60 :: x61 :: x62 :: x63 :: x64 :: x65 :: x66 :: x67 :: x68 :: x69 :: x70 :: x71 :: x72 :: x73 :: x74 :: x75 :: x76 :: x77 :: x78 :: x79 :: x80 :: x81 :: x82 :: x83 :: x84 :: x85 :: x86 :: x87 :: x88 :: x89 :: x90 :: x91 :: x92 :: x93 :: x94 :: x95 :: x96 :: x97 :: x98 :: x99 :: x100 :: x101 :: [], _ =>
      have s0 : x0 = .string s := hB 0 (by kernel_rfl)
      have s2 : x2 = .pointer (some ⟨w.heap.size, 0, none⟩) := hB 2 (by kernel_rfl)
      have s6 : x6 = .int .i64 FL := hB 6 (by kernel_rfl)
      have s87 : x87 = .agg #[.int .i64 X1, .int .i64 X2, .int .i64 X3, .int .i64 X4, .int .i64 X5, .int .i64 X6, .bool X7, .bool X8, .string X9, .string X10] := hF 32 _ 87 (by decide) rfl rfl
      obtain ⟨b, s7, hbb, hAb⟩ : ∃ b, x7 = .pointer (some ⟨b, 0, none⟩) ∧ w.heap.size + 1 ≤ b ∧ At w1 b #[.int .i64 0, .int .i64 0, .int .i64 0, .int .i64 0, .int .i64 0, .int .i64 0, .bool false, .bool false, .string ⟨#[]⟩, .string ⟨#[]⟩] := hF 33 _ 7 (by decide) rfl rfl
      have sd : df = [] := hdf
      subst s0 s2 s6 s87 s7 sd
      clear hB hF
      obtain ⟨⟨c0, c1, c2, c3, c4, c5, c6, c7, c8, c9⟩, ⟨f0, f1, f2, f3, f4, f5, f6, f7, f8, f9⟩, hltb⟩ := hAb.ten
      rw [if_pos (by rfl)]
      go_simp
      apply hK
      clear hK K
      have hA2 := hAb.stored (.int .i64 X1) (.int .i64 X2) (.int .i64 X3) (.int .i64 X4) (.int .i64 X5) (.int .i64 X6) (.bool X7) (.bool X8) (.string X9) (.string X10)
      have hne : b ≠ w.heap.size := by omega
      have hR2 := (((((((((hS.2.set_other hne 0 (.int .i64 X1)).set_other hne 1 (.int .i64 X2)).set_other hne 2 (.int .i64 X3)).set_other hne 3 (.int .i64 X4)).set_other hne 4 (.int .i64 X5)).set_other hne 5 (.int .i64 X6)).set_other hne 6 (.bool X7)).set_other hne 7 (.bool X8)).set_other hne 8 (.string X9)).set_other hne 9 (.string X10)
      have hl2 := below10 hS.1 (by omega : w.heap.size ≤ b) (.int .i64 X1) (.int .i64 X2) (.int .i64 X3) (.int .i64 X4) (.int .i64 X5) (.int .i64 X6) (.bool X7) (.bool X8) (.string X9) (.string X10)
      generalize (((((((((w1.setCell ⟨b, 0, none⟩ (.int .i64 X1)).setCell ⟨b, 1, none⟩ (.int .i64 X2)).setCell ⟨b, 2, none⟩ (.int .i64 X3)).setCell ⟨b, 3, none⟩ (.int .i64 X4)).setCell ⟨b, 4, none⟩ (.int .i64 X5)).setCell ⟨b, 5, none⟩ (.int .i64 X6)).setCell ⟨b, 6, none⟩ (.bool X7)).setCell ⟨b, 7, none⟩ (.bool X8)).setCell ⟨b, 8, none⟩ (.string X9)).setCell ⟨b, 9, none⟩ (.string X10) = w2 at *
      clear hS hAb c0 c1 c2 c3 c4 c5 c6 c7 c8 c9 f0 f1 f2 f3 f4 f5 f6 f7 f8 f9 hltb hbb hne q2 q3 q5 q9 q10 i8 i9 y3 y4 t1 t1' t2 t3 t4 t5 t6 t7 n0 n1 n2 n5 z2 z3 z5
      rcases HVH.out with ⟨rfl, h1⟩ | ⟨h1, ⟨rfl, h2⟩ | ⟨h2, ⟨rfl, h3⟩ | ⟨rfl, h3⟩⟩⟩
      · obtain ⟨⟨r0, r1, r2, r3, r4, r5, r6, r7, r8, r9⟩, ⟨f0, f1, f2, f3, f4, f5, f6, f7, f8, f9⟩, hlt⟩ := hR2.ten
        go_wp2
        exact bodyPost_ret (v := .tuple #[.agg #[.int .i64 0, .int .i64 0, .int .i64 0, .int .i64 0, .int .i64 0, .int .i64 0, .bool false, .bool false, .string ⟨#[]⟩, .string ⟨#[]⟩], .int .i64 50]) (by simp [results, Tryz.results31, go_sem, r0, r1, r2, r3, r4, r5, r6, r7, r8, r9]) rfl ⟨rfl, below10 hl2 (Nat.le_refl _) _ _ _ _ _ _ _ _ _ _⟩
      · obtain ⟨⟨r0, r1, r2, r3, r4, r5, r6, r7, r8, r9⟩, ⟨f0, f1, f2, f3, f4, f5, f6, f7, f8, f9⟩, hlt⟩ := hR2.ten
        go_wp2
        exact bodyPost_ret (v := .tuple #[.agg #[.int .i64 0, .int .i64 0, .int .i64 0, .int .i64 0, .int .i64 0, .int .i64 0, .bool false, .bool false, .string ⟨#[]⟩, .string ⟨#[]⟩], .int .i64 50]) (by simp [results, Tryz.results31, go_sem, r0, r1, r2, r3, r4, r5, r6, r7, r8, r9]) rfl ⟨rfl, below10 hl2 (Nat.le_refl _) _ _ _ _ _ _ _ _ _ _⟩
      · obtain ⟨⟨p0, p1, p2, p3, p4, p5, p6, p7, p8, p9⟩, -, -⟩ := hA2.ten
        go_wp2_with fail
        refine (rchk_f h3 _ ho hd).mono ?_
        rintro e w4 ⟨rfl, hb⟩
        obtain ⟨⟨r0, r1, r2, r3, r4, r5, r6, r7, r8, r9⟩, ⟨f0, f1, f2, f3, f4, f5, f6, f7, f8, f9⟩, hlt⟩ := (hR2.later hb).ten
        have hl3 := bt hl2 hb
        clear hb hR2 hA2 hl2 p0 p1 p2 p3 p4 p5 p6 p7 p8 p9
        go_wp2
        exact bodyPost_ret (v := .tuple #[.agg #[.int .i64 0, .int .i64 0, .int .i64 0, .int .i64 0, .int .i64 0, .int .i64 0, .bool false, .bool false, .string ⟨#[]⟩, .string ⟨#[]⟩], .int .i64 50]) (by simp [results, Tryz.results31, go_sem, r0, r1, r2, r3, r4, r5, r6, r7, r8, r9]) rfl ⟨rfl, below10 hl3 (Nat.le_refl _) _ _ _ _ _ _ _ _ _ _⟩
      · obtain ⟨⟨p0, p1, p2, p3, p4, p5, p6, p7, p8, p9⟩, -, -⟩ := hA2.ten
        go_wp2_with fail
        refine (rchk_t h3 _ ho hd).mono ?_
        rintro e w4 ⟨rfl, hb⟩
        obtain ⟨⟨r0, r1, r2, r3, r4, r5, r6, r7, r8, r9⟩, ⟨f0, f1, f2, f3, f4, f5, f6, f7, f8, f9⟩, hlt⟩ := (hR2.later hb).ten
        clear p0 p1 p2 p3 p4 p5 p6 p7 p8 p9
        obtain ⟨⟨p0, p1, p2, p3, p4, p5, p6, p7, p8, p9⟩, -, -⟩ := (hA2.later hb).ten
        have hl3 := bt hl2 hb
        clear hb hR2 hA2 hl2
        go_wp2
        exact bodyPost_ret (v := .tuple #[.agg #[.int .i64 X1, .int .i64 X2, .int .i64 X3, .int .i64 X4, .int .i64 X5, .int .i64 X6, .bool X7, .bool X8, .string X9, .string X10], .int .i64 0]) (by simp [results, Tryz.results31, go_sem, r0, r1, r2, r3, r4, r5, r6, r7, r8, r9]) rfl ⟨rfl, below10 hl3 (Nat.le_refl _) _ _ _ _ _ _ _ _ _ _⟩

theorem rdec_n1 {s : ByteArray} (h : ¬ (20 ≤ (s.size : Int) ∧ (byS s 0 / 16 != 4) = false ∧ 20 ≤ dH s ∧ dH s ≤ dL s ∧ dL s ≤ (s.size : Int))) (w : World) (hs : s.size ≤ 1125899906842624) :
    (Calls Tryz.prog 61 #[.string s] w fun e w' => e = .returned (.tuple #[.agg #[.int .i64 0, .int .i64 0, .int .i64 0, .int .i64 0, .int .i64 0, .int .i64 0, .bool false, .bool false, .string ⟨#[]⟩, .string ⟨#[]⟩], .int .i64 50]) ∧ Below w.heap.size w w') ∧ ∀ W, Calls Tryz.prog 31 #[.string s] W fun e w' => e = .returned (.tuple #[.agg #[.int .i64 0, .int .i64 0, .int .i64 0, .int .i64 0, .int .i64 0, .int .i64 0, .bool false, .bool false, .string ⟨#[]⟩, .string ⟨#[]⟩], .int .i64 50]) ∧ Below W.heap.size W w' := by
  by_cases h20 : 20 ≤ (s.size : Int)
  · cases h4 : (byS s 0 / 16 != 4)
    · by_cases hH : 20 ≤ dH s
      · by_cases hL : dH s ≤ dL s
        · by_cases hS : dL s ≤ (s.size : Int)
          · exact absurd ⟨h20, h4, hH, hL, hS⟩ h
          · refine ⟨dec_2 h20 h4 (.inr (.inr ⟨hH, hL, by omega⟩)) w hs, fun W => rdec_2 h20 h4 ?_ W hs⟩
            by_cases hq : (s.size : Int) < dH s
            · exact .inr (.inl ⟨hH, hq⟩)
            · exact .inr (.inr ⟨⟨hH, by omega⟩, .inr ⟨hL, by omega⟩⟩)
        · refine ⟨dec_2 h20 h4 (.inr (.inl ⟨hH, by omega⟩)) w hs, fun W => rdec_2 h20 h4 ?_ W hs⟩
          by_cases hq : (s.size : Int) < dH s
          · exact .inr (.inl ⟨hH, hq⟩)
          · exact .inr (.inr ⟨⟨hH, by omega⟩, .inl (by omega)⟩)
      · exact ⟨dec_2 h20 h4 (.inl (by omega)) w hs, fun W => rdec_2 h20 h4 (.inl (by omega)) W hs⟩
    · exact ⟨dec_1 (.inr ⟨h20, h4⟩) w hs, fun W => rdec_1 (.inr ⟨h20, h4⟩) W hs⟩
  · exact ⟨dec_1 (.inl (by omega)) w hs, fun W => rdec_1 (.inl (by omega)) W hs⟩
theorem rdec_last {s : ByteArray} (h20 : 20 ≤ (s.size : Int)) (h4 : (byS s 0 / 16 != 4) = false) (hH : 20 ≤ dH s) (hL : dH s ≤ dL s) (hS : dL s ≤ (s.size : Int)) (hw : sumS (headS' s) = 0) (v : Value)
    (hv : v = .tuple #[.agg #[.int .i64 0, .int .i64 0, .int .i64 0, .int .i64 0, .int .i64 0, .int .i64 0, .bool false, .bool false, .string ⟨#[]⟩, .string ⟨#[]⟩], .int .i64 50] ∧ (byS s 1 != 0) = true ∨ (byS s 1 != 0) = false ∧ (v = .tuple #[.agg #[.int .i64 0, .int .i64 0, .int .i64 0, .int .i64 0, .int .i64 0, .int .i64 0, .bool false, .bool false, .string ⟨#[]⟩, .string ⟨#[]⟩], .int .i64 50] ∧ 32768 ≤ dFl s ∨ dFl s < 32768 ∧ (v = .tuple #[.agg #[.int .i64 0, .int .i64 0, .int .i64 0, .int .i64 0, .int .i64 0, .int .i64 0, .bool false, .bool false, .string ⟨#[]⟩, .string ⟨#[]⟩], .int .i64 50] ∧ mayP (dF s) (dT s) (dTl s) (dPr s) (dId s) (dFr s) (dMo s) (dOp s).size (dDa s).size = false ∨ v = .tuple #[.agg #[.int .i64 (dF s), .int .i64 (dT s), .int .i64 (dTl s), .int .i64 (dPr s), .int .i64 (dId s), .int .i64 (dFr s), .bool (dMo s), .bool (dDn s), .string (dOp s), .string (dDa s)], .int .i64 0] ∧ mayP (dF s) (dT s) (dTl s) (dPr s) (dId s) (dFr s) (dMo s) (dOp s).size (dDa s).size = true)))
    (w : World) (hs : s.size ≤ 1125899906842624) :
    Calls Tryz.prog 31 #[.string s] w fun e w' => e = .returned v ∧ Below w.heap.size w w' := by
  have p0 := dFl_bd s
  have z1 := dOp_size hH hL hS
  have z2 := dDa_size hH hL hS
  have hbd := dH_bd s
  have hbl := dL_bd s
  have b8 := byS_bd s 8
  have b9 := byS_bd s 9
  have n8 : byS s 8 = dTl s := byS_num s 8 9 rfl (by omega)
  have n9 : byS s 9 = dPr s := byS_num s 9 10 rfl (by omega)
  rw [n8] at b8
  rw [n9] at b9
  refine rdec_end h20 h4 hH hL hS hw (dF s) (dT s) (dTl s) (dPr s) (dId s) (dFr s) (dMo s) (dDn s) (dOp s) (dDa s) (s.extract 12 16) (s.extract 16 20) (s.extract 4 6) (s.extract 6 8) (dFl s) v rfl rfl rfl rfl (by rw [ByteArray.size_extract]; omega) (by rw [ByteArray.size_extract]; omega) (by rw [ByteArray.size_extract]; omega) (by rw [ByteArray.size_extract]; omega)
    (run_sl s 12 16 _ rfl (by omega) (by omega)) (run_sl s 16 20 _ rfl (by omega) (by omega)) (run_sl s 4 6 _ rfl (by omega) (by omega)) rfl (run_slI s 20 (dH s) _ rfl (by omega) (by decide) (by omega)) (run_slI s (dH s) (dL s) _ rfl (by omega) (by omega) (by omega))
    (run_ix s 8 (dTl s) (by omega) n8) (run_ix s 9 (dPr s) (by omega) n9) (by rw [IntKind.wrap_i64]; omega) (by rw [IntKind.wrap_i64]; omega)
    (by rw [Int.tmod_eq_emod_of_nonneg p0.1, IntKind.wrap_i64]; unfold dFr; omega) (by rw [Int.tmod_eq_emod_of_nonneg p0.1]; rfl) (dFl s / 8192) (dFl s / 16384) (dFl s / 8192 % 2) (dFl s / 16384 % 2) (by rw [Int.tdiv_eq_ediv_of_nonneg p0.1, IntKind.wrap_i64]; omega) (by rw [Int.tdiv_eq_ediv_of_nonneg p0.1, IntKind.wrap_i64]; omega) (Int.tmod_eq_emod_of_nonneg (by omega)) (Int.tmod_eq_emod_of_nonneg (by omega)) rfl rfl (by omega) (by omega) hv w hs
end Go.Proofs.YtkpdmgoldngdaaaGreatDoor.Ip
