/- the texts Tg, in part, merged by program -/
import Derived.Test.YthjbmloemmggaaaGreatDoorRows
import Derived.Deep.MidRow
import Derived.Deep.Cut
import Derived.WalkKit
import Derived.WalkSpells
import Derived.RegionTactic
import Derived.Below
import Derived.Laws.Tables
import Derived.Great.BuildSlice
import Derived.Laws.OwnMore
import Derived.Laws.AppendOwn
import Derived.Laws.AppendOwnNone
import Derived.Deep.LoopGhost
import Derived.Lib.Repeat
import Derived.Deep.RegionHeld3
import Derived.Deep.QuietTactic
import Derived.BigQuiet
import Derived.WalkSmall
import Derived.Laws.StructEq
import Derived.BigRegion
import Derived.Deep.Light
import Derived.Deep.RegionWith
import Derived.LoopN
import Derived.Test.YthjbmloemmggaaaGreatDoorMA01
import Derived.Test.YthjbmloemmggaaaGreatDoorMA02
import Derived.Test.YthjbmloemmggaaaGreatDoorMA16
import Derived.Test.YthjbmloemmggaaaGreatDoorMA17
import Derived.Test.YthjbmloemmggaaaGreatDoorMA18
import Derived.Test.YthjbmloemmggaaaGreatDoorMA19
import Derived.Test.YthjbmloemmggaaaGreatDoorMA20
namespace Go.Proofs.YthjbmloemmggaaaGreatDoor
open Go.RowKit
set_option maxRecDepth 100000
set_option linter.unusedVariables false


theorem run12 (b : ByteArray) (h : 12 < b.size) : ∀ W, (Instr.index 9 (.string b) (.int .i64 12)).run Tryz.prog W = .ok (.int .u8 (by12 b : Int)) W := fun W => by
  have := run_index_string (P := Tryz.prog) W 9 b .i64 12 Tryz.underlying9
  rw [this, dif_pos ⟨by omega, by omega⟩, ← by12_at b h]
  rfl
theorem shapeB_t {b : ByteArray} (h : shapeB b = true) : 20 ≤ b.size ∧ b.size ≤ 1540 ∧ 20 ≤ hdN b ∧ hdN b ≤ b.size := of_decide_eq_true h
theorem hl_t (b : ByteArray) (w : World) (h : shapeB b = true) : Calls Tryz.prog 86 #[.string b] w fun e w' => e = .returned (.tuple #[.int .i64 (hdN b : Int), .bool true]) ∧ w' = w := by
  obtain ⟨h1, h2, h3, h4⟩ := shapeB_t h
  have r12 := run12 b (by omega)
  have hle := by12_le b
  have hh : (hdN b : Int) = (by12 b : Int) / 16 * 4 := by unfold hdN; omega
  have a1 : ¬ (b.size : Int) < 20 := by omega
  have a2 : ¬ 1540 < (b.size : Int) := by omega
  have a3 : 20 ≤ (by12 b : Int) / 16 * 4 := by omega
  have a4 : (by12 b : Int) / 16 * 4 ≤ (b.size : Int) := by omega
  have a5 : 0 ≤ (by12 b : Int) := by omega
  have a6 : (by12 b : Int) ≤ 255 := by omega
  rw [hh]
  clear hh h h1 h2 h3 h4 hle
  generalize (by12 b : Int) = BN at *
  have e1 : IntKind.i64.wrap (BN / 16) = BN / 16 := by rw [IntKind.wrap_i64]; omega
  have e2 : IntKind.i64.wrap (BN / 16 * 4) = BN / 16 * 4 := by rw [IntKind.wrap_i64]; omega
  go_enter Tryz.func86, Tryz.ntmps86
  go_wp2
  go_ret2
  exact ⟨by first | rfl | (simp; omega), rfl⟩
theorem hl_f (b : ByteArray) (w : World) (hb : b.size ≤ 140737488355328) (h : shapeB b = false) : Calls Tryz.prog 86 #[.string b] w fun e w' => (∃ n : Int, e = .returned (.tuple #[.int .i64 n, .bool false])) ∧ w' = w := by
  have h0 := of_decide_eq_false h
  have hle := by12_le b
  have hh : (hdN b : Int) = (by12 b : Int) / 16 * 4 := by unfold hdN; omega
  have b0 : (b.size : Int) ≤ 140737488355328 := by omega
  by_cases h1 : 20 ≤ b.size
  · by_cases h2 : b.size ≤ 1540
    · have r12 := run12 b (by omega)
      have a1 : ¬ (b.size : Int) < 20 := by omega
      have a2 : ¬ 1540 < (b.size : Int) := by omega
      have a5 : 0 ≤ (by12 b : Int) := by omega
      have a6 : (by12 b : Int) ≤ 255 := by omega
      by_cases h3 : 20 ≤ hdN b
      · have a3 : 20 ≤ (by12 b : Int) / 16 * 4 := by omega
        have a4 : ¬ (by12 b : Int) / 16 * 4 ≤ (b.size : Int) := by omega
        clear hh h h0 h1 h2 h3 hle
        generalize (by12 b : Int) = BN at *
        have e1 : IntKind.i64.wrap (BN / 16) = BN / 16 := by rw [IntKind.wrap_i64]; omega
        have e2 : IntKind.i64.wrap (BN / 16 * 4) = BN / 16 * 4 := by rw [IntKind.wrap_i64]; omega
        go_enter Tryz.func86, Tryz.ntmps86
        go_wp2
        go_ret2
        exact ⟨⟨_, by first | rfl | (simp; omega)⟩, rfl⟩
      · have a3 : ¬ 20 ≤ (by12 b : Int) / 16 * 4 := by omega
        clear hh h h0 h1 h2 h3 hle
        generalize (by12 b : Int) = BN at *
        have e1 : IntKind.i64.wrap (BN / 16) = BN / 16 := by rw [IntKind.wrap_i64]; omega
        have e2 : IntKind.i64.wrap (BN / 16 * 4) = BN / 16 * 4 := by rw [IntKind.wrap_i64]; omega
        go_enter Tryz.func86, Tryz.ntmps86
        go_wp2
        go_ret2
        exact ⟨⟨_, by first | rfl | (simp; omega)⟩, rfl⟩
    · have a1 : ¬ (b.size : Int) < 20 := by omega
      have a2 : 1540 < (b.size : Int) := by omega
      clear hh h h0 h1 h2 hle
      go_enter Tryz.func86, Tryz.ntmps86
      go_wp2
      go_ret2
      exact ⟨⟨_, rfl⟩, rfl⟩
  · have a1 : (b.size : Int) < 20 := by omega
    clear hh h h0 h1 hle
    go_enter Tryz.func86, Tryz.ntmps86
    go_wp2
    go_ret2
    exact ⟨⟨_, rfl⟩, rfl⟩
theorem getV_n (b : ByteArray) (i k : Int) (h1 : 1 ≤ k) (h2 : k ≤ 6) (h3 : 0 ≤ i) (h4 : i + k ≤ (b.size : Int)) : getV b i k = numS (b.extract i.toNat (i + k).toNat) := by
  unfold getV
  rw [getB_t ⟨h1, h2, h3, by omega⟩, if_pos rfl]
theorem ret_cell1 {fn : Func} {i : Nat} (hres : fn.results = #[.cell i 54]) {tmps : Array Value} {W : World} {b : Nat} {vs : Array Value} (hA : At W b vs) (hs : vs.size = 16) (hi : tmps.getD i undef = .pointer (some ⟨b, 0, none⟩)) : (results fn tmps).run Tryz.prog W = .ok (.agg vs) W := by
  have hl := run_loadVar_mid (P := Tryz.prog) W b 0 54 vs.toList _ hA.range Tryz.underlying54 rfl (by rw [show vs.toList.length = 16 by simpa using hs]; exact size54)
  rw [Array.getD_eq_getD_getElem?] at hi
  unfold results
  rw [hres]
  simp [hi, asAddr, hl]
theorem wp_build9 {P : Program} {Q : Exit → Act → World → Prop} {o : Oper} {a : Act} {w : World} {K : Act → World → Prop} (t : TypeId) (i0 i1 i2 i3 i4 i5 i6 i7 i8 : Operand) (x0 x1 x2 x3 x4 x5 x6 x7 x8 : Value) (cells : Array Value) (ho : o.op = .build t #[(0, i0), (1, i1), (2, i2), (3, i3), (4, i4), (5, i5), (6, i6), (7, i7), (8, i8)])
    (h0 : a.eval i0 = x0) (h1 : a.eval i1 = x1) (h2 : a.eval i2 = x2) (h3 : a.eval i3 = x3) (h4 : a.eval i4 = x4) (h5 : a.eval i5 = x5) (h6 : a.eval i6 = x6) (h7 : a.eval i7 = x7) (h8 : a.eval i8 = x8)
    (hrun : P.built t [(0, x0), (1, x1), (2, x2), (3, x3), (4, x4), (5, x5), (6, x6), (7, x7), (8, x8)] = some cells) (h : K (a.put o.dst (.agg cells)) w) : Oper.wp P o a w K Q := by
  have e : (#[(0, i0), (1, i1), (2, i2), (3, i3), (4, i4), (5, i5), (6, i6), (7, i7), (8, i8)].map fun (p : Nat × Operand) => (p.1, a.eval p.2)).toList = [(0, x0), (1, x1), (2, x2), (3, x3), (4, x4), (5, x5), (6, x6), (7, x7), (8, x8)] := by simp [h0, h1, h2, h3, h4, h5, h6, h7, h8]
  refine wp_build t _ ho ?_ ?_
  · show (P.built t (#[(0, i0), (1, i1), (2, i2), (3, i3), (4, i4), (5, i5), (6, i6), (7, i7), (8, i8)].map fun (p : Nat × Operand) => (p.1, a.eval p.2)).toList).isSome = true
    rw [e, hrun]; rfl
  · show K (a.put o.dst (.agg ((P.built t (#[(0, i0), (1, i1), (2, i2), (3, i3), (4, i4), (5, i5), (6, i6), (7, i7), (8, i8)].map fun (p : Nat × Operand) => (p.1, a.eval p.2)).toList).getD #[]))) w
    rw [e, hrun]; exact h
set_option maxHeartbeats 8000000 in
theorem read_k (b D : ByteArray) (h : Int) (o : Op) (v : Value) (hv1 : v.oneCell' = true) (g0 g1 g2 g3 g4 g5 g6 : Int) (w : World)
    (HG0 : Hid (∀ W, Calls Tryz.prog 106 #[.string b, .int .i64 0, .int .i64 2] W fun e w' => e = .returned (.int .i64 g0) ∧ Below W.heap.size W w'))
    (HG1 : Hid (∀ W, Calls Tryz.prog 106 #[.string b, .int .i64 2, .int .i64 2] W fun e w' => e = .returned (.int .i64 g1) ∧ Below W.heap.size W w'))
    (HG2 : Hid (∀ W, Calls Tryz.prog 106 #[.string b, .int .i64 4, .int .i64 4] W fun e w' => e = .returned (.int .i64 g2) ∧ Below W.heap.size W w'))
    (HG3 : Hid (∀ W, Calls Tryz.prog 106 #[.string b, .int .i64 8, .int .i64 4] W fun e w' => e = .returned (.int .i64 g3) ∧ Below W.heap.size W w'))
    (HG4 : Hid (∀ W, Calls Tryz.prog 106 #[.string b, .int .i64 13, .int .i64 1] W fun e w' => e = .returned (.int .i64 g4) ∧ Below W.heap.size W w'))
    (HG5 : Hid (∀ W, Calls Tryz.prog 106 #[.string b, .int .i64 14, .int .i64 2] W fun e w' => e = .returned (.int .i64 g5) ∧ Below W.heap.size W w'))
    (HG6 : Hid (∀ W, Calls Tryz.prog 106 #[.string b, .int .i64 18, .int .i64 2] W fun e w' => e = .returned (.int .i64 g6) ∧ Below W.heap.size W w'))
    (r1 : ∀ W, (Instr.slice 9 (.string b) (some (.int .i64 h)) none none).run Tryz.prog W = .ok (.string D) W) :
    Calls Tryz.prog 89 #[.string b, .int .i64 h, .agg #[.int .i64 o.m, .int .i64 o.c, .int .i64 o.t, .int .i64 o.ec, .bool o.sd, .bool o.ok, .bool o.sp, v]] w fun e w' => e = .returned (.agg #[.int .i64 g0, .int .i64 g1, .int .i64 g2, .int .i64 g3, .int .i64 g4, .int .i64 g5, .int .i64 g6, .int .i64 o.m, .int .i64 o.c, .int .i64 o.t, .int .i64 o.ec, .bool o.sd, .bool o.ok, .bool o.sp, v, .string D]) ∧ Below w.heap.size w w' := by
  have hb1 := bel1 w (.cells #[.int .i64 o.m, .int .i64 o.c, .int .i64 o.t, .int .i64 o.ec, .bool o.sd, .bool o.ok, .bool o.sp, v] 52)
  have hb2 := bel1 (w.alloc (.cells #[.int .i64 o.m, .int .i64 o.c, .int .i64 o.t, .int .i64 o.ec, .bool o.sd, .bool o.ok, .bool o.sp, v] 52)) (.cells #[.int .i64 0, .int .i64 0, .int .i64 0, .int .i64 0, .int .i64 0, .int .i64 0, .int .i64 0, .int .i64 0, .int .i64 0, .int .i64 0, .int .i64 0, .bool false, .bool false, .bool false, .slice none 0 0, .string ⟨#[]⟩] 54)
  have hA := (At.box w #[.int .i64 o.m, .int .i64 o.c, .int .i64 o.t, .int .i64 o.ec, .bool o.sd, .bool o.ok, .bool o.sp, v] 52).later hb2
  have hR := At.box2 w (.cells #[.int .i64 o.m, .int .i64 o.c, .int .i64 o.t, .int .i64 o.ec, .bool o.sd, .bool o.ok, .bool o.sp, v] 52) #[.int .i64 0, .int .i64 0, .int .i64 0, .int .i64 0, .int .i64 0, .int .i64 0, .int .i64 0, .int .i64 0, .int .i64 0, .int .i64 0, .int .i64 0, .bool false, .bool false, .bool false, .slice none 0 0, .string ⟨#[]⟩] 54
  have hl := bt hb1 hb2
  clear hb1 hb2
  go_enter Tryz.func89, Tryz.ntmps89
  go_upto_region 1 with fail
  generalize hw0 : (w.alloc (.cells #[.int .i64 o.m, .int .i64 o.c, .int .i64 o.t, .int .i64 o.ec, .bool o.sd, .bool o.ok, .bool o.sp, v] 52)).alloc (.cells #[.int .i64 0, .int .i64 0, .int .i64 0, .int .i64 0, .int .i64 0, .int .i64 0, .int .i64 0, .int .i64 0, .int .i64 0, .int .i64 0, .int .i64 0, .bool false, .bool false, .bool false, .slice none 0 0, .string ⟨#[]⟩] 54) = w0 at *
  clear hw0
  refine wp_region_any (by kernel_rfl) ?_
  refine region_facts_end (fun W => Below w.heap.size w W ∧ At W w.heap.size #[.int .i64 o.m, .int .i64 o.c, .int .i64 o.t, .int .i64 o.ec, .bool o.sd, .bool o.ok, .bool o.sp, v] ∧ At W (w.heap.size + 1) #[.int .i64 0, .int .i64 0, .int .i64 0, .int .i64 0, .int .i64 0, .int .i64 0, .int .i64 0, .int .i64 0, .int .i64 0, .int .i64 0, .int .i64 0, .bool false, .bool false, .bool false, .slice none 0 0, .string ⟨#[]⟩]) (GE (fun qq => match qq with | 0 => .string b | 1 => .int .i64 g0 | 2 => .string b | 3 => .int .i64 g1 | 4 => .string b | 5 => .int .i64 g2 | 6 => .string b | 7 => .int .i64 g3 | 8 => .string b | 9 => .int .i64 g4 | 10 => .string b | 11 => .int .i64 g5 | 12 => .string b | 13 => .int .i64 g6 | 14 => .agg #[.int .i64 o.m, .int .i64 o.c, .int .i64 o.t, .int .i64 o.ec, .bool o.sd, .bool o.ok, .bool o.sp, v] | 15 => .string b | 16 => .int .i64 h | 17 => .string D | 18 => .agg #[.int .i64 g0, .int .i64 g1, .int .i64 g2, .int .i64 g3, .int .i64 g4, .int .i64 g5, .int .i64 g6, .int .i64 o.m, .int .i64 o.c, .int .i64 o.t, .int .i64 o.ec, .bool o.sd, .bool o.ok, .bool o.sp, v, .string D] | _ => undef) (fun _ => none)) (n := 26) 19 8 (by kernel_rfl) (by kernel_rfl) rfl (by kernel_rfl) (GE_later _ _ (fun _ _ h => by cases h)) ?_ ?_ ⟨hl.drew, hA.later ((Below.refl _ _).drew), hR.later ((Below.refl _ _).drew)⟩ (Nat.le_refl _)
  · clear hl hA hR
    refine ⟨?_, ?_, ?_, ?_, ?_, ?_, ?_, ?_, ?_, ?_, ?_, ?_, ?_, ?_, ?_, ?_, ?_, ?_, ?_, trivial⟩
    · intro ac w1 hS hT hB hD K hK
      rw [if_pos (by rfl)]
      have d0 : ac.tmps.getD 0 undef = .string b := hB 0 (by kernel_rfl)
      clear hB hD hT
      go_simp
      exact hK _ _ hS (Below.refl _ _) rfl
    · intro ac w1 hS hT hB hD K hK
      rw [if_pos (by rfl)]
      have d7 : ac.tmps.getD 7 undef = .string b := hD ⟨0, .data⟩ (by simp) rfl _ 7 rfl rfl
      clear hB hD hT
      go_simp
      refine (HG0.out _).mono ?_
      rintro e w' ⟨rfl, hb⟩
      exact hK _ _ ⟨bt hS.1 hb, hS.2.1.later hb, hS.2.2.later hb⟩ hb rfl
    · intro ac w1 hS hT hB hD K hK
      rw [if_pos (by rfl)]
      have d0 : ac.tmps.getD 0 undef = .string b := hB 0 (by kernel_rfl)
      clear hB hD hT
      go_simp
      exact hK _ _ hS (Below.refl _ _) rfl
    · intro ac w1 hS hT hB hD K hK
      rw [if_pos (by rfl)]
      have d9 : ac.tmps.getD 9 undef = .string b := hD ⟨2, .data⟩ (by simp) rfl _ 9 rfl rfl
      clear hB hD hT
      go_simp
      refine (HG1.out _).mono ?_
      rintro e w' ⟨rfl, hb⟩
      exact hK _ _ ⟨bt hS.1 hb, hS.2.1.later hb, hS.2.2.later hb⟩ hb rfl
    · intro ac w1 hS hT hB hD K hK
      rw [if_pos (by rfl)]
      have d0 : ac.tmps.getD 0 undef = .string b := hB 0 (by kernel_rfl)
      clear hB hD hT
      go_simp
      exact hK _ _ hS (Below.refl _ _) rfl
    · intro ac w1 hS hT hB hD K hK
      rw [if_pos (by rfl)]
      have d11 : ac.tmps.getD 11 undef = .string b := hD ⟨4, .data⟩ (by simp) rfl _ 11 rfl rfl
      clear hB hD hT
      go_simp
      refine (HG2.out _).mono ?_
      rintro e w' ⟨rfl, hb⟩
      exact hK _ _ ⟨bt hS.1 hb, hS.2.1.later hb, hS.2.2.later hb⟩ hb rfl
    · intro ac w1 hS hT hB hD K hK
      rw [if_pos (by rfl)]
      have d0 : ac.tmps.getD 0 undef = .string b := hB 0 (by kernel_rfl)
      clear hB hD hT
      go_simp
      exact hK _ _ hS (Below.refl _ _) rfl
    · intro ac w1 hS hT hB hD K hK
      rw [if_pos (by rfl)]
      have d13 : ac.tmps.getD 13 undef = .string b := hD ⟨6, .data⟩ (by simp) rfl _ 13 rfl rfl
      clear hB hD hT
      go_simp
      refine (HG3.out _).mono ?_
      rintro e w' ⟨rfl, hb⟩
      exact hK _ _ ⟨bt hS.1 hb, hS.2.1.later hb, hS.2.2.later hb⟩ hb rfl
    · intro ac w1 hS hT hB hD K hK
      rw [if_pos (by rfl)]
      have d0 : ac.tmps.getD 0 undef = .string b := hB 0 (by kernel_rfl)
      clear hB hD hT
      go_simp
      exact hK _ _ hS (Below.refl _ _) rfl
    · intro ac w1 hS hT hB hD K hK
      rw [if_pos (by rfl)]
      have d15 : ac.tmps.getD 15 undef = .string b := hD ⟨8, .data⟩ (by simp) rfl _ 15 rfl rfl
      clear hB hD hT
      go_simp
      refine (HG4.out _).mono ?_
      rintro e w' ⟨rfl, hb⟩
      exact hK _ _ ⟨bt hS.1 hb, hS.2.1.later hb, hS.2.2.later hb⟩ hb rfl
    · intro ac w1 hS hT hB hD K hK
      rw [if_pos (by rfl)]
      have d0 : ac.tmps.getD 0 undef = .string b := hB 0 (by kernel_rfl)
      clear hB hD hT
      go_simp
      exact hK _ _ hS (Below.refl _ _) rfl
    · intro ac w1 hS hT hB hD K hK
      rw [if_pos (by rfl)]
      have d17 : ac.tmps.getD 17 undef = .string b := hD ⟨10, .data⟩ (by simp) rfl _ 17 rfl rfl
      clear hB hD hT
      go_simp
      refine (HG5.out _).mono ?_
      rintro e w' ⟨rfl, hb⟩
      exact hK _ _ ⟨bt hS.1 hb, hS.2.1.later hb, hS.2.2.later hb⟩ hb rfl
    · intro ac w1 hS hT hB hD K hK
      rw [if_pos (by rfl)]
      have d0 : ac.tmps.getD 0 undef = .string b := hB 0 (by kernel_rfl)
      clear hB hD hT
      go_simp
      exact hK _ _ hS (Below.refl _ _) rfl
    · intro ac w1 hS hT hB hD K hK
      rw [if_pos (by rfl)]
      have d19 : ac.tmps.getD 19 undef = .string b := hD ⟨12, .data⟩ (by simp) rfl _ 19 rfl rfl
      clear hB hD hT
      go_simp
      refine (HG6.out _).mono ?_
      rintro e w' ⟨rfl, hb⟩
      exact hK _ _ ⟨bt hS.1 hb, hS.2.1.later hb, hS.2.2.later hb⟩ hb rfl
    · intro ac w1 hS hT hB hD K hK
      rw [if_pos (by rfl)]
      have d5 : ac.tmps.getD 5 undef = .pointer (some ⟨w.heap.size, 0, none⟩) := hB 5 (by kernel_rfl)
      clear hB hD hT
      exact wp_load_mid 52 (.tmp 5) rfl (w.heap.size) 0 d5 _ _ hS.2.1.range Tryz.underlying52 rfl size52 (hK _ _ hS (Below.refl _ _) rfl)
    · intro ac w1 hS hT hB hD K hK
      rw [if_pos (by rfl)]
      have d0 : ac.tmps.getD 0 undef = .string b := hB 0 (by kernel_rfl)
      clear hB hD hT
      go_simp
      exact hK _ _ hS (Below.refl _ _) rfl
    · intro ac w1 hS hT hB hD K hK
      rw [if_pos (by rfl)]
      have d1 : ac.tmps.getD 1 undef = .int .i64 h := hB 1 (by kernel_rfl)
      clear hB hD hT
      go_simp
      exact hK _ _ hS (Below.refl _ _) rfl
    · intro ac w1 hS hT hB hD K hK
      rw [if_pos (by rfl)]
      have d22 : ac.tmps.getD 22 undef = .string b := hD ⟨15, .data⟩ (by simp) rfl _ 22 rfl rfl
      have d23 : ac.tmps.getD 23 undef = .int .i64 h := hD ⟨16, .data⟩ (by simp) rfl _ 23 rfl rfl
      clear hB hD hT
      go_simp
      exact hK _ _ hS (Below.refl _ _) rfl
    · intro ac w1 hS hT hB hD K hK
      rw [if_pos (by rfl)]
      have d8 : ac.tmps.getD 8 undef = .int .i64 g0 := hD ⟨1, .data⟩ (by simp) rfl _ 8 rfl rfl
      have d10 : ac.tmps.getD 10 undef = .int .i64 g1 := hD ⟨3, .data⟩ (by simp) rfl _ 10 rfl rfl
      have d12 : ac.tmps.getD 12 undef = .int .i64 g2 := hD ⟨5, .data⟩ (by simp) rfl _ 12 rfl rfl
      have d14 : ac.tmps.getD 14 undef = .int .i64 g3 := hD ⟨7, .data⟩ (by simp) rfl _ 14 rfl rfl
      have d16 : ac.tmps.getD 16 undef = .int .i64 g4 := hD ⟨9, .data⟩ (by simp) rfl _ 16 rfl rfl
      have d18 : ac.tmps.getD 18 undef = .int .i64 g5 := hD ⟨11, .data⟩ (by simp) rfl _ 18 rfl rfl
      have d20 : ac.tmps.getD 20 undef = .int .i64 g6 := hD ⟨13, .data⟩ (by simp) rfl _ 20 rfl rfl
      have d21 : ac.tmps.getD 21 undef = .agg #[.int .i64 o.m, .int .i64 o.c, .int .i64 o.t, .int .i64 o.ec, .bool o.sd, .bool o.ok, .bool o.sp, v] := hD ⟨14, .data⟩ (by simp) rfl _ 21 rfl rfl
      have d24 : ac.tmps.getD 24 undef = .string D := hD ⟨17, .data⟩ (by simp) rfl _ 24 rfl rfl
      clear hB hD hT
      exact wp_build9 54 (.tmp 8) (.tmp 10) (.tmp 12) (.tmp 14) (.tmp 16) (.tmp 18) (.tmp 20) (.tmp 21) (.tmp 24) _ _ _ _ _ _ _ _ _ _ rfl d8 d10 d12 d14 d16 d18 d20 d21 d24 (by kernel_rfl) (hK _ _ hS (Below.refl _ _) rfl)
  · intro ac w9 hS hT hdf hB hF
    clear hl hA hR HG0 HG1 HG2 HG3 HG4 HG5 HG6
    obtain ⟨⟨l⟩, df⟩ := ac
    match l, hT with
    | x0 :: x1 :: x2 :: x3 :: x4 :: x5 :: x6 :: x7 :: x8 :: x9 :: x10 :: x11 :: x12 :: x13 :: x14 :: x15 :: x16 :: x17 :: x18 :: x19 :: x20 :: x21 :: x22 :: x23 :: x24 :: x25 :: [], _ =>
      have s6 : x6 = .pointer (some ⟨w.heap.size + 1, 0, none⟩) := hB 6 (by kernel_rfl)
      have s25 : x25 = .agg #[.int .i64 g0, .int .i64 g1, .int .i64 g2, .int .i64 g3, .int .i64 g4, .int .i64 g5, .int .i64 g6, .int .i64 o.m, .int .i64 o.c, .int .i64 o.t, .int .i64 o.ec, .bool o.sd, .bool o.ok, .bool o.sp, v, .string D] := hF 18 _ 25 (by decide) rfl rfl
      have sd : df = [] := hdf
      subst s6 s25 sd
      clear hB hF
      have hl := hS.1
      have hR := hS.2.2
      clear hS
      intro Kc hKc
      rw [if_pos (by rfl)]
      refine wp_store_mid 54 (.tmp 6) (.tmp 25) (by rfl) (w.heap.size + 1) 0 #[.int .i64 g0, .int .i64 g1, .int .i64 g2, .int .i64 g3, .int .i64 g4, .int .i64 g5, .int .i64 g6, .int .i64 o.m, .int .i64 o.c, .int .i64 o.t, .int .i64 o.ec, .bool o.sd, .bool o.ok, .bool o.sp, v, .string D] (by rfl) (by rfl) hR.there size54 (all_oneCell_toArray (cs := [.int .i64 g0, .int .i64 g1, .int .i64 g2, .int .i64 g3, .int .i64 g4, .int .i64 g5, .int .i64 g6, .int .i64 o.m, .int .i64 o.c, .int .i64 o.t, .int .i64 o.ec, .bool o.sd, .bool o.ok, .bool o.sp, v, .string D]) (by simp only [List.mem_cons, List.not_mem_nil, or_false, forall_eq_or_imp, forall_eq]; exact ⟨rfl, rfl, rfl, rfl, rfl, rfl, rfl, rfl, rfl, rfl, rfl, rfl, rfl, rfl, hv1, rfl⟩)) ?_
      apply hKc
      clear hKc Kc
      refine TailOk_nil ?_
      go_wp2
      exact bodyPost_ret (v := .agg #[.int .i64 g0, .int .i64 g1, .int .i64 g2, .int .i64 g3, .int .i64 g4, .int .i64 g5, .int .i64 g6, .int .i64 o.m, .int .i64 o.c, .int .i64 o.t, .int .i64 o.ec, .bool o.sd, .bool o.ok, .bool o.sp, v, .string D]) (ret_cell1 (by rfl) (At.whole (vs := #[.int .i64 g0, .int .i64 g1, .int .i64 g2, .int .i64 g3, .int .i64 g4, .int .i64 g5, .int .i64 g6, .int .i64 o.m, .int .i64 o.c, .int .i64 o.t, .int .i64 o.ec, .bool o.sd, .bool o.ok, .bool o.sp, v, .string D]) hR rfl) rfl (by rfl)) (by rfl) ⟨rfl, Below.setCells (by omega) _ _ _ hl⟩
theorem Rgs.one {W : World} {v : Value} {rs : List (Int × Int)} (h : Rgs W v rs) : v.oneCell' = true := by
  obtain ⟨a, cap, rfl, -⟩ := h
  rfl
theorem read_s (b : ByteArray) (o : Op) (v : Value) (w : World) (hv : Rgs w v o.rs) (h : shapeB b = true) :
    Calls Tryz.prog 89 #[.string b, .int .i64 (hdN b : Int), .agg #[.int .i64 o.m, .int .i64 o.c, .int .i64 o.t, .int .i64 o.ec, .bool o.sd, .bool o.ok, .bool o.sp, v]] w fun e w' => e = .returned (.agg #[.int .i64 (gotS b o).fr, .int .i64 (gotS b o).dt, .int .i64 (gotS b o).sq, .int .i64 (gotS b o).ak, .int .i64 (gotS b o).fl, .int .i64 (gotS b o).wi, .int .i64 (gotS b o).ur, .int .i64 (gotS b o).o.m, .int .i64 (gotS b o).o.c, .int .i64 (gotS b o).o.t, .int .i64 (gotS b o).o.ec, .bool (gotS b o).o.sd, .bool (gotS b o).o.ok, .bool (gotS b o).o.sp, v, .string (gotS b o).da]) ∧ Below w.heap.size w w' := by
  obtain ⟨h1, h2, h3, h4⟩ := shapeB_t h
  have hg : ∀ (i k : Int) (g : Int), 1 ≤ k → k ≤ 6 → 0 ≤ i → i + k ≤ 20 → numS (b.extract i.toNat (i + k).toNat) = g → ∀ W, Calls Tryz.prog 106 #[.string b, .int .i64 i, .int .i64 k] W fun e w' => e = .returned (.int .i64 g) ∧ Below W.heap.size W w' := fun i k g k1 k2 k3 k4 k5 W => by
    have := get_s b i k W (by unfold maxLen; omega)
    rw [getV_n b i k k1 k2 k3 (by omega), k5] at this
    exact this
  exact read_k b (b.extract (hdN b) b.size) (hdN b : Int) o v hv.one (numS (b.extract 0 2)) (numS (b.extract 2 4)) (numS (b.extract 4 8)) (numS (b.extract 8 12)) (numS (b.extract 13 14)) (numS (b.extract 14 16)) (numS (b.extract 18 20)) w
    (hg 0 2 _ (by decide) (by decide) (by decide) (by decide) rfl) (hg 2 2 _ (by decide) (by decide) (by decide) (by decide) rfl) (hg 4 4 _ (by decide) (by decide) (by decide) (by decide) rfl) (hg 8 4 _ (by decide) (by decide) (by decide) (by decide) rfl) (hg 13 1 _ (by decide) (by decide) (by decide) (by decide) rfl) (hg 14 2 _ (by decide) (by decide) (by decide) (by decide) rfl) (hg 18 2 _ (by decide) (by decide) (by decide) (by decide) rfl)
    (fun W => by
      rw [run_slice_string_from_if W 9 b .i64 (hdN b : Int) Tryz.underlying9, if_pos (by omega)]
      rfl)
def RgA (base : Nat) (W : World) (v : Value) (rs : List (Int × Int)) : Prop :=
  ∃ (a : Option Addr) (cap : Nat), v = .slice a rs.length cap ∧ (rs.length ≤ cap ∧ (a = none → cap = 0)) ∧ (rs = [] ∨ ∃ b off, base ≤ b ∧ a = some ⟨b, off, none⟩ ∧ ∀ j r, rs[j]? = some r → W.cell? ⟨b, off + j * 2, none⟩ = some (.int .i64 r.1) ∧ W.cell? ⟨b, off + j * 2 + 1, none⟩ = some (.int .i64 r.2))
theorem RgA.rgs {base : Nat} {W : World} {v : Value} {rs : List (Int × Int)} (h : RgA base W v rs) : Rgs W v rs := by
  obtain ⟨a, cap, hv, hc, h⟩ := h
  refine ⟨a, cap, hv, hc, ?_⟩
  rcases h with h | ⟨b, off, -, ha, hx⟩
  · exact .inl h
  · exact .inr ⟨b, off, ha, hx⟩
theorem RgA.later {base : Nat} {w x : World} {v : Value} {rs : List (Int × Int)} (h : RgA base w v rs) (hb : Below w.heap.size w x) : RgA base x v rs := by
  obtain ⟨a, cap, hv, hc, h⟩ := h
  refine ⟨a, cap, hv, hc, ?_⟩
  rcases h with h | ⟨b, off, hbb, ha, hx⟩
  · exact .inl h
  · exact .inr ⟨b, off, hbb, ha, fun j r hr => ⟨YthjbmloemmggaaaGreatDoor.later hb (hx j r hr).1, YthjbmloemmggaaaGreatDoor.later hb (hx j r hr).2⟩⟩
theorem RgA.of_own {w : World} {base : Nat} {v : Value} {rs : List (Int × Int)} (h : w.ownsRow base 180 2 v rs.length (flatR rs)) : RgA base w v rs := by
  rcases h.2 with ⟨rfl, h0⟩ | ⟨g, cap, cur, rfl, hg, -, hn, -⟩
  · rw [List.eq_nil_of_length_eq_zero h0]; exact ⟨none, 0, rfl, ⟨Nat.le_refl _, fun _ => rfl⟩, .inl rfl⟩
  · refine ⟨some ⟨g, 0, none⟩, cap, rfl, ⟨hn, fun h => by cases h⟩, .inr ⟨g, 0, hg, rfl, fun j r hr => ?_⟩⟩
    have hj := (List.getElem?_eq_some_iff.1 hr).1
    obtain ⟨r1, r2⟩ := flatR_at rs j r hr
    rw [Nat.zero_add]
    exact ⟨(h.cellAt (j * 2) (by omega)).trans r1, (h.cellAt (j * 2 + 1) (by omega)).trans r2⟩

theorem RgA.setCells {base : Nat} {w : World} {v : Value} {rs : List (Int × Int)} (h : RgA base w v rs) (c i : Nat) (us : List Value) (hc : c < base) : RgA base (w.setCells c i us) v rs := by
  obtain ⟨a, cap, hv, hcc, h⟩ := h
  refine ⟨a, cap, hv, hcc, ?_⟩
  rcases h with h | ⟨b, off, hbb, ha, hx⟩
  · exact .inl h
  · exact .inr ⟨b, off, hbb, ha, fun j r hr => ⟨(World.cell?_setCells_out c us i w ⟨b, off + j * 2, none⟩ (fun e _ => absurd e (by show ¬ b = c; omega))).trans (hx j r hr).1, (World.cell?_setCells_out c us i w ⟨b, off + j * 2 + 1, none⟩ (fun e _ => absurd e (by show ¬ b = c; omega))).trans (hx j r hr).2⟩⟩
theorem RgA.mono {base base' : Nat} {w : World} {v : Value} {rs : List (Int × Int)} (h : RgA base w v rs) (hb : base' ≤ base) : RgA base' w v rs := by
  obtain ⟨a, cap, hv, hcc, h⟩ := h
  refine ⟨a, cap, hv, hcc, ?_⟩
  rcases h with h | ⟨b, off, hbb, ha, hx⟩
  · exact .inl h
  · exact .inr ⟨b, off, by omega, ha, hx⟩
set_option maxHeartbeats 4000000 in
theorem decs_1 (f t : Int) (b : ByteArray) (w : World)
    (HAD : Hid (∀ W, Calls Tryz.prog 85 #[.int .i64 f, .int .i64 t] W fun e w' => e = .returned (.bool false) ∧ w' = W)) :
    Calls Tryz.prog 68 #[.int .i64 f, .int .i64 t, .string b] w fun e w' => e = .returned (.tuple #[.agg #[.int .i64 0, .int .i64 0, .int .i64 0, .int .i64 0, .int .i64 0, .int .i64 0, .int .i64 0, .int .i64 0, .int .i64 0, .int .i64 0, .int .i64 0, .bool false, .bool false, .bool false, .slice none 0 0, .string ⟨#[]⟩], .int .i64 1]) ∧ Below w.heap.size w w' := by
  have hR := At.box w #[.int .i64 0, .int .i64 0, .int .i64 0, .int .i64 0, .int .i64 0, .int .i64 0, .int .i64 0, .int .i64 0, .int .i64 0, .int .i64 0, .int .i64 0, .bool false, .bool false, .bool false, .slice none 0 0, .string ⟨#[]⟩] 54
  have hl := bel1 w (.cells #[.int .i64 0, .int .i64 0, .int .i64 0, .int .i64 0, .int .i64 0, .int .i64 0, .int .i64 0, .int .i64 0, .int .i64 0, .int .i64 0, .int .i64 0, .bool false, .bool false, .bool false, .slice none 0 0, .string ⟨#[]⟩] 54)
  have hz : ∀ W, (Instr.build 54 #[]).run Tryz.prog W = .ok (.agg #[.int .i64 0, .int .i64 0, .int .i64 0, .int .i64 0, .int .i64 0, .int .i64 0, .int .i64 0, .int .i64 0, .int .i64 0, .int .i64 0, .int .i64 0, .bool false, .bool false, .bool false, .slice none 0 0, .string ⟨#[]⟩]) W := fun W => run_build W 54 #[] _ (by kernel_rfl)
  go_enter Tryz.func68, Tryz.ntmps68
  go_wp2_with fail
  refine (HAD.out _).mono ?_
  rintro e w1 ⟨rfl, rfl⟩
  clear HAD
  go_wp2_with (refine wpList_store_mid (by rfl) 54 _ _ (by rfl) (w.heap.size) 0 #[.int .i64 0, .int .i64 0, .int .i64 0, .int .i64 0, .int .i64 0, .int .i64 0, .int .i64 0, .int .i64 0, .int .i64 0, .int .i64 0, .int .i64 0, .bool false, .bool false, .bool false, .slice none 0 0, .string ⟨#[]⟩] (by rfl) (by rfl) hR.there size54 (by simp [Value.oneCell']) ?_)
  go_wp2
  exact bodyPost_ret (v := .tuple #[.agg #[.int .i64 0, .int .i64 0, .int .i64 0, .int .i64 0, .int .i64 0, .int .i64 0, .int .i64 0, .int .i64 0, .int .i64 0, .int .i64 0, .int .i64 0, .bool false, .bool false, .bool false, .slice none 0 0, .string ⟨#[]⟩], .int .i64 1]) (ret_cell (by rfl) (At.whole (vs := #[.int .i64 0, .int .i64 0, .int .i64 0, .int .i64 0, .int .i64 0, .int .i64 0, .int .i64 0, .int .i64 0, .int .i64 0, .int .i64 0, .int .i64 0, .bool false, .bool false, .bool false, .slice none 0 0, .string ⟨#[]⟩]) hR rfl) rfl (by rfl) (by rfl)) (by rfl) ⟨rfl, Below.setCells (Nat.le_refl _) _ _ _ hl⟩
set_option maxHeartbeats 4000000 in
theorem decs_2 (f t : Int) (b : ByteArray) (w : World)
    (HAD : Hid (∀ W, Calls Tryz.prog 85 #[.int .i64 f, .int .i64 t] W fun e w' => e = .returned (.bool true) ∧ w' = W))
    (HHL : Hid (∀ W, Calls Tryz.prog 86 #[.string b] W fun e w' => (∃ n : Int, e = .returned (.tuple #[.int .i64 n, .bool false])) ∧ w' = W)) :
    Calls Tryz.prog 68 #[.int .i64 f, .int .i64 t, .string b] w fun e w' => e = .returned (.tuple #[.agg #[.int .i64 0, .int .i64 0, .int .i64 0, .int .i64 0, .int .i64 0, .int .i64 0, .int .i64 0, .int .i64 0, .int .i64 0, .int .i64 0, .int .i64 0, .bool false, .bool false, .bool false, .slice none 0 0, .string ⟨#[]⟩], .int .i64 80]) ∧ Below w.heap.size w w' := by
  have hR := At.box w #[.int .i64 0, .int .i64 0, .int .i64 0, .int .i64 0, .int .i64 0, .int .i64 0, .int .i64 0, .int .i64 0, .int .i64 0, .int .i64 0, .int .i64 0, .bool false, .bool false, .bool false, .slice none 0 0, .string ⟨#[]⟩] 54
  have hl := bel1 w (.cells #[.int .i64 0, .int .i64 0, .int .i64 0, .int .i64 0, .int .i64 0, .int .i64 0, .int .i64 0, .int .i64 0, .int .i64 0, .int .i64 0, .int .i64 0, .bool false, .bool false, .bool false, .slice none 0 0, .string ⟨#[]⟩] 54)
  have hz : ∀ W, (Instr.build 54 #[]).run Tryz.prog W = .ok (.agg #[.int .i64 0, .int .i64 0, .int .i64 0, .int .i64 0, .int .i64 0, .int .i64 0, .int .i64 0, .int .i64 0, .int .i64 0, .int .i64 0, .int .i64 0, .bool false, .bool false, .bool false, .slice none 0 0, .string ⟨#[]⟩]) W := fun W => run_build W 54 #[] _ (by kernel_rfl)
  go_enter Tryz.func68, Tryz.ntmps68
  go_wp2_with fail
  refine (HAD.out _).mono ?_
  rintro e w1 ⟨rfl, rfl⟩
  clear HAD
  go_wp2_with fail
  refine (HHL.out _).mono ?_
  rintro e w1 ⟨⟨nn, rfl⟩, rfl⟩
  clear HHL
  go_wp2_with (refine wpList_store_mid (by rfl) 54 _ _ (by rfl) (w.heap.size) 0 #[.int .i64 0, .int .i64 0, .int .i64 0, .int .i64 0, .int .i64 0, .int .i64 0, .int .i64 0, .int .i64 0, .int .i64 0, .int .i64 0, .int .i64 0, .bool false, .bool false, .bool false, .slice none 0 0, .string ⟨#[]⟩] (by rfl) (by rfl) hR.there size54 (by simp [Value.oneCell']) ?_)
  go_wp2
  exact bodyPost_ret (v := .tuple #[.agg #[.int .i64 0, .int .i64 0, .int .i64 0, .int .i64 0, .int .i64 0, .int .i64 0, .int .i64 0, .int .i64 0, .int .i64 0, .int .i64 0, .int .i64 0, .bool false, .bool false, .bool false, .slice none 0 0, .string ⟨#[]⟩], .int .i64 80]) (ret_cell (by rfl) (At.whole (vs := #[.int .i64 0, .int .i64 0, .int .i64 0, .int .i64 0, .int .i64 0, .int .i64 0, .int .i64 0, .int .i64 0, .int .i64 0, .int .i64 0, .int .i64 0, .bool false, .bool false, .bool false, .slice none 0 0, .string ⟨#[]⟩]) hR rfl) rfl (by rfl) (by rfl)) (by rfl) ⟨rfl, Below.setCells (Nat.le_refl _) _ _ _ hl⟩
set_option maxHeartbeats 4000000 in
theorem decs_3 (f t : Int) (b : ByteArray) (PS : ByteArray) (h : Int) (w : World)
    (HAD : Hid (∀ W, Calls Tryz.prog 85 #[.int .i64 f, .int .i64 t] W fun e w' => e = .returned (.bool true) ∧ w' = W))
    (HHL : Hid (∀ W, Calls Tryz.prog 86 #[.string b] W fun e w' => e = .returned (.tuple #[.int .i64 h, .bool true]) ∧ w' = W))
    (HPS : Hid (∀ W, Calls Tryz.prog 87 #[.int .i64 f, .int .i64 t, .int .i64 (b.size : Int)] W fun e w' => e = .returned (.string PS) ∧ Below W.heap.size W w'))
    (r1 : ∀ W, (Op.stringOp .add PS b).run Tryz.prog W = .ok (.string (PS ++ b)) W)
    (HWH : Hid (∀ W, Calls Tryz.prog 65 #[.string (PS ++ b)] W fun e w' => e = .returned (.bool false) ∧ Below W.heap.size W w')) :
    Calls Tryz.prog 68 #[.int .i64 f, .int .i64 t, .string b] w fun e w' => e = .returned (.tuple #[.agg #[.int .i64 0, .int .i64 0, .int .i64 0, .int .i64 0, .int .i64 0, .int .i64 0, .int .i64 0, .int .i64 0, .int .i64 0, .int .i64 0, .int .i64 0, .bool false, .bool false, .bool false, .slice none 0 0, .string ⟨#[]⟩], .int .i64 20]) ∧ Below w.heap.size w w' := by
  have hR := At.box w #[.int .i64 0, .int .i64 0, .int .i64 0, .int .i64 0, .int .i64 0, .int .i64 0, .int .i64 0, .int .i64 0, .int .i64 0, .int .i64 0, .int .i64 0, .bool false, .bool false, .bool false, .slice none 0 0, .string ⟨#[]⟩] 54
  have hl := bel1 w (.cells #[.int .i64 0, .int .i64 0, .int .i64 0, .int .i64 0, .int .i64 0, .int .i64 0, .int .i64 0, .int .i64 0, .int .i64 0, .int .i64 0, .int .i64 0, .bool false, .bool false, .bool false, .slice none 0 0, .string ⟨#[]⟩] 54)
  have hz : ∀ W, (Instr.build 54 #[]).run Tryz.prog W = .ok (.agg #[.int .i64 0, .int .i64 0, .int .i64 0, .int .i64 0, .int .i64 0, .int .i64 0, .int .i64 0, .int .i64 0, .int .i64 0, .int .i64 0, .int .i64 0, .bool false, .bool false, .bool false, .slice none 0 0, .string ⟨#[]⟩]) W := fun W => run_build W 54 #[] _ (by kernel_rfl)
  go_enter Tryz.func68, Tryz.ntmps68
  go_wp2_with fail
  refine (HAD.out _).mono ?_
  rintro e w1 ⟨rfl, rfl⟩
  clear HAD
  go_wp2_with fail
  refine (HHL.out _).mono ?_
  rintro e w1 ⟨rfl, rfl⟩
  clear HHL
  go_wp2_with fail
  refine (HPS.out _).mono ?_
  rintro e w2 ⟨rfl, hb⟩
  replace hl := bt hl hb
  replace hR := hR.later hb
  clear hb
  clear HPS
  go_wp2_with fail
  refine (HWH.out _).mono ?_
  rintro e w3 ⟨rfl, hb⟩
  replace hl := bt hl hb
  replace hR := hR.later hb
  clear hb
  clear HWH
  go_wp2_with (refine wpList_store_mid (by rfl) 54 _ _ (by rfl) (w.heap.size) 0 #[.int .i64 0, .int .i64 0, .int .i64 0, .int .i64 0, .int .i64 0, .int .i64 0, .int .i64 0, .int .i64 0, .int .i64 0, .int .i64 0, .int .i64 0, .bool false, .bool false, .bool false, .slice none 0 0, .string ⟨#[]⟩] (by rfl) (by rfl) hR.there size54 (by simp [Value.oneCell']) ?_)
  go_wp2
  exact bodyPost_ret (v := .tuple #[.agg #[.int .i64 0, .int .i64 0, .int .i64 0, .int .i64 0, .int .i64 0, .int .i64 0, .int .i64 0, .int .i64 0, .int .i64 0, .int .i64 0, .int .i64 0, .bool false, .bool false, .bool false, .slice none 0 0, .string ⟨#[]⟩], .int .i64 20]) (ret_cell (by rfl) (At.whole (vs := #[.int .i64 0, .int .i64 0, .int .i64 0, .int .i64 0, .int .i64 0, .int .i64 0, .int .i64 0, .int .i64 0, .int .i64 0, .int .i64 0, .int .i64 0, .bool false, .bool false, .bool false, .slice none 0 0, .string ⟨#[]⟩]) hR rfl) rfl (by rfl) (by rfl)) (by rfl) ⟨rfl, Below.setCells (Nat.le_refl _) _ _ _ hl⟩
set_option maxHeartbeats 4000000 in
theorem decs_4 (f t : Int) (b : ByteArray) (PS OB : ByteArray) (h : Int) (w : World)
    (hG : Ord w)
    (HAD : Hid (∀ W, Calls Tryz.prog 85 #[.int .i64 f, .int .i64 t] W fun e w' => e = .returned (.bool true) ∧ w' = W))
    (HHL : Hid (∀ W, Calls Tryz.prog 86 #[.string b] W fun e w' => e = .returned (.tuple #[.int .i64 h, .bool true]) ∧ w' = W))
    (HPS : Hid (∀ W, Calls Tryz.prog 87 #[.int .i64 f, .int .i64 t, .int .i64 (b.size : Int)] W fun e w' => e = .returned (.string PS) ∧ Below W.heap.size W w'))
    (r1 : ∀ W, (Op.stringOp .add PS b).run Tryz.prog W = .ok (.string (PS ++ b)) W)
    (HWH : Hid (∀ W, Calls Tryz.prog 65 #[.string (PS ++ b)] W fun e w' => e = .returned (.bool true) ∧ Below W.heap.size W w'))
    (r2 : ∀ W, (Instr.slice 9 (.string b) (some (.int .i64 20)) (some (.int .i64 h)) none).run Tryz.prog W = .ok (.string OB) W)
    (HOD : Hid (∀ W, Ord W → Calls Tryz.prog 88 #[.string OB] W fun e w' => e = .returned (.tuple #[.agg #[.int .i64 0, .int .i64 0, .int .i64 0, .int .i64 0, .bool false, .bool false, .bool false, .slice none 0 0], .int .i64 70]) ∧ Below W.heap.size W w')) :
    Calls Tryz.prog 68 #[.int .i64 f, .int .i64 t, .string b] w fun e w' => e = .returned (.tuple #[.agg #[.int .i64 0, .int .i64 0, .int .i64 0, .int .i64 0, .int .i64 0, .int .i64 0, .int .i64 0, .int .i64 0, .int .i64 0, .int .i64 0, .int .i64 0, .bool false, .bool false, .bool false, .slice none 0 0, .string ⟨#[]⟩], .int .i64 70]) ∧ Below w.heap.size w w' := by
  have hR := At.box w #[.int .i64 0, .int .i64 0, .int .i64 0, .int .i64 0, .int .i64 0, .int .i64 0, .int .i64 0, .int .i64 0, .int .i64 0, .int .i64 0, .int .i64 0, .bool false, .bool false, .bool false, .slice none 0 0, .string ⟨#[]⟩] 54
  have hl := bel1 w (.cells #[.int .i64 0, .int .i64 0, .int .i64 0, .int .i64 0, .int .i64 0, .int .i64 0, .int .i64 0, .int .i64 0, .int .i64 0, .int .i64 0, .int .i64 0, .bool false, .bool false, .bool false, .slice none 0 0, .string ⟨#[]⟩] 54)
  have hz : ∀ W, (Instr.build 54 #[]).run Tryz.prog W = .ok (.agg #[.int .i64 0, .int .i64 0, .int .i64 0, .int .i64 0, .int .i64 0, .int .i64 0, .int .i64 0, .int .i64 0, .int .i64 0, .int .i64 0, .int .i64 0, .bool false, .bool false, .bool false, .slice none 0 0, .string ⟨#[]⟩]) W := fun W => run_build W 54 #[] _ (by kernel_rfl)
  go_enter Tryz.func68, Tryz.ntmps68
  go_wp2_with fail
  refine (HAD.out _).mono ?_
  rintro e w1 ⟨rfl, rfl⟩
  clear HAD
  go_wp2_with fail
  refine (HHL.out _).mono ?_
  rintro e w1 ⟨rfl, rfl⟩
  clear HHL
  go_wp2_with fail
  refine (HPS.out _).mono ?_
  rintro e w2 ⟨rfl, hb⟩
  replace hl := bt hl hb
  replace hR := hR.later hb
  clear hb
  clear HPS
  go_wp2_with fail
  refine (HWH.out _).mono ?_
  rintro e w3 ⟨rfl, hb⟩
  replace hl := bt hl hb
  replace hR := hR.later hb
  clear hb
  clear HWH
  go_wp2_with fail
  refine (HOD.out _ (hG.later hl)).mono ?_
  rintro e w4 ⟨rfl, hb⟩
  replace hl := bt hl hb
  replace hR := hR.later hb
  clear hb
  clear HOD
  have hbx := bel1 w4 (.cells #[.int .i64 0, .int .i64 0, .int .i64 0, .int .i64 0, .bool false, .bool false, .bool false, .slice none 0 0] 52)
  go_upto_region 9 with fail
  replace hl := bt hl hbx
  replace hR := hR.later hbx
  generalize w4.alloc (.cells #[.int .i64 0, .int .i64 0, .int .i64 0, .int .i64 0, .bool false, .bool false, .bool false, .slice none 0 0] 52) = w5 at *
  clear hbx
  go_wp2_with (refine wpList_store_mid (by rfl) 54 _ _ (by rfl) (w.heap.size) 0 #[.int .i64 0, .int .i64 0, .int .i64 0, .int .i64 0, .int .i64 0, .int .i64 0, .int .i64 0, .int .i64 0, .int .i64 0, .int .i64 0, .int .i64 0, .bool false, .bool false, .bool false, .slice none 0 0, .string ⟨#[]⟩] (by rfl) (by rfl) hR.there size54 (by simp [Value.oneCell']) ?_)
  go_wp2
  exact bodyPost_ret (v := .tuple #[.agg #[.int .i64 0, .int .i64 0, .int .i64 0, .int .i64 0, .int .i64 0, .int .i64 0, .int .i64 0, .int .i64 0, .int .i64 0, .int .i64 0, .int .i64 0, .bool false, .bool false, .bool false, .slice none 0 0, .string ⟨#[]⟩], .int .i64 70]) (ret_cell (by rfl) (At.whole (vs := #[.int .i64 0, .int .i64 0, .int .i64 0, .int .i64 0, .int .i64 0, .int .i64 0, .int .i64 0, .int .i64 0, .int .i64 0, .int .i64 0, .int .i64 0, .bool false, .bool false, .bool false, .slice none 0 0, .string ⟨#[]⟩]) hR rfl) rfl (by rfl) (by rfl)) (by rfl) ⟨rfl, Below.setCells (Nat.le_refl _) _ _ _ hl⟩
set_option maxHeartbeats 4000000 in
theorem decs_5 (f t : Int) (b : ByteArray) (PS OB : ByteArray) (h BN LW : Int) (o : Op) (G : Sg) (w : World)
    (hG : Ord w)
    (HAD : Hid (∀ W, Calls Tryz.prog 85 #[.int .i64 f, .int .i64 t] W fun e w' => e = .returned (.bool true) ∧ w' = W))
    (HHL : Hid (∀ W, Calls Tryz.prog 86 #[.string b] W fun e w' => e = .returned (.tuple #[.int .i64 h, .bool true]) ∧ w' = W))
    (HPS : Hid (∀ W, Calls Tryz.prog 87 #[.int .i64 f, .int .i64 t, .int .i64 (b.size : Int)] W fun e w' => e = .returned (.string PS) ∧ Below W.heap.size W w'))
    (r1 : ∀ W, (Op.stringOp .add PS b).run Tryz.prog W = .ok (.string (PS ++ b)) W)
    (HWH : Hid (∀ W, Calls Tryz.prog 65 #[.string (PS ++ b)] W fun e w' => e = .returned (.bool true) ∧ Below W.heap.size W w'))
    (r2 : ∀ W, (Instr.slice 9 (.string b) (some (.int .i64 20)) (some (.int .i64 h)) none).run Tryz.prog W = .ok (.string OB) W)
    (HOD : Hid (∀ W, Ord W → Calls Tryz.prog 88 #[.string OB] W fun e w' => ∃ v, e = .returned (.tuple #[.agg #[.int .i64 o.m, .int .i64 o.c, .int .i64 o.t, .int .i64 o.ec, .bool o.sd, .bool o.ok, .bool o.sp, v], .int .i64 0]) ∧ RgA W.heap.size w' v o.rs ∧ Below W.heap.size W w'))
    (HRD : Hid (∀ W v, Rgs W v o.rs → Calls Tryz.prog 89 #[.string b, .int .i64 h, .agg #[.int .i64 o.m, .int .i64 o.c, .int .i64 o.t, .int .i64 o.ec, .bool o.sd, .bool o.ok, .bool o.sp, v]] W fun e w' => e = .returned (.agg #[.int .i64 G.fr, .int .i64 G.dt, .int .i64 G.sq, .int .i64 G.ak, .int .i64 G.fl, .int .i64 G.wi, .int .i64 G.ur, .int .i64 G.o.m, .int .i64 G.o.c, .int .i64 G.o.t, .int .i64 G.o.ec, .bool G.o.sd, .bool G.o.ok, .bool G.o.sp, v, .string G.da]) ∧ Below W.heap.size W w'))
    (r3 : ∀ W, (Instr.index 9 (.string b) (.int .i64 12)).run Tryz.prog W = .ok (.int .u8 BN) W) (r4 : bits .and .u8 BN 15 = LW)
    (r5 : (LW != 0) = true) :
    Calls Tryz.prog 68 #[.int .i64 f, .int .i64 t, .string b] w fun e w' => e = .returned (.tuple #[.agg #[.int .i64 0, .int .i64 0, .int .i64 0, .int .i64 0, .int .i64 0, .int .i64 0, .int .i64 0, .int .i64 0, .int .i64 0, .int .i64 0, .int .i64 0, .bool false, .bool false, .bool false, .slice none 0 0, .string ⟨#[]⟩], .int .i64 80]) ∧ Below w.heap.size w w' := by
  have hR := At.box w #[.int .i64 0, .int .i64 0, .int .i64 0, .int .i64 0, .int .i64 0, .int .i64 0, .int .i64 0, .int .i64 0, .int .i64 0, .int .i64 0, .int .i64 0, .bool false, .bool false, .bool false, .slice none 0 0, .string ⟨#[]⟩] 54
  have hl := bel1 w (.cells #[.int .i64 0, .int .i64 0, .int .i64 0, .int .i64 0, .int .i64 0, .int .i64 0, .int .i64 0, .int .i64 0, .int .i64 0, .int .i64 0, .int .i64 0, .bool false, .bool false, .bool false, .slice none 0 0, .string ⟨#[]⟩] 54)
  have hz : ∀ W, (Instr.build 54 #[]).run Tryz.prog W = .ok (.agg #[.int .i64 0, .int .i64 0, .int .i64 0, .int .i64 0, .int .i64 0, .int .i64 0, .int .i64 0, .int .i64 0, .int .i64 0, .int .i64 0, .int .i64 0, .bool false, .bool false, .bool false, .slice none 0 0, .string ⟨#[]⟩]) W := fun W => run_build W 54 #[] _ (by kernel_rfl)
  go_enter Tryz.func68, Tryz.ntmps68
  go_wp2_with fail
  refine (HAD.out _).mono ?_
  rintro e w1 ⟨rfl, rfl⟩
  clear HAD
  go_wp2_with fail
  refine (HHL.out _).mono ?_
  rintro e w1 ⟨rfl, rfl⟩
  clear HHL
  go_wp2_with fail
  refine (HPS.out _).mono ?_
  rintro e w2 ⟨rfl, hb⟩
  replace hl := bt hl hb
  replace hR := hR.later hb
  clear hb
  clear HPS
  go_wp2_with fail
  refine (HWH.out _).mono ?_
  rintro e w3 ⟨rfl, hb⟩
  replace hl := bt hl hb
  replace hR := hR.later hb
  clear hb
  clear HWH
  have hlt : w.heap.size < w3.heap.size := hR.1
  go_wp2_with fail
  refine (HOD.out _ (hG.later hl)).mono ?_
  rintro e w4 ⟨v, rfl, hvr, hb⟩
  obtain ⟨a0, cap0, hve, -⟩ := id hvr
  subst hve
  replace hl := bt hl hb
  replace hR := hR.later hb
  clear hb
  clear HOD
  have hbx := bel1 w4 (.cells #[.int .i64 o.m, .int .i64 o.c, .int .i64 o.t, .int .i64 o.ec, .bool o.sd, .bool o.ok, .bool o.sp, (.slice a0 o.rs.length cap0)] 52)
  have hO := At.box w4 #[.int .i64 o.m, .int .i64 o.c, .int .i64 o.t, .int .i64 o.ec, .bool o.sd, .bool o.ok, .bool o.sp, (.slice a0 o.rs.length cap0)] 52
  go_upto_region 9 with fail
  replace hl := bt hl hbx
  replace hR := hR.later hbx
  replace hvr := hvr.later hbx
  obtain ⟨B4, hB4⟩ : ∃ B, B = w4.heap.size := ⟨_, rfl⟩
  rw [← hB4] at hO ⊢
  generalize w4.alloc (.cells #[.int .i64 o.m, .int .i64 o.c, .int .i64 o.t, .int .i64 o.ec, .bool o.sd, .bool o.ok, .bool o.sp, (.slice a0 o.rs.length cap0)] 52) = w5 at *
  clear hbx hB4
  go_wp2_with (refine wpList_loadG 52 _ (by rfl) (by rfl) B4 0 (by rfl) _ _ hO.range Tryz.underlying52 rfl size52 ?_)
  refine (HRD.out _ _ hvr.rgs).mono ?_
  rintro e w6 ⟨rfl, hb⟩
  replace hl := bt hl hb
  replace hR := hR.later hb
  replace hvr := hvr.later hb
  clear hb hO HRD
  have hbx := bel1 w6 (.cells #[.int .i64 G.fr, .int .i64 G.dt, .int .i64 G.sq, .int .i64 G.ak, .int .i64 G.fl, .int .i64 G.wi, .int .i64 G.ur, .int .i64 G.o.m, .int .i64 G.o.c, .int .i64 G.o.t, .int .i64 G.o.ec, .bool G.o.sd, .bool G.o.ok, .bool G.o.sp, (.slice a0 o.rs.length cap0), .string G.da] 54)
  have hO := At.box w6 #[.int .i64 G.fr, .int .i64 G.dt, .int .i64 G.sq, .int .i64 G.ak, .int .i64 G.fl, .int .i64 G.wi, .int .i64 G.ur, .int .i64 G.o.m, .int .i64 G.o.c, .int .i64 G.o.t, .int .i64 G.o.ec, .bool G.o.sd, .bool G.o.ok, .bool G.o.sp, (.slice a0 o.rs.length cap0), .string G.da] 54
  go_upto_region 12 with fail
  replace hl := bt hl hbx
  replace hR := hR.later hbx
  replace hvr := hvr.later hbx
  obtain ⟨B6, hB6⟩ : ∃ B, B = w6.heap.size := ⟨_, rfl⟩
  rw [← hB6] at hO ⊢
  generalize w6.alloc (.cells #[.int .i64 G.fr, .int .i64 G.dt, .int .i64 G.sq, .int .i64 G.ak, .int .i64 G.fl, .int .i64 G.wi, .int .i64 G.ur, .int .i64 G.o.m, .int .i64 G.o.c, .int .i64 G.o.t, .int .i64 G.o.ec, .bool G.o.sd, .bool G.o.ok, .bool G.o.sp, (.slice a0 o.rs.length cap0), .string G.da] 54) = w7 at *
  clear hbx hB6
  go_wp2_with (refine wpList_store_mid (by rfl) 54 _ _ (by rfl) (w.heap.size) 0 #[.int .i64 0, .int .i64 0, .int .i64 0, .int .i64 0, .int .i64 0, .int .i64 0, .int .i64 0, .int .i64 0, .int .i64 0, .int .i64 0, .int .i64 0, .bool false, .bool false, .bool false, .slice none 0 0, .string ⟨#[]⟩] (by rfl) (by rfl) hR.there size54 (by simp [Value.oneCell']) ?_)
  go_wp2
  exact bodyPost_ret (v := .tuple #[.agg #[.int .i64 0, .int .i64 0, .int .i64 0, .int .i64 0, .int .i64 0, .int .i64 0, .int .i64 0, .int .i64 0, .int .i64 0, .int .i64 0, .int .i64 0, .bool false, .bool false, .bool false, .slice none 0 0, .string ⟨#[]⟩], .int .i64 80]) (ret_cell (by rfl) (At.whole (vs := #[.int .i64 0, .int .i64 0, .int .i64 0, .int .i64 0, .int .i64 0, .int .i64 0, .int .i64 0, .int .i64 0, .int .i64 0, .int .i64 0, .int .i64 0, .bool false, .bool false, .bool false, .slice none 0 0, .string ⟨#[]⟩]) hR rfl) rfl (by rfl) (by rfl)) (by rfl) ⟨rfl, Below.setCells (Nat.le_refl _) _ _ _ hl⟩
set_option maxHeartbeats 4000000 in
theorem decs_6 (f t : Int) (b : ByteArray) (PS OB : ByteArray) (h BN LW : Int) (o : Op) (G : Sg) (w : World)
    (hG : Ord w)
    (HAD : Hid (∀ W, Calls Tryz.prog 85 #[.int .i64 f, .int .i64 t] W fun e w' => e = .returned (.bool true) ∧ w' = W))
    (HHL : Hid (∀ W, Calls Tryz.prog 86 #[.string b] W fun e w' => e = .returned (.tuple #[.int .i64 h, .bool true]) ∧ w' = W))
    (HPS : Hid (∀ W, Calls Tryz.prog 87 #[.int .i64 f, .int .i64 t, .int .i64 (b.size : Int)] W fun e w' => e = .returned (.string PS) ∧ Below W.heap.size W w'))
    (r1 : ∀ W, (Op.stringOp .add PS b).run Tryz.prog W = .ok (.string (PS ++ b)) W)
    (HWH : Hid (∀ W, Calls Tryz.prog 65 #[.string (PS ++ b)] W fun e w' => e = .returned (.bool true) ∧ Below W.heap.size W w'))
    (r2 : ∀ W, (Instr.slice 9 (.string b) (some (.int .i64 20)) (some (.int .i64 h)) none).run Tryz.prog W = .ok (.string OB) W)
    (HOD : Hid (∀ W, Ord W → Calls Tryz.prog 88 #[.string OB] W fun e w' => ∃ v, e = .returned (.tuple #[.agg #[.int .i64 o.m, .int .i64 o.c, .int .i64 o.t, .int .i64 o.ec, .bool o.sd, .bool o.ok, .bool o.sp, v], .int .i64 0]) ∧ RgA W.heap.size w' v o.rs ∧ Below W.heap.size W w'))
    (HRD : Hid (∀ W v, Rgs W v o.rs → Calls Tryz.prog 89 #[.string b, .int .i64 h, .agg #[.int .i64 o.m, .int .i64 o.c, .int .i64 o.t, .int .i64 o.ec, .bool o.sd, .bool o.ok, .bool o.sp, v]] W fun e w' => e = .returned (.agg #[.int .i64 G.fr, .int .i64 G.dt, .int .i64 G.sq, .int .i64 G.ak, .int .i64 G.fl, .int .i64 G.wi, .int .i64 G.ur, .int .i64 G.o.m, .int .i64 G.o.c, .int .i64 G.o.t, .int .i64 G.o.ec, .bool G.o.sd, .bool G.o.ok, .bool G.o.sp, v, .string G.da]) ∧ Below W.heap.size W w'))
    (r3 : ∀ W, (Instr.index 9 (.string b) (.int .i64 12)).run Tryz.prog W = .ok (.int .u8 BN) W) (r4 : bits .and .u8 BN 15 = LW)
    (r5 : (LW != 0) = false)
    (HMY : Hid (∀ W v, Rgs W v o.rs → Ord W → Calls Tryz.prog 90 #[.agg #[.int .i64 G.fr, .int .i64 G.dt, .int .i64 G.sq, .int .i64 G.ak, .int .i64 G.fl, .int .i64 G.wi, .int .i64 G.ur, .int .i64 G.o.m, .int .i64 G.o.c, .int .i64 G.o.t, .int .i64 G.o.ec, .bool G.o.sd, .bool G.o.ok, .bool G.o.sp, v, .string G.da]] W fun e w' => e = .returned (.bool false) ∧ Below W.heap.size W w')) :
    Calls Tryz.prog 68 #[.int .i64 f, .int .i64 t, .string b] w fun e w' => e = .returned (.tuple #[.agg #[.int .i64 0, .int .i64 0, .int .i64 0, .int .i64 0, .int .i64 0, .int .i64 0, .int .i64 0, .int .i64 0, .int .i64 0, .int .i64 0, .int .i64 0, .bool false, .bool false, .bool false, .slice none 0 0, .string ⟨#[]⟩], .int .i64 80]) ∧ Below w.heap.size w w' := by
  have hR := At.box w #[.int .i64 0, .int .i64 0, .int .i64 0, .int .i64 0, .int .i64 0, .int .i64 0, .int .i64 0, .int .i64 0, .int .i64 0, .int .i64 0, .int .i64 0, .bool false, .bool false, .bool false, .slice none 0 0, .string ⟨#[]⟩] 54
  have hl := bel1 w (.cells #[.int .i64 0, .int .i64 0, .int .i64 0, .int .i64 0, .int .i64 0, .int .i64 0, .int .i64 0, .int .i64 0, .int .i64 0, .int .i64 0, .int .i64 0, .bool false, .bool false, .bool false, .slice none 0 0, .string ⟨#[]⟩] 54)
  have hz : ∀ W, (Instr.build 54 #[]).run Tryz.prog W = .ok (.agg #[.int .i64 0, .int .i64 0, .int .i64 0, .int .i64 0, .int .i64 0, .int .i64 0, .int .i64 0, .int .i64 0, .int .i64 0, .int .i64 0, .int .i64 0, .bool false, .bool false, .bool false, .slice none 0 0, .string ⟨#[]⟩]) W := fun W => run_build W 54 #[] _ (by kernel_rfl)
  go_enter Tryz.func68, Tryz.ntmps68
  go_wp2_with fail
  refine (HAD.out _).mono ?_
  rintro e w1 ⟨rfl, rfl⟩
  clear HAD
  go_wp2_with fail
  refine (HHL.out _).mono ?_
  rintro e w1 ⟨rfl, rfl⟩
  clear HHL
  go_wp2_with fail
  refine (HPS.out _).mono ?_
  rintro e w2 ⟨rfl, hb⟩
  replace hl := bt hl hb
  replace hR := hR.later hb
  clear hb
  clear HPS
  go_wp2_with fail
  refine (HWH.out _).mono ?_
  rintro e w3 ⟨rfl, hb⟩
  replace hl := bt hl hb
  replace hR := hR.later hb
  clear hb
  clear HWH
  have hlt : w.heap.size < w3.heap.size := hR.1
  go_wp2_with fail
  refine (HOD.out _ (hG.later hl)).mono ?_
  rintro e w4 ⟨v, rfl, hvr, hb⟩
  obtain ⟨a0, cap0, hve, -⟩ := id hvr
  subst hve
  replace hl := bt hl hb
  replace hR := hR.later hb
  clear hb
  clear HOD
  have hbx := bel1 w4 (.cells #[.int .i64 o.m, .int .i64 o.c, .int .i64 o.t, .int .i64 o.ec, .bool o.sd, .bool o.ok, .bool o.sp, (.slice a0 o.rs.length cap0)] 52)
  have hO := At.box w4 #[.int .i64 o.m, .int .i64 o.c, .int .i64 o.t, .int .i64 o.ec, .bool o.sd, .bool o.ok, .bool o.sp, (.slice a0 o.rs.length cap0)] 52
  go_upto_region 9 with fail
  replace hl := bt hl hbx
  replace hR := hR.later hbx
  replace hvr := hvr.later hbx
  obtain ⟨B4, hB4⟩ : ∃ B, B = w4.heap.size := ⟨_, rfl⟩
  rw [← hB4] at hO ⊢
  generalize w4.alloc (.cells #[.int .i64 o.m, .int .i64 o.c, .int .i64 o.t, .int .i64 o.ec, .bool o.sd, .bool o.ok, .bool o.sp, (.slice a0 o.rs.length cap0)] 52) = w5 at *
  clear hbx hB4
  go_wp2_with (refine wpList_loadG 52 _ (by rfl) (by rfl) B4 0 (by rfl) _ _ hO.range Tryz.underlying52 rfl size52 ?_)
  refine (HRD.out _ _ hvr.rgs).mono ?_
  rintro e w6 ⟨rfl, hb⟩
  replace hl := bt hl hb
  replace hR := hR.later hb
  replace hvr := hvr.later hb
  clear hb hO HRD
  have hbx := bel1 w6 (.cells #[.int .i64 G.fr, .int .i64 G.dt, .int .i64 G.sq, .int .i64 G.ak, .int .i64 G.fl, .int .i64 G.wi, .int .i64 G.ur, .int .i64 G.o.m, .int .i64 G.o.c, .int .i64 G.o.t, .int .i64 G.o.ec, .bool G.o.sd, .bool G.o.ok, .bool G.o.sp, (.slice a0 o.rs.length cap0), .string G.da] 54)
  have hO := At.box w6 #[.int .i64 G.fr, .int .i64 G.dt, .int .i64 G.sq, .int .i64 G.ak, .int .i64 G.fl, .int .i64 G.wi, .int .i64 G.ur, .int .i64 G.o.m, .int .i64 G.o.c, .int .i64 G.o.t, .int .i64 G.o.ec, .bool G.o.sd, .bool G.o.ok, .bool G.o.sp, (.slice a0 o.rs.length cap0), .string G.da] 54
  go_upto_region 12 with fail
  replace hl := bt hl hbx
  replace hR := hR.later hbx
  replace hvr := hvr.later hbx
  obtain ⟨B6, hB6⟩ : ∃ B, B = w6.heap.size := ⟨_, rfl⟩
  rw [← hB6] at hO ⊢
  generalize w6.alloc (.cells #[.int .i64 G.fr, .int .i64 G.dt, .int .i64 G.sq, .int .i64 G.ak, .int .i64 G.fl, .int .i64 G.wi, .int .i64 G.ur, .int .i64 G.o.m, .int .i64 G.o.c, .int .i64 G.o.t, .int .i64 G.o.ec, .bool G.o.sd, .bool G.o.ok, .bool G.o.sp, (.slice a0 o.rs.length cap0), .string G.da] 54) = w7 at *
  clear hbx hB6
  go_wp2_with (refine wpList_loadG 54 _ (by rfl) (by rfl) B6 0 (by rfl) _ _ hO.range Tryz.underlying54 rfl size54 ?_)
  refine (HMY.out _ _ hvr.rgs (hG.later hl)).mono ?_
  rintro e w8 ⟨rfl, hb⟩
  replace hl := bt hl hb
  replace hR := hR.later hb
  replace hvr := hvr.later hb
  replace hO := hO.later hb
  clear hb HMY
  go_wp2_with (refine wpList_store_mid (by rfl) 54 _ _ (by rfl) (w.heap.size) 0 #[.int .i64 0, .int .i64 0, .int .i64 0, .int .i64 0, .int .i64 0, .int .i64 0, .int .i64 0, .int .i64 0, .int .i64 0, .int .i64 0, .int .i64 0, .bool false, .bool false, .bool false, .slice none 0 0, .string ⟨#[]⟩] (by rfl) (by rfl) hR.there size54 (by simp [Value.oneCell']) ?_)
  go_wp2
  exact bodyPost_ret (v := .tuple #[.agg #[.int .i64 0, .int .i64 0, .int .i64 0, .int .i64 0, .int .i64 0, .int .i64 0, .int .i64 0, .int .i64 0, .int .i64 0, .int .i64 0, .int .i64 0, .bool false, .bool false, .bool false, .slice none 0 0, .string ⟨#[]⟩], .int .i64 80]) (ret_cell (by rfl) (At.whole (vs := #[.int .i64 0, .int .i64 0, .int .i64 0, .int .i64 0, .int .i64 0, .int .i64 0, .int .i64 0, .int .i64 0, .int .i64 0, .int .i64 0, .int .i64 0, .bool false, .bool false, .bool false, .slice none 0 0, .string ⟨#[]⟩]) hR rfl) rfl (by rfl) (by rfl)) (by rfl) ⟨rfl, Below.setCells (Nat.le_refl _) _ _ _ hl⟩
set_option maxHeartbeats 4000000 in
theorem decs_7 (f t : Int) (b : ByteArray) (PS OB : ByteArray) (h BN LW : Int) (o : Op) (G : Sg) (w : World)
    (hG : Ord w)
    (HAD : Hid (∀ W, Calls Tryz.prog 85 #[.int .i64 f, .int .i64 t] W fun e w' => e = .returned (.bool true) ∧ w' = W))
    (HHL : Hid (∀ W, Calls Tryz.prog 86 #[.string b] W fun e w' => e = .returned (.tuple #[.int .i64 h, .bool true]) ∧ w' = W))
    (HPS : Hid (∀ W, Calls Tryz.prog 87 #[.int .i64 f, .int .i64 t, .int .i64 (b.size : Int)] W fun e w' => e = .returned (.string PS) ∧ Below W.heap.size W w'))
    (r1 : ∀ W, (Op.stringOp .add PS b).run Tryz.prog W = .ok (.string (PS ++ b)) W)
    (HWH : Hid (∀ W, Calls Tryz.prog 65 #[.string (PS ++ b)] W fun e w' => e = .returned (.bool true) ∧ Below W.heap.size W w'))
    (r2 : ∀ W, (Instr.slice 9 (.string b) (some (.int .i64 20)) (some (.int .i64 h)) none).run Tryz.prog W = .ok (.string OB) W)
    (HOD : Hid (∀ W, Ord W → Calls Tryz.prog 88 #[.string OB] W fun e w' => ∃ v, e = .returned (.tuple #[.agg #[.int .i64 o.m, .int .i64 o.c, .int .i64 o.t, .int .i64 o.ec, .bool o.sd, .bool o.ok, .bool o.sp, v], .int .i64 0]) ∧ RgA W.heap.size w' v o.rs ∧ Below W.heap.size W w'))
    (HRD : Hid (∀ W v, Rgs W v o.rs → Calls Tryz.prog 89 #[.string b, .int .i64 h, .agg #[.int .i64 o.m, .int .i64 o.c, .int .i64 o.t, .int .i64 o.ec, .bool o.sd, .bool o.ok, .bool o.sp, v]] W fun e w' => e = .returned (.agg #[.int .i64 G.fr, .int .i64 G.dt, .int .i64 G.sq, .int .i64 G.ak, .int .i64 G.fl, .int .i64 G.wi, .int .i64 G.ur, .int .i64 G.o.m, .int .i64 G.o.c, .int .i64 G.o.t, .int .i64 G.o.ec, .bool G.o.sd, .bool G.o.ok, .bool G.o.sp, v, .string G.da]) ∧ Below W.heap.size W w'))
    (r3 : ∀ W, (Instr.index 9 (.string b) (.int .i64 12)).run Tryz.prog W = .ok (.int .u8 BN) W) (r4 : bits .and .u8 BN 15 = LW)
    (r5 : (LW != 0) = false)
    (HMY : Hid (∀ W v, Rgs W v o.rs → Ord W → Calls Tryz.prog 90 #[.agg #[.int .i64 G.fr, .int .i64 G.dt, .int .i64 G.sq, .int .i64 G.ak, .int .i64 G.fl, .int .i64 G.wi, .int .i64 G.ur, .int .i64 G.o.m, .int .i64 G.o.c, .int .i64 G.o.t, .int .i64 G.o.ec, .bool G.o.sd, .bool G.o.ok, .bool G.o.sp, v, .string G.da]] W fun e w' => e = .returned (.bool true) ∧ Below W.heap.size W w')) :
    Calls Tryz.prog 68 #[.int .i64 f, .int .i64 t, .string b] w fun e w' => ∃ v, e = .returned (.tuple #[.agg #[.int .i64 G.fr, .int .i64 G.dt, .int .i64 G.sq, .int .i64 G.ak, .int .i64 G.fl, .int .i64 G.wi, .int .i64 G.ur, .int .i64 G.o.m, .int .i64 G.o.c, .int .i64 G.o.t, .int .i64 G.o.ec, .bool G.o.sd, .bool G.o.ok, .bool G.o.sp, v, .string G.da], .int .i64 0]) ∧ RgA w.heap.size w' v o.rs ∧ Below w.heap.size w w' := by
  have hR := At.box w #[.int .i64 0, .int .i64 0, .int .i64 0, .int .i64 0, .int .i64 0, .int .i64 0, .int .i64 0, .int .i64 0, .int .i64 0, .int .i64 0, .int .i64 0, .bool false, .bool false, .bool false, .slice none 0 0, .string ⟨#[]⟩] 54
  have hl := bel1 w (.cells #[.int .i64 0, .int .i64 0, .int .i64 0, .int .i64 0, .int .i64 0, .int .i64 0, .int .i64 0, .int .i64 0, .int .i64 0, .int .i64 0, .int .i64 0, .bool false, .bool false, .bool false, .slice none 0 0, .string ⟨#[]⟩] 54)
  have hz : ∀ W, (Instr.build 54 #[]).run Tryz.prog W = .ok (.agg #[.int .i64 0, .int .i64 0, .int .i64 0, .int .i64 0, .int .i64 0, .int .i64 0, .int .i64 0, .int .i64 0, .int .i64 0, .int .i64 0, .int .i64 0, .bool false, .bool false, .bool false, .slice none 0 0, .string ⟨#[]⟩]) W := fun W => run_build W 54 #[] _ (by kernel_rfl)
  go_enter Tryz.func68, Tryz.ntmps68
  go_wp2_with fail
  refine (HAD.out _).mono ?_
  rintro e w1 ⟨rfl, rfl⟩
  clear HAD
  go_wp2_with fail
  refine (HHL.out _).mono ?_
  rintro e w1 ⟨rfl, rfl⟩
  clear HHL
  go_wp2_with fail
  refine (HPS.out _).mono ?_
  rintro e w2 ⟨rfl, hb⟩
  replace hl := bt hl hb
  replace hR := hR.later hb
  clear hb
  clear HPS
  go_wp2_with fail
  refine (HWH.out _).mono ?_
  rintro e w3 ⟨rfl, hb⟩
  replace hl := bt hl hb
  replace hR := hR.later hb
  clear hb
  clear HWH
  have hlt : w.heap.size < w3.heap.size := hR.1
  go_wp2_with fail
  refine (HOD.out _ (hG.later hl)).mono ?_
  rintro e w4 ⟨v, rfl, hvr, hb⟩
  obtain ⟨a0, cap0, hve, -⟩ := id hvr
  subst hve
  replace hl := bt hl hb
  replace hR := hR.later hb
  clear hb
  clear HOD
  have hbx := bel1 w4 (.cells #[.int .i64 o.m, .int .i64 o.c, .int .i64 o.t, .int .i64 o.ec, .bool o.sd, .bool o.ok, .bool o.sp, (.slice a0 o.rs.length cap0)] 52)
  have hO := At.box w4 #[.int .i64 o.m, .int .i64 o.c, .int .i64 o.t, .int .i64 o.ec, .bool o.sd, .bool o.ok, .bool o.sp, (.slice a0 o.rs.length cap0)] 52
  go_upto_region 9 with fail
  replace hl := bt hl hbx
  replace hR := hR.later hbx
  replace hvr := hvr.later hbx
  obtain ⟨B4, hB4⟩ : ∃ B, B = w4.heap.size := ⟨_, rfl⟩
  rw [← hB4] at hO ⊢
  generalize w4.alloc (.cells #[.int .i64 o.m, .int .i64 o.c, .int .i64 o.t, .int .i64 o.ec, .bool o.sd, .bool o.ok, .bool o.sp, (.slice a0 o.rs.length cap0)] 52) = w5 at *
  clear hbx hB4
  go_wp2_with (refine wpList_loadG 52 _ (by rfl) (by rfl) B4 0 (by rfl) _ _ hO.range Tryz.underlying52 rfl size52 ?_)
  refine (HRD.out _ _ hvr.rgs).mono ?_
  rintro e w6 ⟨rfl, hb⟩
  replace hl := bt hl hb
  replace hR := hR.later hb
  replace hvr := hvr.later hb
  clear hb hO HRD
  have hbx := bel1 w6 (.cells #[.int .i64 G.fr, .int .i64 G.dt, .int .i64 G.sq, .int .i64 G.ak, .int .i64 G.fl, .int .i64 G.wi, .int .i64 G.ur, .int .i64 G.o.m, .int .i64 G.o.c, .int .i64 G.o.t, .int .i64 G.o.ec, .bool G.o.sd, .bool G.o.ok, .bool G.o.sp, (.slice a0 o.rs.length cap0), .string G.da] 54)
  have hO := At.box w6 #[.int .i64 G.fr, .int .i64 G.dt, .int .i64 G.sq, .int .i64 G.ak, .int .i64 G.fl, .int .i64 G.wi, .int .i64 G.ur, .int .i64 G.o.m, .int .i64 G.o.c, .int .i64 G.o.t, .int .i64 G.o.ec, .bool G.o.sd, .bool G.o.ok, .bool G.o.sp, (.slice a0 o.rs.length cap0), .string G.da] 54
  go_upto_region 12 with fail
  replace hl := bt hl hbx
  replace hR := hR.later hbx
  replace hvr := hvr.later hbx
  obtain ⟨B6, hB6⟩ : ∃ B, B = w6.heap.size := ⟨_, rfl⟩
  rw [← hB6] at hO ⊢
  generalize w6.alloc (.cells #[.int .i64 G.fr, .int .i64 G.dt, .int .i64 G.sq, .int .i64 G.ak, .int .i64 G.fl, .int .i64 G.wi, .int .i64 G.ur, .int .i64 G.o.m, .int .i64 G.o.c, .int .i64 G.o.t, .int .i64 G.o.ec, .bool G.o.sd, .bool G.o.ok, .bool G.o.sp, (.slice a0 o.rs.length cap0), .string G.da] 54) = w7 at *
  clear hbx hB6
  go_wp2_with (refine wpList_loadG 54 _ (by rfl) (by rfl) B6 0 (by rfl) _ _ hO.range Tryz.underlying54 rfl size54 ?_)
  refine (HMY.out _ _ hvr.rgs (hG.later hl)).mono ?_
  rintro e w8 ⟨rfl, hb⟩
  replace hl := bt hl hb
  replace hR := hR.later hb
  replace hvr := hvr.later hb
  replace hO := hO.later hb
  clear hb HMY
  go_wp2_with (first | (refine wpList_loadG 54 _ (by rfl) (by rfl) B6 0 (by rfl) _ _ hO.range Tryz.underlying54 rfl size54 ?_) | (refine wpList_store_mid (by rfl) 54 _ _ (by rfl) (w.heap.size) 0 #[.int .i64 G.fr, .int .i64 G.dt, .int .i64 G.sq, .int .i64 G.ak, .int .i64 G.fl, .int .i64 G.wi, .int .i64 G.ur, .int .i64 G.o.m, .int .i64 G.o.c, .int .i64 G.o.t, .int .i64 G.o.ec, .bool G.o.sd, .bool G.o.ok, .bool G.o.sp, (.slice a0 o.rs.length cap0), .string G.da] (by rfl) (by rfl) hR.there size54 (all_oneCell_toArray (cs := [.int .i64 G.fr, .int .i64 G.dt, .int .i64 G.sq, .int .i64 G.ak, .int .i64 G.fl, .int .i64 G.wi, .int .i64 G.ur, .int .i64 G.o.m, .int .i64 G.o.c, .int .i64 G.o.t, .int .i64 G.o.ec, .bool G.o.sd, .bool G.o.ok, .bool G.o.sp, (.slice a0 o.rs.length cap0), .string G.da]) (by simp only [List.mem_cons, List.not_mem_nil, or_false, forall_eq_or_imp, forall_eq]; exact ⟨rfl, rfl, rfl, rfl, rfl, rfl, rfl, rfl, rfl, rfl, rfl, rfl, rfl, rfl, hvr.rgs.one, rfl⟩)) ?_))
  go_wp2
  exact bodyPost_ret (v := .tuple #[.agg #[.int .i64 G.fr, .int .i64 G.dt, .int .i64 G.sq, .int .i64 G.ak, .int .i64 G.fl, .int .i64 G.wi, .int .i64 G.ur, .int .i64 G.o.m, .int .i64 G.o.c, .int .i64 G.o.t, .int .i64 G.o.ec, .bool G.o.sd, .bool G.o.ok, .bool G.o.sp, (.slice a0 o.rs.length cap0), .string G.da], .int .i64 0]) (ret_cell (by rfl) (At.whole (vs := #[.int .i64 G.fr, .int .i64 G.dt, .int .i64 G.sq, .int .i64 G.ak, .int .i64 G.fl, .int .i64 G.wi, .int .i64 G.ur, .int .i64 G.o.m, .int .i64 G.o.c, .int .i64 G.o.t, .int .i64 G.o.ec, .bool G.o.sd, .bool G.o.ok, .bool G.o.sp, (.slice a0 o.rs.length cap0), .string G.da]) hR rfl) rfl (by rfl) (by rfl)) (by rfl) ⟨_, rfl, (hvr.setCells _ _ _ hlt).mono (by omega), Below.setCells (Nat.le_refl _) _ _ _ hl⟩

def DecS (r : Except Int Sg) (w : World) (e : Ending) (w' : World) : Prop := match r with
  | .error c => e = .returned (.tuple #[.agg #[.int .i64 0, .int .i64 0, .int .i64 0, .int .i64 0, .int .i64 0, .int .i64 0, .int .i64 0, .int .i64 0, .int .i64 0, .int .i64 0, .int .i64 0, .bool false, .bool false, .bool false, .slice none 0 0, .string ⟨#[]⟩], .int .i64 c]) ∧ Below w.heap.size w w'
  | .ok s => ∃ v, e = .returned (.tuple #[.agg #[.int .i64 s.fr, .int .i64 s.dt, .int .i64 s.sq, .int .i64 s.ak, .int .i64 s.fl, .int .i64 s.wi, .int .i64 s.ur, .int .i64 s.o.m, .int .i64 s.o.c, .int .i64 s.o.t, .int .i64 s.o.ec, .bool s.o.sd, .bool s.o.ok, .bool s.o.sp, v, .string s.da], .int .i64 0]) ∧ RgA w.heap.size w' v s.o.rs ∧ Below w.heap.size w w'
theorem and15 (n : Nat) (h : n ≤ 255) : bits .and .u8 (n : Int) 15 = ((n % 16 : Nat) : Int) := by
  have := u8_and_nat n 15 (by omega) (by decide)
  rw [show n &&& 15 = n % 16 from Nat.and_two_pow_sub_one_eq_mod n 4] at this
  exact this
theorem decs_any (f t : Int) (b : ByteArray) (w : World) (hG : Ord w) (hb : b.size ≤ 140737488351232) : Calls Tryz.prog 68 #[.int .i64 f, .int .i64 t, .string b] w fun e w' => DecS (decG f t b) w e w' := by
  have had := fun W => addr_any f t W
  rcases Bool.eq_false_or_eq_true (numB f && numB t) with h | h
  case inr => rw [decG_range h]; rw [h] at had; exact decs_1 f t b w had
  obtain ⟨hf, ht⟩ : numB f = true ∧ numB t = true := by simpa using h
  have had' : ∀ W, Calls Tryz.prog 85 #[.int .i64 f, .int .i64 t] W fun e w' => e = .returned (.bool true) ∧ w' = W := fun W => by
    have := had W
    rw [h] at this
    exact this
  rcases Bool.eq_false_or_eq_true (shapeB b) with h1 | h1
  case inr => rw [decG_shape h h1]; exact decs_2 f t b w had' (fun W => hl_f b W (by omega) h1)
  obtain ⟨z1, z2, z3, z4⟩ := shapeB_t h1
  have hps : ∀ W, Calls Tryz.prog 87 #[.int .i64 f, .int .i64 t, .int .i64 (b.size : Int)] W fun e w' => e = .returned (.string (psS f t b.size)) ∧ Below W.heap.size W w' := fun W => by
    have := pseudo_s f t (b.size : Int) W
    rw [pseuV_is f t _ hf ht (by omega)] at this
    exact this
  have r1 : ∀ W, (Op.stringOp .add (psS f t b.size) b).run Tryz.prog W = .ok (.string (psS f t b.size ++ b)) W := fun W => run_string_add_sum W _ _ (by rw [psS_size]; omega)
  have hwh : ∀ W, Calls Tryz.prog 65 #[.string (psS f t b.size ++ b)] W fun e w' => e = .returned (.bool (wholeB f t b)) ∧ Below W.heap.size W w' := fun W => whole_any _ W (by rw [ByteArray.size_append, psS_size]; omega)
  rcases Bool.eq_false_or_eq_true (wholeB f t b) with h2 | h2
  case inr => rw [decG_sum h h1 h2]; rw [h2] at hwh; exact decs_3 f t b (psS f t b.size) (hdN b : Int) w had' (fun W => hl_t b W h1) hps r1 hwh
  rw [h2] at hwh
  rw [decG_fin h h1 h2]
  have r2 := orun_sl b 20 (hdN b : Int) (b.extract 20 (hdN b)) rfl (by omega) (by decide) (by omega)
  have hzO : (b.extract 20 (hdN b)).size ≤ 1125899906842624 := by rw [ByteArray.size_extract]; omega
  have hod := fun (W : World) (hW : Ord W) => dec_any (b.extract 20 (hdN b)) W hW hzO
  cases hd : decO (b.extract 20 (hdN b)).data.toList with
  | none =>
    rw [hd] at hod
    exact decs_4 f t b (psS f t b.size) _ (hdN b : Int) w hG had' (fun W => hl_t b W h1) hps r1 hwh r2 hod
  | some o =>
    rw [hd] at hod
    have hod' : ∀ W, Ord W → Calls Tryz.prog 88 #[.string (b.extract 20 (hdN b))] W fun e w' => ∃ v, e = .returned (.tuple #[.agg #[.int .i64 o.m, .int .i64 o.c, .int .i64 o.t, .int .i64 o.ec, .bool o.sd, .bool o.ok, .bool o.sp, v], .int .i64 0]) ∧ RgA W.heap.size w' v o.rs ∧ Below W.heap.size W w' := fun W hW => (hod W hW).mono fun e w' ⟨v, h3, h4, h5⟩ => ⟨v, h3, RgA.of_own h4, h5⟩
    have hms := mayO_short (decO_may hd)
    have hrd : ∀ W v, Rgs W v o.rs → Calls Tryz.prog 89 #[.string b, .int .i64 (hdN b : Int), .agg #[.int .i64 o.m, .int .i64 o.c, .int .i64 o.t, .int .i64 o.ec, .bool o.sd, .bool o.ok, .bool o.sp, v]] W fun e w' => e = .returned (.agg #[.int .i64 (gotS b o).fr, .int .i64 (gotS b o).dt, .int .i64 (gotS b o).sq, .int .i64 (gotS b o).ak, .int .i64 (gotS b o).fl, .int .i64 (gotS b o).wi, .int .i64 (gotS b o).ur, .int .i64 (gotS b o).o.m, .int .i64 (gotS b o).o.c, .int .i64 (gotS b o).o.t, .int .i64 (gotS b o).o.ec, .bool (gotS b o).o.sd, .bool (gotS b o).o.ok, .bool (gotS b o).o.sp, v, .string (gotS b o).da]) ∧ Below W.heap.size W w' := fun W v hv => read_s b o v W hv h1
    have hmy : ∀ W v, Rgs W v o.rs → Ord W → Calls Tryz.prog 90 #[.agg #[.int .i64 (gotS b o).fr, .int .i64 (gotS b o).dt, .int .i64 (gotS b o).sq, .int .i64 (gotS b o).ak, .int .i64 (gotS b o).fl, .int .i64 (gotS b o).wi, .int .i64 (gotS b o).ur, .int .i64 (gotS b o).o.m, .int .i64 (gotS b o).o.c, .int .i64 (gotS b o).o.t, .int .i64 (gotS b o).o.ec, .bool (gotS b o).o.sd, .bool (gotS b o).o.ok, .bool (gotS b o).o.sp, v, .string (gotS b o).da]] W fun e w' => e = .returned (.bool (mayG (gotS b o))) ∧ Below W.heap.size W w' := fun W v hv hW => may_s (gotS b o) v W hv (by show o.rs.length ≤ _; omega) hW
    have r3 := run12 b (by omega)
    have r4 := and15 (by12 b) (by12_le b)
    show Calls _ _ _ _ fun e w' => DecS (if lastB b o = true then Except.ok (gotS b o) else Except.error 80) w e w'
    by_cases hlow : by12 b % 16 = 0
    · have r5 : (((by12 b % 16 : Nat) : Int) != 0) = false := by rw [hlow]; rfl
      rcases Bool.eq_false_or_eq_true (mayG (gotS b o)) with hm | hm
      · have hlast : lastB b o = true := by unfold lastB; rw [hm, decide_eq_true hlow]; rfl
        rw [if_pos hlast]
        rw [hm] at hmy
        exact decs_7 f t b (psS f t b.size) _ (hdN b : Int) _ _ o (gotS b o) w hG had' (fun W => hl_t b W h1) hps r1 hwh r2 hod' hrd r3 r4 r5 hmy
      · have hlast : ¬ lastB b o = true := by unfold lastB; rw [hm, Bool.and_false]; decide
        rw [if_neg hlast]
        rw [hm] at hmy
        exact decs_6 f t b (psS f t b.size) _ (hdN b : Int) _ _ o (gotS b o) w hG had' (fun W => hl_t b W h1) hps r1 hwh r2 hod' hrd r3 r4 r5 hmy
    · have r5 : (((by12 b % 16 : Nat) : Int) != 0) = true := by simp only [bne_iff_ne, ne_eq]; omega
      have hlast : ¬ lastB b o = true := by unfold lastB; rw [decide_eq_false hlow]; simp
      rw [if_neg hlast]
      exact decs_5 f t b (psS f t b.size) _ (hdN b : Int) _ _ o (gotS b o) w hG had' (fun W => hl_t b W h1) hps r1 hwh r2 hod' hrd r3 r4 r5
end Go.Proofs.YthjbmloemmggaaaGreatDoor
