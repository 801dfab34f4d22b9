/- the texts Vi, in part, merged by program -/
import Derived.Test.YtkpdmgoldngdaaaGreatDoorProg
import Derived.Test.YtkpdmgoldngdaaaGreatDoorRows
import Derived.Deep.RegionHeld3
import Derived.Deep.QuietTactic
import Derived.BigQuiet
import Derived.WalkSmall
import Derived.WalkKit
import Derived.WalkSpells
import Derived.RegionTactic
import Derived.Below
import Derived.Laws.Tables
import Derived.Great.BuildSlice
import Derived.Deep.RegionWith
import Derived.Laws.OwnMore
import Derived.Laws.AppendOwn
import Derived.Laws.AppendOwnNone
import Derived.Deep.LoopGhost
import Derived.Laws.StructEq
import Derived.BigRegion
import Derived.Deep.Light
import Derived.Deep.Cut
import Derived.Deep.CutRange
import Derived.Shelf.Strings.Repeat
import Derived.Deep.MidRow
import Derived.LoopN
import Derived.Test.YtkpdmgoldngdaaaGreatDoorMA01
import Derived.Test.YtkpdmgoldngdaaaGreatDoorMA02
import Derived.Test.YtkpdmgoldngdaaaGreatDoorMA03
import Derived.Test.YtkpdmgoldngdaaaGreatDoorMA04
import Derived.Test.YtkpdmgoldngdaaaGreatDoorMA05
import Derived.Test.YtkpdmgoldngdaaaGreatDoorMA06
import Derived.Test.YtkpdmgoldngdaaaGreatDoorMA07
import Derived.Test.YtkpdmgoldngdaaaGreatDoorMB01
import Derived.Test.YtkpdmgoldngdaaaGreatDoorMB02
import Derived.Test.YtkpdmgoldngdaaaGreatDoorMC01
import Derived.Test.YtkpdmgoldngdaaaGreatDoorMD01
import Derived.Test.YtkpdmgoldngdaaaGreatDoorMD02
import Derived.Test.YtkpdmgoldngdaaaGreatDoorMD03
import Derived.Test.YtkpdmgoldngdaaaGreatDoorMD04
import Derived.Test.YtkpdmgoldngdaaaGreatDoorMD05
import Derived.Test.YtkpdmgoldngdaaaGreatDoorME01
import Derived.Test.YtkpdmgoldngdaaaGreatDoorME02
import Derived.Test.YtkpdmgoldngdaaaGreatDoorMF01
import Derived.Test.YtkpdmgoldngdaaaGreatDoorMG01
import Derived.Test.YtkpdmgoldngdaaaGreatDoorMG02
import Derived.Test.YtkpdmgoldngdaaaGreatDoorMG03
import Derived.Test.YtkpdmgoldngdaaaGreatDoorMG04
import Derived.Test.YtkpdmgoldngdaaaGreatDoorMG05
import Derived.Test.YtkpdmgoldngdaaaGreatDoorMG06
import Derived.Test.YtkpdmgoldngdaaaGreatDoorMH01
import Derived.Test.YtkpdmgoldngdaaaGreatDoorMH02
import Derived.Test.YtkpdmgoldngdaaaGreatDoorMH03
import Derived.Test.YtkpdmgoldngdaaaGreatDoorMH04
import Derived.Test.YtkpdmgoldngdaaaGreatDoorMI01
import Derived.Test.YtkpdmgoldngdaaaGreatDoorMK01
import Derived.Test.YtkpdmgoldngdaaaGreatDoorML01
namespace Go.Proofs.YtkpdmgoldngdaaaGreatDoor
open Go.RowKit
set_option maxRecDepth 100000
set_option linter.unusedVariables false
theorem wrap_next (c : Int) : (c == IntKind.i64.wrap (c + 1)) = false := by
  rw [IntKind.wrap_i64, beq_eq_false_iff_ne]
  omega
set_option maxHeartbeats 4000000 in
theorem told_f (k : TypeId) (x : Value) (l : ByteArray) (a c : Int) (w : World) (hc : (c != 0) = true) (HT : Hid (TF (.iface k x) w l a c)) : Calls Tryz.prog 12 #[.iface k x, .agg #[.int .i64 c, .string l, .int .i64 a]] w fun e w' => e = .returned (.bool true) ∧ Below w.heap.size w w' := by
  have hl := bel1 w (.cells #[.int .i64 c, .string l, .int .i64 a] 43)
  have hA := At.box w #[.int .i64 c, .string l, .int .i64 a] 43
  have hI1 : ∀ W, Below w.heap.size w W → Calls Tryz.prog 33 #[.iface k x, .int .i64 c] W fun e w' => e = .returned (.bool true) ∧ Below W.heap.size W w' := fun W hW => by
    have := (HT.out W hW).2.2 c
    rwa [beq_self_eq_true] at this
  have hI2 : ∀ W, Below w.heap.size w W → Calls Tryz.prog 33 #[.iface k x, .int .i64 (IntKind.i64.wrap (c + 1))] W fun e w' => e = .returned (.bool false) ∧ Below W.heap.size W w' := fun W hW => by
    have := (HT.out W hW).2.2 (IntKind.i64.wrap (c + 1))
    rwa [wrap_next] at this
  have h0 : (c == 0) = false := by simpa using hc
  clear hc
  go_enter Tryz.func12, Tryz.ntmps12
  go_upto_region 1 with fail
  generalize hw0 : w.alloc (.cells #[.int .i64 c, .string l, .int .i64 a] 43) = w0 at *
  clear hw0
  go_wp2_with fail
  refine ((HT.out _ hl).1).mono ?_
  rintro e w1 ⟨rfl, hb⟩
  replace hl := bt hl hb
  replace hA := hA.later hb
  clear hb
  have c0 := (hA.2 0 _ rfl).1
  have c1 := (hA.2 1 _ rfl).1
  have c2 := (hA.2 2 _ rfl).1
  go_upto_region 4 with fail
  clear c0 c1 c2
  refine wp_region_any (by kernel_rfl) ?_
  refine region_facts (fun W => Below w.heap.size w W ∧ At W w.heap.size #[.int .i64 c, .string l, .int .i64 a]) (GE (fun qq => match qq with | 0 => .iface k x | 1 => .bool true | 2 => .bool true | 3 => .bool true | 4 => .bool true | 5 => .bool true | 6 => .string l | 7 => .pointer (some ⟨w.heap.size, 1, none⟩) | 8 => .string l | 9 => .bool true | 10 => .bool true | 11 => .bool true | 12 => .int .i64 a | 13 => .pointer (some ⟨w.heap.size, 2, none⟩) | 14 => .int .i64 a | 15 => .bool true | 16 => .bool true | 17 => .bool true | 18 => .iface k x | 19 => .int .i64 c | 20 => .pointer (some ⟨w.heap.size, 0, none⟩) | 21 => .int .i64 c | 22 => .bool true | 23 => .bool true | 24 => .bool true | 25 => .iface k x | 26 => .pointer (some ⟨w.heap.size, 0, none⟩) | 27 => .int .i64 c | 28 => .bool true | 29 => .bool true | 30 => .bool true | 31 => .iface k x | 32 => .pointer (some ⟨w.heap.size, 0, none⟩) | 33 => .int .i64 c | 34 => .int .i64 (IntKind.i64.wrap (c + 1)) | 35 => .bool false | 36 => .bool true | 37 => .bool true | 38 => .bool true | _ => undef) (fun _ => none)) (n := 79) (by kernel_rfl) rfl (by kernel_rfl) (GE_later _ _ (fun _ _ h => by cases h)) ?_ ?_ ⟨hl.drew, hA.later ((Below.refl _ _).drew)⟩ (Nat.le_refl _)
  · clear hA hl
    refine ⟨?_, ?_, ?_, ?_, ?_, ?_, ?_, ?_, ?_, ?_, ?_, ?_, ?_, ?_, ?_, ?_, ?_, ?_, ?_, ?_, ?_, ?_, ?_, ?_, ?_, ?_, ?_, ?_, ?_, ?_, ?_, ?_, ?_, ?_, ?_, ?_, ?_, ?_, ?_, trivial⟩
    · intro ac w1 hS hT hB hD K hK
      rw [if_pos (by rfl)]
      have d0 : ac.tmps.getD 0 undef = .iface k x := hB 0 (by kernel_rfl)
      clear hB hD hT
      go_simp
      exact hK _ _ hS (Below.refl _ _) rfl
    · intro ac w1 hS hT hB hD K hK
      rw [if_pos (by rfl)]
      have d41 : ac.tmps.getD 41 undef = .iface k x := hD ⟨0, .data⟩ (by simp) rfl _ 41 rfl rfl
      clear hB hD hT
      go_simp
      exact hK _ _ hS (Below.refl _ _) rfl
    · intro ac w1 hS hT hB hD K hK
      rw [if_pos (by rfl)]
      have d42 : ac.tmps.getD 42 undef = .bool true := hD ⟨1, .data⟩ (by simp) rfl _ 42 rfl rfl
      clear hB hD hT
      go_simp
      exact hK _ _ hS (Below.refl _ _) rfl
    · intro ac w1 hS hT hB hD K hK
      have g43 : ac.tmps.getD 43 undef = .bool true := hD ⟨2, .guard⟩ (by simp) rfl _ 43 rfl rfl
      rw [if_pos (want_t (j := 2) (d := 43) rfl rfl g43)]
      clear g43
      have d7 : ac.tmps.getD 7 undef = .bool true := hB 7 (by kernel_rfl)
      clear hB hD hT
      go_simp
      exact hK _ _ hS (Below.refl _ _) rfl
    · intro ac w1 hS hT hB hD K hK
      rw [if_pos (by rfl)]
      have d43 : ac.tmps.getD 43 undef = .bool true := hD ⟨2, .data⟩ (by simp) rfl _ 43 rfl rfl
      have d44 : ac.tmps.getD 44 undef = .bool true := hD ⟨3, .data⟩ (by simp) rfl _ 44 rfl rfl
      clear hB hD hT
      go_simp
      exact hK _ _ hS (Below.refl _ _) rfl
    · intro ac w1 hS hT hB hD K hK
      rw [if_pos (by rfl)]
      have d45 : ac.tmps.getD 45 undef = .bool true := hD ⟨4, .data⟩ (by simp) rfl _ 45 rfl rfl
      clear hB hD hT
      go_simp
      exact hK _ _ hS (Below.refl _ _) rfl
    · intro ac w1 hS hT hB hD K hK
      have g46 : ac.tmps.getD 46 undef = .bool true := hD ⟨5, .guard⟩ (by simp) rfl _ 46 rfl rfl
      rw [if_pos (want_t (j := 5) (d := 46) rfl rfl g46)]
      clear g46
      have d5 : ac.tmps.getD 5 undef = .string l := hB 5 (by kernel_rfl)
      clear hB hD hT
      go_simp
      exact hK _ _ hS (Below.refl _ _) rfl
    · intro ac w1 hS hT hB hD K hK
      have g46 : ac.tmps.getD 46 undef = .bool true := hD ⟨5, .guard⟩ (by simp) rfl _ 46 rfl rfl
      rw [if_pos (want_t (j := 5) (d := 46) rfl rfl g46)]
      clear g46
      have d3 : ac.tmps.getD 3 undef = .pointer (some ⟨w.heap.size, 0, none⟩) := hB 3 (by kernel_rfl)
      clear hB hD hT
      go_simp
      exact hK _ _ hS (Below.refl _ _) rfl
    · intro ac w1 hS hT hB hD K hK
      have g46 : ac.tmps.getD 46 undef = .bool true := hD ⟨5, .guard⟩ (by simp) rfl _ 46 rfl rfl
      rw [if_pos (want_t (j := 5) (d := 46) rfl rfl g46)]
      clear g46
      have d48 : ac.tmps.getD 48 undef = .pointer (some ⟨w.heap.size, 1, none⟩) := hD ⟨7, .data⟩ (by simp) rfl _ 48 rfl rfl
      clear hB hD hT
      have hc := (hS.2.2 1 _ rfl).1
      go_simp
      exact hK _ _ hS (Below.refl _ _) rfl
    · intro ac w1 hS hT hB hD K hK
      have g46 : ac.tmps.getD 46 undef = .bool true := hD ⟨5, .guard⟩ (by simp) rfl _ 46 rfl rfl
      rw [if_pos (want_t (j := 5) (d := 46) rfl rfl g46)]
      clear g46
      have d47 : ac.tmps.getD 47 undef = .string l := hD ⟨6, .data⟩ (by simp) rfl _ 47 rfl rfl
      have d49 : ac.tmps.getD 49 undef = .string l := hD ⟨8, .data⟩ (by simp) rfl _ 49 rfl rfl
      clear hB hD hT
      go_simp
      exact hK _ _ hS (Below.refl _ _) rfl
    · intro ac w1 hS hT hB hD K hK
      rw [if_pos (by rfl)]
      have d46 : ac.tmps.getD 46 undef = .bool true := hD ⟨5, .data⟩ (by simp) rfl _ 46 rfl rfl
      have d50 : ac.tmps.getD 50 undef = .bool true := hD ⟨9, .data⟩ (by simp) rfl _ 50 rfl rfl
      clear hB hD hT
      go_simp
      exact hK _ _ hS (Below.refl _ _) rfl
    · intro ac w1 hS hT hB hD K hK
      rw [if_pos (by rfl)]
      have d51 : ac.tmps.getD 51 undef = .bool true := hD ⟨10, .data⟩ (by simp) rfl _ 51 rfl rfl
      clear hB hD hT
      go_simp
      exact hK _ _ hS (Below.refl _ _) rfl
    · intro ac w1 hS hT hB hD K hK
      have g52 : ac.tmps.getD 52 undef = .bool true := hD ⟨11, .guard⟩ (by simp) rfl _ 52 rfl rfl
      rw [if_pos (want_t (j := 11) (d := 52) rfl rfl g52)]
      clear g52
      have d6 : ac.tmps.getD 6 undef = .int .i64 a := hB 6 (by kernel_rfl)
      clear hB hD hT
      go_simp
      exact hK _ _ hS (Below.refl _ _) rfl
    · intro ac w1 hS hT hB hD K hK
      have g52 : ac.tmps.getD 52 undef = .bool true := hD ⟨11, .guard⟩ (by simp) rfl _ 52 rfl rfl
      rw [if_pos (want_t (j := 11) (d := 52) rfl rfl g52)]
      clear g52
      have d3 : ac.tmps.getD 3 undef = .pointer (some ⟨w.heap.size, 0, none⟩) := hB 3 (by kernel_rfl)
      clear hB hD hT
      go_simp
      exact hK _ _ hS (Below.refl _ _) rfl
    · intro ac w1 hS hT hB hD K hK
      have g52 : ac.tmps.getD 52 undef = .bool true := hD ⟨11, .guard⟩ (by simp) rfl _ 52 rfl rfl
      rw [if_pos (want_t (j := 11) (d := 52) rfl rfl g52)]
      clear g52
      have d54 : ac.tmps.getD 54 undef = .pointer (some ⟨w.heap.size, 2, none⟩) := hD ⟨13, .data⟩ (by simp) rfl _ 54 rfl rfl
      clear hB hD hT
      have hc := (hS.2.2 2 _ rfl).1
      go_simp
      exact hK _ _ hS (Below.refl _ _) rfl
    · intro ac w1 hS hT hB hD K hK
      have g52 : ac.tmps.getD 52 undef = .bool true := hD ⟨11, .guard⟩ (by simp) rfl _ 52 rfl rfl
      rw [if_pos (want_t (j := 11) (d := 52) rfl rfl g52)]
      clear g52
      have d53 : ac.tmps.getD 53 undef = .int .i64 a := hD ⟨12, .data⟩ (by simp) rfl _ 53 rfl rfl
      have d55 : ac.tmps.getD 55 undef = .int .i64 a := hD ⟨14, .data⟩ (by simp) rfl _ 55 rfl rfl
      clear hB hD hT
      go_simp
      exact hK _ _ hS (Below.refl _ _) rfl
    · intro ac w1 hS hT hB hD K hK
      rw [if_pos (by rfl)]
      have d52 : ac.tmps.getD 52 undef = .bool true := hD ⟨11, .data⟩ (by simp) rfl _ 52 rfl rfl
      have d56 : ac.tmps.getD 56 undef = .bool true := hD ⟨15, .data⟩ (by simp) rfl _ 56 rfl rfl
      clear hB hD hT
      go_simp
      exact hK _ _ hS (Below.refl _ _) rfl
    · intro ac w1 hS hT hB hD K hK
      rw [if_pos (by rfl)]
      have d57 : ac.tmps.getD 57 undef = .bool true := hD ⟨16, .data⟩ (by simp) rfl _ 57 rfl rfl
      clear hB hD hT
      go_simp
      exact hK _ _ hS (Below.refl _ _) rfl
    · intro ac w1 hS hT hB hD K hK
      have g58 : ac.tmps.getD 58 undef = .bool true := hD ⟨17, .guard⟩ (by simp) rfl _ 58 rfl rfl
      rw [if_pos (want_t (j := 17) (d := 58) rfl rfl g58)]
      clear g58
      have d0 : ac.tmps.getD 0 undef = .iface k x := hB 0 (by kernel_rfl)
      clear hB hD hT
      go_simp
      exact hK _ _ hS (Below.refl _ _) rfl
    · intro ac w1 hS hT hB hD K hK
      have g58 : ac.tmps.getD 58 undef = .bool true := hD ⟨17, .guard⟩ (by simp) rfl _ 58 rfl rfl
      rw [if_pos (want_t (j := 17) (d := 58) rfl rfl g58)]
      clear g58
      have d59 : ac.tmps.getD 59 undef = .iface k x := hD ⟨18, .data⟩ (by simp) rfl _ 59 rfl rfl
      clear hB hD hT
      go_simp
      refine ((HT.out _ hS.1).2.1).mono ?_
      rintro e w' ⟨rfl, hb⟩
      exact hK _ _ ⟨bt hS.1 hb, hS.2.later hb⟩ hb rfl
    · intro ac w1 hS hT hB hD K hK
      have g58 : ac.tmps.getD 58 undef = .bool true := hD ⟨17, .guard⟩ (by simp) rfl _ 58 rfl rfl
      rw [if_pos (want_t (j := 17) (d := 58) rfl rfl g58)]
      clear g58
      have d3 : ac.tmps.getD 3 undef = .pointer (some ⟨w.heap.size, 0, none⟩) := hB 3 (by kernel_rfl)
      clear hB hD hT
      go_simp
      exact hK _ _ hS (Below.refl _ _) rfl
    · intro ac w1 hS hT hB hD K hK
      have g58 : ac.tmps.getD 58 undef = .bool true := hD ⟨17, .guard⟩ (by simp) rfl _ 58 rfl rfl
      rw [if_pos (want_t (j := 17) (d := 58) rfl rfl g58)]
      clear g58
      have d61 : ac.tmps.getD 61 undef = .pointer (some ⟨w.heap.size, 0, none⟩) := hD ⟨20, .data⟩ (by simp) rfl _ 61 rfl rfl
      clear hB hD hT
      have hc := (hS.2.2 0 _ rfl).1
      go_simp
      exact hK _ _ hS (Below.refl _ _) rfl
    · intro ac w1 hS hT hB hD K hK
      have g58 : ac.tmps.getD 58 undef = .bool true := hD ⟨17, .guard⟩ (by simp) rfl _ 58 rfl rfl
      rw [if_pos (want_t (j := 17) (d := 58) rfl rfl g58)]
      clear g58
      have d60 : ac.tmps.getD 60 undef = .int .i64 c := hD ⟨19, .data⟩ (by simp) rfl _ 60 rfl rfl
      have d62 : ac.tmps.getD 62 undef = .int .i64 c := hD ⟨21, .data⟩ (by simp) rfl _ 62 rfl rfl
      clear hB hD hT
      go_simp
      exact hK _ _ hS (Below.refl _ _) rfl
    · intro ac w1 hS hT hB hD K hK
      rw [if_pos (by rfl)]
      have d58 : ac.tmps.getD 58 undef = .bool true := hD ⟨17, .data⟩ (by simp) rfl _ 58 rfl rfl
      have d63 : ac.tmps.getD 63 undef = .bool true := hD ⟨22, .data⟩ (by simp) rfl _ 63 rfl rfl
      clear hB hD hT
      go_simp
      exact hK _ _ hS (Below.refl _ _) rfl
    · intro ac w1 hS hT hB hD K hK
      rw [if_pos (by rfl)]
      have d64 : ac.tmps.getD 64 undef = .bool true := hD ⟨23, .data⟩ (by simp) rfl _ 64 rfl rfl
      clear hB hD hT
      go_simp
      exact hK _ _ hS (Below.refl _ _) rfl
    · intro ac w1 hS hT hB hD K hK
      have g65 : ac.tmps.getD 65 undef = .bool true := hD ⟨24, .guard⟩ (by simp) rfl _ 65 rfl rfl
      rw [if_pos (want_t (j := 24) (d := 65) rfl rfl g65)]
      clear g65
      have d0 : ac.tmps.getD 0 undef = .iface k x := hB 0 (by kernel_rfl)
      clear hB hD hT
      go_simp
      exact hK _ _ hS (Below.refl _ _) rfl
    · intro ac w1 hS hT hB hD K hK
      have g65 : ac.tmps.getD 65 undef = .bool true := hD ⟨24, .guard⟩ (by simp) rfl _ 65 rfl rfl
      rw [if_pos (want_t (j := 24) (d := 65) rfl rfl g65)]
      clear g65
      have d3 : ac.tmps.getD 3 undef = .pointer (some ⟨w.heap.size, 0, none⟩) := hB 3 (by kernel_rfl)
      clear hB hD hT
      go_simp
      exact hK _ _ hS (Below.refl _ _) rfl
    · intro ac w1 hS hT hB hD K hK
      have g65 : ac.tmps.getD 65 undef = .bool true := hD ⟨24, .guard⟩ (by simp) rfl _ 65 rfl rfl
      rw [if_pos (want_t (j := 24) (d := 65) rfl rfl g65)]
      clear g65
      have d67 : ac.tmps.getD 67 undef = .pointer (some ⟨w.heap.size, 0, none⟩) := hD ⟨26, .data⟩ (by simp) rfl _ 67 rfl rfl
      clear hB hD hT
      have hc := (hS.2.2 0 _ rfl).1
      go_simp
      exact hK _ _ hS (Below.refl _ _) rfl
    · intro ac w1 hS hT hB hD K hK
      have g65 : ac.tmps.getD 65 undef = .bool true := hD ⟨24, .guard⟩ (by simp) rfl _ 65 rfl rfl
      rw [if_pos (want_t (j := 24) (d := 65) rfl rfl g65)]
      clear g65
      have d66 : ac.tmps.getD 66 undef = .iface k x := hD ⟨25, .data⟩ (by simp) rfl _ 66 rfl rfl
      have d68 : ac.tmps.getD 68 undef = .int .i64 c := hD ⟨27, .data⟩ (by simp) rfl _ 68 rfl rfl
      clear hB hD hT
      go_simp
      refine (hI1 _ hS.1).mono ?_
      rintro e w' ⟨rfl, hb⟩
      exact hK _ _ ⟨bt hS.1 hb, hS.2.later hb⟩ hb rfl
    · intro ac w1 hS hT hB hD K hK
      rw [if_pos (by rfl)]
      have d65 : ac.tmps.getD 65 undef = .bool true := hD ⟨24, .data⟩ (by simp) rfl _ 65 rfl rfl
      have d69 : ac.tmps.getD 69 undef = .bool true := hD ⟨28, .data⟩ (by simp) rfl _ 69 rfl rfl
      clear hB hD hT
      go_simp
      exact hK _ _ hS (Below.refl _ _) rfl
    · intro ac w1 hS hT hB hD K hK
      rw [if_pos (by rfl)]
      have d70 : ac.tmps.getD 70 undef = .bool true := hD ⟨29, .data⟩ (by simp) rfl _ 70 rfl rfl
      clear hB hD hT
      go_simp
      exact hK _ _ hS (Below.refl _ _) rfl
    · intro ac w1 hS hT hB hD K hK
      have g71 : ac.tmps.getD 71 undef = .bool true := hD ⟨30, .guard⟩ (by simp) rfl _ 71 rfl rfl
      rw [if_pos (want_t (j := 30) (d := 71) rfl rfl g71)]
      clear g71
      have d0 : ac.tmps.getD 0 undef = .iface k x := hB 0 (by kernel_rfl)
      clear hB hD hT
      go_simp
      exact hK _ _ hS (Below.refl _ _) rfl
    · intro ac w1 hS hT hB hD K hK
      have g71 : ac.tmps.getD 71 undef = .bool true := hD ⟨30, .guard⟩ (by simp) rfl _ 71 rfl rfl
      rw [if_pos (want_t (j := 30) (d := 71) rfl rfl g71)]
      clear g71
      have d3 : ac.tmps.getD 3 undef = .pointer (some ⟨w.heap.size, 0, none⟩) := hB 3 (by kernel_rfl)
      clear hB hD hT
      go_simp
      exact hK _ _ hS (Below.refl _ _) rfl
    · intro ac w1 hS hT hB hD K hK
      have g71 : ac.tmps.getD 71 undef = .bool true := hD ⟨30, .guard⟩ (by simp) rfl _ 71 rfl rfl
      rw [if_pos (want_t (j := 30) (d := 71) rfl rfl g71)]
      clear g71
      have d73 : ac.tmps.getD 73 undef = .pointer (some ⟨w.heap.size, 0, none⟩) := hD ⟨32, .data⟩ (by simp) rfl _ 73 rfl rfl
      clear hB hD hT
      have hc := (hS.2.2 0 _ rfl).1
      go_simp
      exact hK _ _ hS (Below.refl _ _) rfl
    · intro ac w1 hS hT hB hD K hK
      have g71 : ac.tmps.getD 71 undef = .bool true := hD ⟨30, .guard⟩ (by simp) rfl _ 71 rfl rfl
      rw [if_pos (want_t (j := 30) (d := 71) rfl rfl g71)]
      clear g71
      have d74 : ac.tmps.getD 74 undef = .int .i64 c := hD ⟨33, .data⟩ (by simp) rfl _ 74 rfl rfl
      clear hB hD hT
      go_simp
      exact hK _ _ hS (Below.refl _ _) rfl
    · intro ac w1 hS hT hB hD K hK
      have g71 : ac.tmps.getD 71 undef = .bool true := hD ⟨30, .guard⟩ (by simp) rfl _ 71 rfl rfl
      rw [if_pos (want_t (j := 30) (d := 71) rfl rfl g71)]
      clear g71
      have d72 : ac.tmps.getD 72 undef = .iface k x := hD ⟨31, .data⟩ (by simp) rfl _ 72 rfl rfl
      have d75 : ac.tmps.getD 75 undef = .int .i64 (IntKind.i64.wrap (c + 1)) := hD ⟨34, .data⟩ (by simp) rfl _ 75 rfl rfl
      clear hB hD hT
      go_simp
      refine (hI2 _ hS.1).mono ?_
      rintro e w' ⟨rfl, hb⟩
      exact hK _ _ ⟨bt hS.1 hb, hS.2.later hb⟩ hb rfl
    · intro ac w1 hS hT hB hD K hK
      have g71 : ac.tmps.getD 71 undef = .bool true := hD ⟨30, .guard⟩ (by simp) rfl _ 71 rfl rfl
      rw [if_pos (want_t (j := 30) (d := 71) rfl rfl g71)]
      clear g71
      have d76 : ac.tmps.getD 76 undef = .bool false := hD ⟨35, .data⟩ (by simp) rfl _ 76 rfl rfl
      clear hB hD hT
      go_simp
      exact hK _ _ hS (Below.refl _ _) rfl
    · intro ac w1 hS hT hB hD K hK
      rw [if_pos (by rfl)]
      have d71 : ac.tmps.getD 71 undef = .bool true := hD ⟨30, .data⟩ (by simp) rfl _ 71 rfl rfl
      have d77 : ac.tmps.getD 77 undef = .bool true := hD ⟨36, .data⟩ (by simp) rfl _ 77 rfl rfl
      clear hB hD hT
      go_simp
      exact hK _ _ hS (Below.refl _ _) rfl
    · intro ac w1 hS hT hB hD K hK
      rw [if_pos (by rfl)]
      have d78 : ac.tmps.getD 78 undef = .bool true := hD ⟨37, .data⟩ (by simp) rfl _ 78 rfl rfl
      clear hB hD hT
      go_simp
      exact hK _ _ hS (Below.refl _ _) rfl
  · intro ac w9 hS hT hdf hB hF
    clear HT hI1 hI2
    have hfr : ac.tmps = #[.iface k x, .agg #[.int .i64 c, .string l, .int .i64 a], undef, .pointer (some ⟨w.heap.size, 0, none⟩), (ac.tmps.getD 4 undef), .string l, .int .i64 a, .bool true, .tuple #[.string l, .int .i64 a, .bool true], .iface k x, .tuple #[.string l, .int .i64 a, .bool true], .string l, .int .i64 a, .bool true, .pointer (some ⟨w.heap.size, 0, none⟩), .int .i64 c, .bool false, undef, undef, undef, undef, undef, undef, undef, undef, undef, undef, undef, undef, undef, undef, undef, undef, undef, undef, undef, undef, undef, undef, undef, undef, (ac.tmps.getD 41 undef), (ac.tmps.getD 42 undef), (ac.tmps.getD 43 undef), (ac.tmps.getD 44 undef), (ac.tmps.getD 45 undef), (ac.tmps.getD 46 undef), (ac.tmps.getD 47 undef), (ac.tmps.getD 48 undef), (ac.tmps.getD 49 undef), (ac.tmps.getD 50 undef), (ac.tmps.getD 51 undef), (ac.tmps.getD 52 undef), (ac.tmps.getD 53 undef), (ac.tmps.getD 54 undef), (ac.tmps.getD 55 undef), (ac.tmps.getD 56 undef), (ac.tmps.getD 57 undef), (ac.tmps.getD 58 undef), (ac.tmps.getD 59 undef), (ac.tmps.getD 60 undef), (ac.tmps.getD 61 undef), (ac.tmps.getD 62 undef), (ac.tmps.getD 63 undef), (ac.tmps.getD 64 undef), (ac.tmps.getD 65 undef), (ac.tmps.getD 66 undef), (ac.tmps.getD 67 undef), (ac.tmps.getD 68 undef), (ac.tmps.getD 69 undef), (ac.tmps.getD 70 undef), (ac.tmps.getD 71 undef), (ac.tmps.getD 72 undef), (ac.tmps.getD 73 undef), (ac.tmps.getD 74 undef), (ac.tmps.getD 75 undef), (ac.tmps.getD 76 undef), (ac.tmps.getD 77 undef), (ac.tmps.getD 78 undef)] := (frame_eq hT rfl hB).trans (by kernel_rfl)
    obtain ⟨T, df⟩ := ac
    have s4 : T.getD 4 undef = .bool true := hF 38 _ 4 rfl rfl
    have sdf : df = [] := hdf
    simp only at hfr
    clear hB hF hT hdf
    generalize T.getD 41 undef = y41 at *
    generalize T.getD 42 undef = y42 at *
    generalize T.getD 43 undef = y43 at *
    generalize T.getD 44 undef = y44 at *
    generalize T.getD 45 undef = y45 at *
    generalize T.getD 46 undef = y46 at *
    generalize T.getD 47 undef = y47 at *
    generalize T.getD 48 undef = y48 at *
    generalize T.getD 49 undef = y49 at *
    generalize T.getD 50 undef = y50 at *
    generalize T.getD 51 undef = y51 at *
    generalize T.getD 52 undef = y52 at *
    generalize T.getD 53 undef = y53 at *
    generalize T.getD 54 undef = y54 at *
    generalize T.getD 55 undef = y55 at *
    generalize T.getD 56 undef = y56 at *
    generalize T.getD 57 undef = y57 at *
    generalize T.getD 58 undef = y58 at *
    generalize T.getD 59 undef = y59 at *
    generalize T.getD 60 undef = y60 at *
    generalize T.getD 61 undef = y61 at *
    generalize T.getD 62 undef = y62 at *
    generalize T.getD 63 undef = y63 at *
    generalize T.getD 64 undef = y64 at *
    generalize T.getD 65 undef = y65 at *
    generalize T.getD 66 undef = y66 at *
    generalize T.getD 67 undef = y67 at *
    generalize T.getD 68 undef = y68 at *
    generalize T.getD 69 undef = y69 at *
    generalize T.getD 70 undef = y70 at *
    generalize T.getD 71 undef = y71 at *
    generalize T.getD 72 undef = y72 at *
    generalize T.getD 73 undef = y73 at *
    generalize T.getD 74 undef = y74 at *
    generalize T.getD 75 undef = y75 at *
    generalize T.getD 76 undef = y76 at *
    generalize T.getD 77 undef = y77 at *
    generalize T.getD 78 undef = y78 at *
    generalize T.getD 4 undef = y4 at *
    subst hfr s4 sdf
    go_wp2
    go_ret
    exact ⟨rfl, hS.1⟩
end Go.Proofs.YtkpdmgoldngdaaaGreatDoor
