/- the texts Vl, in part, merged by program -/
import Derived.Test.YtkpdmgoldngdaaaGreatDoorProg
import Derived.Test.YtkpdmgoldngdaaaGreatDoorRows
import Derived.Deep.RegionHeld3
import Derived.Deep.QuietTactic
import Derived.BigQuiet
import Derived.WalkSmall
import Derived.WalkKit
import Derived.WalkSpells
import Derived.RegionTactic
import Derived.Below
import Derived.Laws.Tables
import Derived.Great.BuildSlice
import Derived.Deep.RegionWith
import Derived.Laws.OwnMore
import Derived.Laws.AppendOwn
import Derived.Laws.AppendOwnNone
import Derived.Deep.LoopGhost
import Derived.Laws.StructEq
import Derived.BigRegion
import Derived.Deep.Light
import Derived.Deep.Cut
import Derived.Deep.CutRange
import Derived.Shelf.Strings.Repeat
import Derived.Deep.MidRow
import Derived.LoopN
import Derived.Test.YtkpdmgoldngdaaaGreatDoorMA01
import Derived.Test.YtkpdmgoldngdaaaGreatDoorMA02
import Derived.Test.YtkpdmgoldngdaaaGreatDoorMA03
import Derived.Test.YtkpdmgoldngdaaaGreatDoorMA04
import Derived.Test.YtkpdmgoldngdaaaGreatDoorMA05
import Derived.Test.YtkpdmgoldngdaaaGreatDoorMA06
import Derived.Test.YtkpdmgoldngdaaaGreatDoorMA07
import Derived.Test.YtkpdmgoldngdaaaGreatDoorMB01
import Derived.Test.YtkpdmgoldngdaaaGreatDoorMB02
import Derived.Test.YtkpdmgoldngdaaaGreatDoorMC01
import Derived.Test.YtkpdmgoldngdaaaGreatDoorMD01
import Derived.Test.YtkpdmgoldngdaaaGreatDoorMD02
import Derived.Test.YtkpdmgoldngdaaaGreatDoorMD03
import Derived.Test.YtkpdmgoldngdaaaGreatDoorMD04
import Derived.Test.YtkpdmgoldngdaaaGreatDoorMD05
import Derived.Test.YtkpdmgoldngdaaaGreatDoorME01
import Derived.Test.YtkpdmgoldngdaaaGreatDoorME02
import Derived.Test.YtkpdmgoldngdaaaGreatDoorMF01
import Derived.Test.YtkpdmgoldngdaaaGreatDoorMG01
import Derived.Test.YtkpdmgoldngdaaaGreatDoorMG02
import Derived.Test.YtkpdmgoldngdaaaGreatDoorMG03
import Derived.Test.YtkpdmgoldngdaaaGreatDoorMG04
import Derived.Test.YtkpdmgoldngdaaaGreatDoorMG05
import Derived.Test.YtkpdmgoldngdaaaGreatDoorMG06
import Derived.Test.YtkpdmgoldngdaaaGreatDoorMH01
import Derived.Test.YtkpdmgoldngdaaaGreatDoorMH02
import Derived.Test.YtkpdmgoldngdaaaGreatDoorMH03
import Derived.Test.YtkpdmgoldngdaaaGreatDoorMH04
import Derived.Test.YtkpdmgoldngdaaaGreatDoorMI01
import Derived.Test.YtkpdmgoldngdaaaGreatDoorMK01
import Derived.Test.YtkpdmgoldngdaaaGreatDoorML01
import Derived.Test.YtkpdmgoldngdaaaGreatDoorMM01
import Derived.Test.YtkpdmgoldngdaaaGreatDoorMN01
import Derived.Test.YtkpdmgoldngdaaaGreatDoorMN02
import Derived.Test.YtkpdmgoldngdaaaGreatDoorMO01
import Derived.Test.YtkpdmgoldngdaaaGreatDoorMO02
import Derived.Test.YtkpdmgoldngdaaaGreatDoorMO03
import Derived.Test.YtkpdmgoldngdaaaGreatDoorMP01
import Derived.Test.YtkpdmgoldngdaaaGreatDoorMP02
import Derived.Test.YtkpdmgoldngdaaaGreatDoorMP04
import Derived.Test.YtkpdmgoldngdaaaGreatDoorMQ01
import Derived.Test.YtkpdmgoldngdaaaGreatDoorMQ02
import Derived.Test.YtkpdmgoldngdaaaGreatDoorMQ03
import Derived.Test.YtkpdmgoldngdaaaGreatDoorMR01
import Derived.Test.YtkpdmgoldngdaaaGreatDoorMS01
import Derived.Test.YtkpdmgoldngdaaaGreatDoorMS02
import Derived.Test.YtkpdmgoldngdaaaGreatDoorMU01
import Derived.Test.YtkpdmgoldngdaaaGreatDoorMV01
import Derived.Test.YtkpdmgoldngdaaaGreatDoorMX01
import Derived.Test.YtkpdmgoldngdaaaGreatDoorMX02
namespace Go.Proofs.YtkpdmgoldngdaaaGreatDoor
open Go.RowKit
set_option maxRecDepth 100000
set_option linter.unusedVariables false

def TB0 : Prop := ∀ (W : World) (p : Nat), At W p #[.nilIface] → (Calls Tryz.prog 17 #[.iface 54 (.pointer (some ⟨p, 0, none⟩))] W fun e w' => e = .returned (.tuple #[.string ⟨#[]⟩, .int .i64 0, .bool false]) ∧ Below W.heap.size W w') ∧ (Calls Tryz.prog 18 #[.iface 54 (.pointer (some ⟨p, 0, none⟩))] W fun e w' => e = .returned (.int .i64 90) ∧ Below W.heap.size W w') ∧ ∀ b : Int, Calls Tryz.prog 16 #[.iface 54 (.pointer (some ⟨p, 0, none⟩)), .int .i64 b] W fun e w' => e = .returned (.iface 54 (.pointer (some ⟨p, 0, none⟩))) ∧ Below W.heap.size W w'
def TB1 : Prop := ∀ (W : World) (p q : Nat) (l : ByteArray) (a c : Int), OrE W → At W p #[.iface 88 (.pointer (some ⟨q, 0, none⟩))] → At W q (FailV l a c) → TF (.iface 54 (.pointer (some ⟨p, 0, none⟩))) W l a c
def ShB (b : Int) : Prop := ∀ (W : World) (p q : Nat) (l : ByteArray) (a c : Int), OrE W → 0 ≤ a → a ≤ 140737488365328 → At W p #[.iface 88 (.pointer (some ⟨q, 0, none⟩))] → At W q (FailV l a c) → Calls Tryz.prog 16 #[.iface 54 (.pointer (some ⟨p, 0, none⟩)), .int .i64 b] W fun e w' => ∃ r, e = .returned (.iface 88 (.pointer (some ⟨r, 0, none⟩))) ∧ W.heap.size ≤ r ∧ At w' r (FailV l (a + b) c) ∧ Below W.heap.size W w'
theorem built_w (c : Int) (l : ByteArray) (a : Int) : Tryz.prog.built 43 [(0, .int .i64 c), (1, .string l), (2, .int .i64 a)] = some #[.int .i64 c, .string l, .int .i64 a] := by kernel_rfl
set_option maxHeartbeats 4000000 in
theorem po_e (st : ByteArray) (n : Int) (l : ByteArray) (a c : Int) (w : World) (hG : OrE w) (HT : Hid TA) (HB0 : Hid TB0) (HB1 : Hid TB1) (hc : (c != 0) = true) (ha0 : Hid (0 ≤ a)) (ha1 : Hid (a ≤ 140737488355362)) (HSB : Hid (∀ b, -1000 < b → b < 1000 → ShB b))
    (HP : Hid (∀ W, OrE W → Calls Tryz.prog 9 #[.string st] W fun e w' => ∃ p, e = .returned (.tuple #[.agg PZ, .iface 88 (.pointer (some ⟨p, 0, none⟩))]) ∧ W.heap.size ≤ p ∧ At w' p (FailV l a c) ∧ Below W.heap.size W w'))
    (HR : Hid (∀ W, Calls Tryz.prog 10 #[.string st] W fun e w' => e = .returned (.tuple #[.agg PZ, .agg #[.int .i64 c, .string l, .int .i64 a]]) ∧ Below W.heap.size W w')) :
    Calls Tryz.prog 5 #[.string st, .int .i64 n] w fun e w' => e = .returned (.bool true) ∧ Below w.heap.size w w' := by
  go_enter Tryz.func5, Tryz.ntmps5
  go_wp2_with fail
  refine (works_p _ hG HT).mono ?_
  rintro e w4 ⟨rfl, hl⟩
  go_upto_region 3 with fail
  go_cut [5, 6] from 14 (fun q y W => ∃ (B7 B8 : Nat), q = .pointer (some ⟨B7, 0, none⟩) ∧ y = .pointer (some ⟨B8, 0, none⟩) ∧ Below w4.heap.size w4 W ∧ At W B8 #[.int .i64 c, .string l, .int .i64 a])
  case first =>
    go_wp2_with fail
    refine (HR.out _).mono ?_
    rintro e w5 ⟨rfl, hb⟩
    have hX0 : At ((w5.alloc (.cells #[.int .i64 0, .int .i64 0, .int .i64 0, .int .i64 0, .string ⟨#[]⟩, .int .i64 0, .int .i64 0, .int .i64 0, .int .i64 0, .int .i64 0, .int .i64 0, .int .i64 0, .int .i64 0, .int .i64 0, .int .i64 0, .int .i64 0, .bool false, .bool false, .string ⟨#[]⟩, .string ⟨#[]⟩, .int .i64 0, .int .i64 0, .int .i64 0, .int .i64 0, .string ⟨#[]⟩, .int .i64 0, .int .i64 0, .int .i64 0, .int .i64 0, .int .i64 0, .int .i64 0, .int .i64 0, .int .i64 0, .int .i64 0, .int .i64 0, .int .i64 0, .bool false, .bool false, .bool false, .slice none 0 0, .string ⟨#[]⟩] 36)).alloc (.cells #[.int .i64 0, .string ⟨#[]⟩, .int .i64 0] 43)) w5.heap.size PZ := (At.box w5 #[.int .i64 0, .int .i64 0, .int .i64 0, .int .i64 0, .string ⟨#[]⟩, .int .i64 0, .int .i64 0, .int .i64 0, .int .i64 0, .int .i64 0, .int .i64 0, .int .i64 0, .int .i64 0, .int .i64 0, .int .i64 0, .int .i64 0, .bool false, .bool false, .string ⟨#[]⟩, .string ⟨#[]⟩, .int .i64 0, .int .i64 0, .int .i64 0, .int .i64 0, .string ⟨#[]⟩, .int .i64 0, .int .i64 0, .int .i64 0, .int .i64 0, .int .i64 0, .int .i64 0, .int .i64 0, .int .i64 0, .int .i64 0, .int .i64 0, .int .i64 0, .bool false, .bool false, .bool false, .slice none 0 0, .string ⟨#[]⟩] 36).later (bel1 _ _)
    have hY0 : At ((w5.alloc (.cells #[.int .i64 0, .int .i64 0, .int .i64 0, .int .i64 0, .string ⟨#[]⟩, .int .i64 0, .int .i64 0, .int .i64 0, .int .i64 0, .int .i64 0, .int .i64 0, .int .i64 0, .int .i64 0, .int .i64 0, .int .i64 0, .int .i64 0, .bool false, .bool false, .string ⟨#[]⟩, .string ⟨#[]⟩, .int .i64 0, .int .i64 0, .int .i64 0, .int .i64 0, .string ⟨#[]⟩, .int .i64 0, .int .i64 0, .int .i64 0, .int .i64 0, .int .i64 0, .int .i64 0, .int .i64 0, .int .i64 0, .int .i64 0, .int .i64 0, .int .i64 0, .bool false, .bool false, .bool false, .slice none 0 0, .string ⟨#[]⟩] 36)).alloc (.cells #[.int .i64 0, .string ⟨#[]⟩, .int .i64 0] 43)) (w5.heap.size + 1) #[.int .i64 0, .string ⟨#[]⟩, .int .i64 0] := At.box2 w5 (.cells #[.int .i64 0, .int .i64 0, .int .i64 0, .int .i64 0, .string ⟨#[]⟩, .int .i64 0, .int .i64 0, .int .i64 0, .int .i64 0, .int .i64 0, .int .i64 0, .int .i64 0, .int .i64 0, .int .i64 0, .int .i64 0, .int .i64 0, .bool false, .bool false, .string ⟨#[]⟩, .string ⟨#[]⟩, .int .i64 0, .int .i64 0, .int .i64 0, .int .i64 0, .string ⟨#[]⟩, .int .i64 0, .int .i64 0, .int .i64 0, .int .i64 0, .int .i64 0, .int .i64 0, .int .i64 0, .int .i64 0, .int .i64 0, .int .i64 0, .int .i64 0, .bool false, .bool false, .bool false, .slice none 0 0, .string ⟨#[]⟩] 36) #[.int .i64 0, .string ⟨#[]⟩, .int .i64 0] 43
    have hY1 := At.apart (b := w5.heap.size) hY0 (by omega) 0 (PZ).toList
    have hbx : Below w5.heap.size w5 ((((w5.alloc (.cells #[.int .i64 0, .int .i64 0, .int .i64 0, .int .i64 0, .string ⟨#[]⟩, .int .i64 0, .int .i64 0, .int .i64 0, .int .i64 0, .int .i64 0, .int .i64 0, .int .i64 0, .int .i64 0, .int .i64 0, .int .i64 0, .int .i64 0, .bool false, .bool false, .string ⟨#[]⟩, .string ⟨#[]⟩, .int .i64 0, .int .i64 0, .int .i64 0, .int .i64 0, .string ⟨#[]⟩, .int .i64 0, .int .i64 0, .int .i64 0, .int .i64 0, .int .i64 0, .int .i64 0, .int .i64 0, .int .i64 0, .int .i64 0, .int .i64 0, .int .i64 0, .bool false, .bool false, .bool false, .slice none 0 0, .string ⟨#[]⟩] 36)).alloc (.cells #[.int .i64 0, .string ⟨#[]⟩, .int .i64 0] 43)).setCells w5.heap.size 0 (PZ).toList).setCells (w5.heap.size + 1) 0 (#[.int .i64 c, .string l, .int .i64 a]).toList) := Below.setCells (by omega) _ _ _ (Below.setCells (Nat.le_refl _) _ _ _ (bt (bel1 w5 (.cells #[.int .i64 0, .int .i64 0, .int .i64 0, .int .i64 0, .string ⟨#[]⟩, .int .i64 0, .int .i64 0, .int .i64 0, .int .i64 0, .int .i64 0, .int .i64 0, .int .i64 0, .int .i64 0, .int .i64 0, .int .i64 0, .int .i64 0, .bool false, .bool false, .string ⟨#[]⟩, .string ⟨#[]⟩, .int .i64 0, .int .i64 0, .int .i64 0, .int .i64 0, .string ⟨#[]⟩, .int .i64 0, .int .i64 0, .int .i64 0, .int .i64 0, .int .i64 0, .int .i64 0, .int .i64 0, .int .i64 0, .int .i64 0, .int .i64 0, .int .i64 0, .bool false, .bool false, .bool false, .slice none 0 0, .string ⟨#[]⟩] 36)) (bel1 _ _)))
    have hY := At.whole (vs := #[.int .i64 c, .string l, .int .i64 a]) hY1 rfl
    go_wp2_with (refine wpList_store_mid (by rfl) 36 _ _ (by rfl) (w5.heap.size) 0 (PZ) (by rfl) (by rfl) hX0.there size36 PZ_one ?_; refine wpList_store_mid (by rfl) 43 _ _ (by rfl) (w5.heap.size + 1) 0 #[.int .i64 c, .string l, .int .i64 a] (by rfl) (by rfl) hY1.there size43 (by simp [Value.oneCell']) ?_)
    go_wp2
    go_meet
    case rel => exact ⟨w5.heap.size, w5.heap.size + 1, rfl, rfl, bt hb hbx, hY⟩
  case rest =>
  obtain ⟨B7, B8, rfl, rfl, hb4, hY⟩ := hcut
  replace hl := bt hl hb4
  obtain ⟨w3, hw3⟩ : ∃ x, x = wc := ⟨wc, rfl⟩
  subst hw3
  clear hb4 HR
  go_upto_region 4 with fail
  go_cut [7, 8] from 14 (fun q y W => ∃ (B6 p : Nat), q = .pointer (some ⟨B6, 0, none⟩) ∧ y = .iface 88 (.pointer (some ⟨p, 0, none⟩)) ∧ Below w3.heap.size w3 W ∧ At W p (FailV l a c))
  case first =>
    go_wp2_with fail
    refine (HP.out _ (hG.later hl)).mono ?_
    rintro e w5 ⟨p, rfl, hp, hP, hb⟩
    have hX0 : At (w5.alloc (.cells #[.int .i64 0, .int .i64 0, .int .i64 0, .int .i64 0, .string ⟨#[]⟩, .int .i64 0, .int .i64 0, .int .i64 0, .int .i64 0, .int .i64 0, .int .i64 0, .int .i64 0, .int .i64 0, .int .i64 0, .int .i64 0, .int .i64 0, .bool false, .bool false, .string ⟨#[]⟩, .string ⟨#[]⟩, .int .i64 0, .int .i64 0, .int .i64 0, .int .i64 0, .string ⟨#[]⟩, .int .i64 0, .int .i64 0, .int .i64 0, .int .i64 0, .int .i64 0, .int .i64 0, .int .i64 0, .int .i64 0, .int .i64 0, .int .i64 0, .int .i64 0, .bool false, .bool false, .bool false, .slice none 0 0, .string ⟨#[]⟩] 36)) w5.heap.size PZ := At.box w5 #[.int .i64 0, .int .i64 0, .int .i64 0, .int .i64 0, .string ⟨#[]⟩, .int .i64 0, .int .i64 0, .int .i64 0, .int .i64 0, .int .i64 0, .int .i64 0, .int .i64 0, .int .i64 0, .int .i64 0, .int .i64 0, .int .i64 0, .bool false, .bool false, .string ⟨#[]⟩, .string ⟨#[]⟩, .int .i64 0, .int .i64 0, .int .i64 0, .int .i64 0, .string ⟨#[]⟩, .int .i64 0, .int .i64 0, .int .i64 0, .int .i64 0, .int .i64 0, .int .i64 0, .int .i64 0, .int .i64 0, .int .i64 0, .int .i64 0, .int .i64 0, .bool false, .bool false, .bool false, .slice none 0 0, .string ⟨#[]⟩] 36
    have hbx : Below w5.heap.size w5 ((w5.alloc (.cells #[.int .i64 0, .int .i64 0, .int .i64 0, .int .i64 0, .string ⟨#[]⟩, .int .i64 0, .int .i64 0, .int .i64 0, .int .i64 0, .int .i64 0, .int .i64 0, .int .i64 0, .int .i64 0, .int .i64 0, .int .i64 0, .int .i64 0, .bool false, .bool false, .string ⟨#[]⟩, .string ⟨#[]⟩, .int .i64 0, .int .i64 0, .int .i64 0, .int .i64 0, .string ⟨#[]⟩, .int .i64 0, .int .i64 0, .int .i64 0, .int .i64 0, .int .i64 0, .int .i64 0, .int .i64 0, .int .i64 0, .int .i64 0, .int .i64 0, .int .i64 0, .bool false, .bool false, .bool false, .slice none 0 0, .string ⟨#[]⟩] 36)).setCells w5.heap.size 0 (PZ).toList) := Below.setCells (Nat.le_refl _) _ _ _ (bel1 w5 (.cells #[.int .i64 0, .int .i64 0, .int .i64 0, .int .i64 0, .string ⟨#[]⟩, .int .i64 0, .int .i64 0, .int .i64 0, .int .i64 0, .int .i64 0, .int .i64 0, .int .i64 0, .int .i64 0, .int .i64 0, .int .i64 0, .int .i64 0, .bool false, .bool false, .string ⟨#[]⟩, .string ⟨#[]⟩, .int .i64 0, .int .i64 0, .int .i64 0, .int .i64 0, .string ⟨#[]⟩, .int .i64 0, .int .i64 0, .int .i64 0, .int .i64 0, .int .i64 0, .int .i64 0, .int .i64 0, .int .i64 0, .int .i64 0, .int .i64 0, .int .i64 0, .bool false, .bool false, .bool false, .slice none 0 0, .string ⟨#[]⟩] 36))
    have hX : At ((w5.alloc (.cells #[.int .i64 0, .int .i64 0, .int .i64 0, .int .i64 0, .string ⟨#[]⟩, .int .i64 0, .int .i64 0, .int .i64 0, .int .i64 0, .int .i64 0, .int .i64 0, .int .i64 0, .int .i64 0, .int .i64 0, .int .i64 0, .int .i64 0, .bool false, .bool false, .string ⟨#[]⟩, .string ⟨#[]⟩, .int .i64 0, .int .i64 0, .int .i64 0, .int .i64 0, .string ⟨#[]⟩, .int .i64 0, .int .i64 0, .int .i64 0, .int .i64 0, .int .i64 0, .int .i64 0, .int .i64 0, .int .i64 0, .int .i64 0, .int .i64 0, .int .i64 0, .bool false, .bool false, .bool false, .slice none 0 0, .string ⟨#[]⟩] 36)).setCells w5.heap.size 0 (PZ).toList) w5.heap.size (PZ) := At.whole (vs := PZ) hX0 rfl
    go_wp2_with (refine wpList_store_mid (by rfl) 36 _ _ (by rfl) (w5.heap.size) 0 (PZ) (by rfl) (by rfl) hX0.there size36 PZ_one ?_)
    go_wp2
    go_meet
    case rel => exact ⟨w5.heap.size, p, rfl, rfl, bt hb hbx, hP.later hbx⟩
  case rest =>
  obtain ⟨B6, p, rfl, rfl, hb0, hP⟩ := hcut
  replace hl := bt hl hb0
  replace hY := hY.later hb0
  obtain ⟨w9, hw9⟩ : ∃ x, x = wc := ⟨wc, rfl⟩
  subst hw9
  clear hb0 HP
  go_upto_region 5 with fail
  go_cut [1] from 14 (fun q W => W = w9 ∧ ∃ b, q = .int .i64 b ∧ -1000 < b ∧ b < 1000)
  case first =>
    go_wp2
    go_meet
    case rel => exact ⟨rfl, _, rfl, rem_lo n, rem_hi n⟩
  case rest =>
  obtain ⟨rfl, b, rfl, hb0, hb1⟩ := hcut
  obtain ⟨w2, hw2⟩ : ∃ x, x = wc := ⟨wc, rfl⟩
  subst hw2
  have hbu : ∀ W, (Instr.build 56 #[]).run Tryz.prog W = .ok (.agg #[.nilIface]) W := fun W => run_build W 56 #[] _ (by kernel_rfl)
  go_upto_region 6 with fail
  go_cut [9] from 14 (fun q W => ∃ B3 : Nat, q = .iface 54 (.pointer (some ⟨B3, 0, none⟩)) ∧ At W B3 #[.nilIface] ∧ Below w2.heap.size w2 W)
  case first =>
    go_wp2
    go_meet
    case rel => exact ⟨w2.heap.size, rfl, At.box w2 #[.nilIface] 56, bel1 w2 (.cells #[.nilIface] 56)⟩
  case rest =>
  obtain ⟨B3, rfl, hN, hb⟩ := hcut
  replace hl := bt hl hb
  replace hY := hY.later hb
  replace hP := hP.later hb
  clear hb hbu
  go_wp2_with fail
  refine ((HB0.out _ _ hN).1).mono ?_
  rintro e x0 ⟨rfl, hb⟩
  replace hl := bt hl hb
  replace hY := hY.later hb
  replace hP := hP.later hb
  replace hN := hN.later hb
  clear hb
  go_wp2_with fail
  refine ((HB0.out _ _ hN).2.1).mono ?_
  rintro e x1 ⟨rfl, hb⟩
  replace hl := bt hl hb
  replace hY := hY.later hb
  replace hP := hP.later hb
  replace hN := hN.later hb
  clear hb
  go_wp2_with fail
  refine ((HB0.out _ _ hN).2.2 _).mono ?_
  rintro e x2 ⟨rfl, hb⟩
  replace hl := bt hl hb
  replace hY := hY.later hb
  replace hP := hP.later hb
  replace hN := hN.later hb
  clear hb
  go_wp2_with fail
  refine ((HB0.out _ _ hN).2.2 _).mono ?_
  rintro e x3 ⟨rfl, hb⟩
  replace hl := bt hl hb
  replace hY := hY.later hb
  replace hP := hP.later hb
  replace hN := hN.later hb
  clear hb
  go_wp2_with fail
  refine ((HB0.out _ _ hN).2.1).mono ?_
  rintro e x4 ⟨rfl, hb⟩
  replace hl := bt hl hb
  replace hY := hY.later hb
  replace hP := hP.later hb
  replace hN := hN.later hb
  clear hb
  clear hN
  have c0 := (hY.2 0 _ rfl).1
  have h0 : (c == 0) = false := by simpa using hc
  have hbu : ∀ W, (Instr.build 56 #[(0, .iface 88 (.pointer (some ⟨p, 0, none⟩)))]).run Tryz.prog W = .ok (.agg #[.iface 88 (.pointer (some ⟨p, 0, none⟩))]) W := fun W => run_build W 56 _ _ (by kernel_rfl)
  go_upto_region 12 with fail
  clear h0 c0
  go_cut [13] from 14 (fun q W => ∃ B9 : Nat, q = .iface 54 (.pointer (some ⟨B9, 0, none⟩)) ∧ At W B9 #[.iface 88 (.pointer (some ⟨p, 0, none⟩))] ∧ Below x4.heap.size x4 W)
  case first =>
    go_wp2
    go_meet
    case rel => exact ⟨x4.heap.size, rfl, At.box x4 #[.iface 88 (.pointer (some ⟨p, 0, none⟩))] 56, bel1 x4 (.cells #[.iface 88 (.pointer (some ⟨p, 0, none⟩))] 56)⟩
  case rest =>
  obtain ⟨B9, rfl, hX9, hb⟩ := hcut
  replace hl := bt hl hb
  replace hY := hY.later hb
  replace hP := hP.later hb
  clear hb hbu
  obtain ⟨w6, hw6⟩ : ∃ x, x = wc := ⟨wc, rfl⟩
  subst hw6
  have hsb := HSB.out b hb0 hb1
  have hG6 : Hid (OrE w6) := hG.later hl
  have hw : IntKind.i64.wrap (a + b) = a + b := by have := ha0.out; have := ha1.out; rw [IntKind.wrap_i64]; omega
  clear hb0 hb1 HSB
  go_upto_region 13 with fail
  refine wp_region_any (by kernel_rfl) ?_
  refine region_facts (fun W => Below w6.heap.size w6 W) (GE (fun qq => match qq with | 0 => .iface 54 (.pointer (some ⟨B9, 0, none⟩)) | 1 => .agg #[.int .i64 c, .string l, .int .i64 a] | 2 => .bool true | 3 => .bool true | 4 => .iface 54 (.pointer (some ⟨B9, 0, none⟩)) | 5 => .int .i64 b | 7 => .pointer (some ⟨B8, 0, none⟩) | 8 => .int .i64 c | 9 => .pointer (some ⟨B8, 1, none⟩) | 10 => .string l | 11 => .pointer (some ⟨B8, 2, none⟩) | 12 => .int .i64 a | 13 => .int .i64 b | 14 => .int .i64 (a + b) | 15 => .agg #[.int .i64 c, .string l, .int .i64 (a + b)] | 16 => .bool true | 17 => .bool true | 18 => .bool true | _ => undef) (fun qq => match qq with | 6 => some (fun v W => ∃ r, v = .iface 88 (.pointer (some ⟨r, 0, none⟩)) ∧ At W r (FailV l (a + b) c)) | _ => none)) (n := 83) (by kernel_rfl) rfl (by kernel_rfl) (GE_later _ _ (by
      intro i F hF v w w' h hb
      split at hF
      · obtain rfl := Option.some.inj hF
        obtain ⟨p, e, h1⟩ := h
        exact ⟨p, e, h1.later hb⟩
      · cases hF)) ?_ ?_ (Below.refl _ _).drew (Nat.le_refl _)
  · clear hl
    refine ⟨?_, ?_, ?_, ?_, ?_, ?_, ?_, ?_, ?_, ?_, ?_, ?_, ?_, ?_, ?_, ?_, ?_, ?_, ?_, trivial⟩
    · intro ac w1 hS hT hB hD K hK
      rw [if_pos (by rfl)]
      have d13 : ac.tmps.getD 13 undef = .iface 54 (.pointer (some ⟨B9, 0, none⟩)) := hB 13 (by kernel_rfl)
      clear hB hD hT
      go_simp
      exact hK _ _ hS (Below.refl _ _) rfl
    · intro ac w1 hS hT hB hD K hK
      rw [if_pos (by rfl)]
      have d6 : ac.tmps.getD 6 undef = .pointer (some ⟨B8, 0, none⟩) := hB 6 (by kernel_rfl)
      clear hB hD hT
      have c0 := ((hY.later hS).2 0 _ rfl).1
      have c1 := ((hY.later hS).2 1 _ rfl).1
      have c2 := ((hY.later hS).2 2 _ rfl).1
      go_simp
      exact hK _ _ hS (Below.refl _ _) rfl
    · intro ac w1 hS hT hB hD K hK
      rw [if_pos (by rfl)]
      have d65 : ac.tmps.getD 65 undef = .iface 54 (.pointer (some ⟨B9, 0, none⟩)) := hD ⟨0, .data⟩ (by simp) rfl _ 65 rfl rfl
      have d66 : ac.tmps.getD 66 undef = .agg #[.int .i64 c, .string l, .int .i64 a] := hD ⟨1, .data⟩ (by simp) rfl _ 66 rfl rfl
      clear hB hD hT
      go_simp
      refine (told_f _ _ l a c w1 hc (HB1.out _ _ _ _ _ _ (hG6.out.later hS) (hX9.later hS) (hP.later hS))).mono ?_
      rintro e w' ⟨rfl, hb⟩
      exact hK _ _ (bt hS hb) hb rfl
    · intro ac w1 hS hT hB hD K hK
      rw [if_pos (by rfl)]
      have d67 : ac.tmps.getD 67 undef = .bool true := hD ⟨2, .data⟩ (by simp) rfl _ 67 rfl rfl
      clear hB hD hT
      go_simp
      exact hK _ _ hS (Below.refl _ _) rfl
    · intro ac w1 hS hT hB hD K hK
      have g68 : ac.tmps.getD 68 undef = .bool true := hD ⟨3, .guard⟩ (by simp) rfl _ 68 rfl rfl
      rw [if_pos (want_t (j := 3) (d := 68) rfl rfl g68)]
      clear g68
      have d13 : ac.tmps.getD 13 undef = .iface 54 (.pointer (some ⟨B9, 0, none⟩)) := hB 13 (by kernel_rfl)
      clear hB hD hT
      go_simp
      exact hK _ _ hS (Below.refl _ _) rfl
    · intro ac w1 hS hT hB hD K hK
      have g68 : ac.tmps.getD 68 undef = .bool true := hD ⟨3, .guard⟩ (by simp) rfl _ 68 rfl rfl
      rw [if_pos (want_t (j := 3) (d := 68) rfl rfl g68)]
      clear g68
      have d1 : ac.tmps.getD 1 undef = .int .i64 b := hB 1 (by kernel_rfl)
      clear hB hD hT
      go_simp
      exact hK _ _ hS (Below.refl _ _) rfl
    · intro ac w1 hS hT hB hD K hK
      have g68 : ac.tmps.getD 68 undef = .bool true := hD ⟨3, .guard⟩ (by simp) rfl _ 68 rfl rfl
      rw [if_pos (want_t (j := 3) (d := 68) rfl rfl g68)]
      clear g68
      have d69 : ac.tmps.getD 69 undef = .iface 54 (.pointer (some ⟨B9, 0, none⟩)) := hD ⟨4, .data⟩ (by simp) rfl _ 69 rfl rfl
      have d70 : ac.tmps.getD 70 undef = .int .i64 b := hD ⟨5, .data⟩ (by simp) rfl _ 70 rfl rfl
      clear hB hD hT
      go_simp
      refine (hsb _ _ _ _ _ _ (hG6.out.later hS) ha0.out (Int.le_trans ha1.out (by omega)) (hX9.later hS) (hP.later hS)).mono ?_
      rintro e w' ⟨r, rfl, hr, hR, hb⟩
      exact hK _ _ (bt hS hb) hb ⟨r, rfl, hR⟩
    · intro ac w1 hS hT hB hD K hK
      have g68 : ac.tmps.getD 68 undef = .bool true := hD ⟨3, .guard⟩ (by simp) rfl _ 68 rfl rfl
      rw [if_pos (want_t (j := 3) (d := 68) rfl rfl g68)]
      clear g68
      have d6 : ac.tmps.getD 6 undef = .pointer (some ⟨B8, 0, none⟩) := hB 6 (by kernel_rfl)
      clear hB hD hT
      go_simp
      exact hK _ _ hS (Below.refl _ _) rfl
    · intro ac w1 hS hT hB hD K hK
      have g68 : ac.tmps.getD 68 undef = .bool true := hD ⟨3, .guard⟩ (by simp) rfl _ 68 rfl rfl
      rw [if_pos (want_t (j := 3) (d := 68) rfl rfl g68)]
      clear g68
      have d72 : ac.tmps.getD 72 undef = .pointer (some ⟨B8, 0, none⟩) := hD ⟨7, .data⟩ (by simp) rfl _ 72 rfl rfl
      clear hB hD hT
      have c0 := ((hY.later hS).2 0 _ rfl).1
      go_simp
      exact hK _ _ hS (Below.refl _ _) rfl
    · intro ac w1 hS hT hB hD K hK
      have g68 : ac.tmps.getD 68 undef = .bool true := hD ⟨3, .guard⟩ (by simp) rfl _ 68 rfl rfl
      rw [if_pos (want_t (j := 3) (d := 68) rfl rfl g68)]
      clear g68
      have d6 : ac.tmps.getD 6 undef = .pointer (some ⟨B8, 0, none⟩) := hB 6 (by kernel_rfl)
      clear hB hD hT
      go_simp
      exact hK _ _ hS (Below.refl _ _) rfl
    · intro ac w1 hS hT hB hD K hK
      have g68 : ac.tmps.getD 68 undef = .bool true := hD ⟨3, .guard⟩ (by simp) rfl _ 68 rfl rfl
      rw [if_pos (want_t (j := 3) (d := 68) rfl rfl g68)]
      clear g68
      have d74 : ac.tmps.getD 74 undef = .pointer (some ⟨B8, 1, none⟩) := hD ⟨9, .data⟩ (by simp) rfl _ 74 rfl rfl
      clear hB hD hT
      have c1 := ((hY.later hS).2 1 _ rfl).1
      go_simp
      exact hK _ _ hS (Below.refl _ _) rfl
    · intro ac w1 hS hT hB hD K hK
      have g68 : ac.tmps.getD 68 undef = .bool true := hD ⟨3, .guard⟩ (by simp) rfl _ 68 rfl rfl
      rw [if_pos (want_t (j := 3) (d := 68) rfl rfl g68)]
      clear g68
      have d6 : ac.tmps.getD 6 undef = .pointer (some ⟨B8, 0, none⟩) := hB 6 (by kernel_rfl)
      clear hB hD hT
      go_simp
      exact hK _ _ hS (Below.refl _ _) rfl
    · intro ac w1 hS hT hB hD K hK
      have g68 : ac.tmps.getD 68 undef = .bool true := hD ⟨3, .guard⟩ (by simp) rfl _ 68 rfl rfl
      rw [if_pos (want_t (j := 3) (d := 68) rfl rfl g68)]
      clear g68
      have d76 : ac.tmps.getD 76 undef = .pointer (some ⟨B8, 2, none⟩) := hD ⟨11, .data⟩ (by simp) rfl _ 76 rfl rfl
      clear hB hD hT
      have c2 := ((hY.later hS).2 2 _ rfl).1
      go_simp
      exact hK _ _ hS (Below.refl _ _) rfl
    · intro ac w1 hS hT hB hD K hK
      have g68 : ac.tmps.getD 68 undef = .bool true := hD ⟨3, .guard⟩ (by simp) rfl _ 68 rfl rfl
      rw [if_pos (want_t (j := 3) (d := 68) rfl rfl g68)]
      clear g68
      have d1 : ac.tmps.getD 1 undef = .int .i64 b := hB 1 (by kernel_rfl)
      clear hB hD hT
      go_simp
      exact hK _ _ hS (Below.refl _ _) rfl
    · intro ac w1 hS hT hB hD K hK
      have g68 : ac.tmps.getD 68 undef = .bool true := hD ⟨3, .guard⟩ (by simp) rfl _ 68 rfl rfl
      rw [if_pos (want_t (j := 3) (d := 68) rfl rfl g68)]
      clear g68
      have d77 : ac.tmps.getD 77 undef = .int .i64 a := hD ⟨12, .data⟩ (by simp) rfl _ 77 rfl rfl
      have d78 : ac.tmps.getD 78 undef = .int .i64 b := hD ⟨13, .data⟩ (by simp) rfl _ 78 rfl rfl
      clear hB hD hT
      go_simp
      exact hK _ _ hS (Below.refl _ _) rfl
    · intro ac w1 hS hT hB hD K hK
      have g68 : ac.tmps.getD 68 undef = .bool true := hD ⟨3, .guard⟩ (by simp) rfl _ 68 rfl rfl
      rw [if_pos (want_t (j := 3) (d := 68) rfl rfl g68)]
      clear g68
      have d73 : ac.tmps.getD 73 undef = .int .i64 c := hD ⟨8, .data⟩ (by simp) rfl _ 73 rfl rfl
      have d75 : ac.tmps.getD 75 undef = .string l := hD ⟨10, .data⟩ (by simp) rfl _ 75 rfl rfl
      have d79 : ac.tmps.getD 79 undef = .int .i64 (a + b) := hD ⟨14, .data⟩ (by simp) rfl _ 79 rfl rfl
      clear hB hD hT
      exact wp_build3 43 (.tmp 73) (.tmp 75) (.tmp 79) _ _ _ _ rfl d73 d75 d79 (built_w _ _ _) (hK _ _ hS (Below.refl _ _) rfl)
    · intro ac w1 hS hT hB hD K hK
      have g68 : ac.tmps.getD 68 undef = .bool true := hD ⟨3, .guard⟩ (by simp) rfl _ 68 rfl rfl
      rw [if_pos (want_t (j := 3) (d := 68) rfl rfl g68)]
      clear g68
      obtain ⟨r, d71, hR⟩ := hD ⟨6, .data⟩ (by simp) rfl _ 71 rfl rfl
      have d80 : ac.tmps.getD 80 undef = .agg #[.int .i64 c, .string l, .int .i64 (a + b)] := hD ⟨15, .data⟩ (by simp) rfl _ 80 rfl rfl
      clear hB hD hT
      go_simp
      refine (told_f _ _ l (a + b) c w1 hc (HT.out _ _ _ _ _ (hG6.out.later hS) hR)).mono ?_
      rintro e w' ⟨rfl, hb⟩
      exact hK _ _ (bt hS hb) hb rfl
    · intro ac w1 hS hT hB hD K hK
      rw [if_pos (by rfl)]
      have d68 : ac.tmps.getD 68 undef = .bool true := hD ⟨3, .data⟩ (by simp) rfl _ 68 rfl rfl
      have d81 : ac.tmps.getD 81 undef = .bool true := hD ⟨16, .data⟩ (by simp) rfl _ 81 rfl rfl
      clear hB hD hT
      go_simp
      exact hK _ _ hS (Below.refl _ _) rfl
    · intro ac w1 hS hT hB hD K hK
      rw [if_pos (by rfl)]
      have d82 : ac.tmps.getD 82 undef = .bool true := hD ⟨17, .data⟩ (by simp) rfl _ 82 rfl rfl
      clear hB hD hT
      go_simp
      exact hK _ _ hS (Below.refl _ _) rfl
  · intro ac w9 hS hT hdf hB hF
    clear HT HB1 hsb hX9 hP hY
    have hfr : ac.tmps = #[.string st, .int .i64 b, undef, undef, (ac.tmps.getD 4 undef), .pointer (some ⟨B7, 0, none⟩), .pointer (some ⟨B8, 0, none⟩), .pointer (some ⟨B6, 0, none⟩), .iface 88 (.pointer (some ⟨p, 0, none⟩)), .iface 54 (.pointer (some ⟨B3, 0, none⟩)), .string ⟨#[]⟩, .int .i64 0, .bool false, .iface 54 (.pointer (some ⟨B9, 0, none⟩)), u14, u15, u16, u17, u18, u19, u20, u21, u22, u23, u24, u25, u26, u27, u28, u29, u30, u31, u32, u33, u34, u35, u36, u37, u38, u39, u40, u41, u42, u43, u44, u45, u46, u47, u48, u49, u50, u51, u52, u53, u54, u55, u56, u57, u58, u59, u60, u61, u62, u63, u64, (ac.tmps.getD 65 undef), (ac.tmps.getD 66 undef), (ac.tmps.getD 67 undef), (ac.tmps.getD 68 undef), (ac.tmps.getD 69 undef), (ac.tmps.getD 70 undef), (ac.tmps.getD 71 undef), (ac.tmps.getD 72 undef), (ac.tmps.getD 73 undef), (ac.tmps.getD 74 undef), (ac.tmps.getD 75 undef), (ac.tmps.getD 76 undef), (ac.tmps.getD 77 undef), (ac.tmps.getD 78 undef), (ac.tmps.getD 79 undef), (ac.tmps.getD 80 undef), (ac.tmps.getD 81 undef), (ac.tmps.getD 82 undef)] := (frame_eq hT rfl hB).trans (by kernel_rfl)
    obtain ⟨T, df⟩ := ac
    have s4 : T.getD 4 undef = .bool true := hF 18 _ 4 rfl rfl
    have sdf : df = [] := hdf
    simp only at hfr
    clear hB hF hT hdf
    generalize T.getD 65 undef = y65 at *
    generalize T.getD 66 undef = y66 at *
    generalize T.getD 67 undef = y67 at *
    generalize T.getD 68 undef = y68 at *
    generalize T.getD 69 undef = y69 at *
    generalize T.getD 70 undef = y70 at *
    generalize T.getD 71 undef = y71 at *
    generalize T.getD 72 undef = y72 at *
    generalize T.getD 73 undef = y73 at *
    generalize T.getD 74 undef = y74 at *
    generalize T.getD 75 undef = y75 at *
    generalize T.getD 76 undef = y76 at *
    generalize T.getD 77 undef = y77 at *
    generalize T.getD 78 undef = y78 at *
    generalize T.getD 79 undef = y79 at *
    generalize T.getD 80 undef = y80 at *
    generalize T.getD 81 undef = y81 at *
    generalize T.getD 82 undef = y82 at *
    generalize T.getD 4 undef = y4 at *
    subst hfr s4 sdf
    go_wp2
    go_ret
    exact ⟨rfl, bt hl hS⟩
set_option maxHeartbeats 4000000 in
theorem po_y (st : ByteArray) (n : Int) (z : Pd) (w : World) (hG : OrE w) (HT : Hid TA) (HB0 : Hid TB0) 
    (HP : Hid (∀ W, OrE W → Calls Tryz.prog 9 #[.string st] W fun e w' => ∃ v, e = .returned (.tuple #[.agg (z.v v), .nilIface]) ∧ RgA W.heap.size w' v z.sg.o.rs ∧ Below W.heap.size W w'))
    (HR : Hid (∀ W, Calls Tryz.prog 10 #[.string st] W fun e w' => ∃ v, e = .returned (.tuple #[.agg (z.v v), .agg #[.int .i64 0, .string ⟨#[]⟩, .int .i64 0]]) ∧ RgA W.heap.size w' v z.sg.o.rs ∧ Below W.heap.size W w')) :
    Calls Tryz.prog 5 #[.string st, .int .i64 n] w fun e w' => e = .returned (.bool true) ∧ Below w.heap.size w w' := by
  go_enter Tryz.func5, Tryz.ntmps5
  go_wp2_with fail
  refine (works_p _ hG HT).mono ?_
  rintro e w4 ⟨rfl, hl⟩
  go_upto_region 3 with fail
  go_cut [5, 6] from 14 (fun q y W => ∃ (B7 B8 : Nat), q = .pointer (some ⟨B7, 0, none⟩) ∧ y = .pointer (some ⟨B8, 0, none⟩) ∧ Below w4.heap.size w4 W ∧ At W B8 #[.int .i64 0, .string ⟨#[]⟩, .int .i64 0])
  case first =>
    go_wp2_with fail
    refine (HR.out _).mono ?_
    rintro e w5 ⟨v, rfl, hv1, hb⟩
    obtain ⟨a1, cap1, hve, -⟩ := id hv1
    subst hve
    have hX0 : At ((w5.alloc (.cells #[.int .i64 0, .int .i64 0, .int .i64 0, .int .i64 0, .string ⟨#[]⟩, .int .i64 0, .int .i64 0, .int .i64 0, .int .i64 0, .int .i64 0, .int .i64 0, .int .i64 0, .int .i64 0, .int .i64 0, .int .i64 0, .int .i64 0, .bool false, .bool false, .string ⟨#[]⟩, .string ⟨#[]⟩, .int .i64 0, .int .i64 0, .int .i64 0, .int .i64 0, .string ⟨#[]⟩, .int .i64 0, .int .i64 0, .int .i64 0, .int .i64 0, .int .i64 0, .int .i64 0, .int .i64 0, .int .i64 0, .int .i64 0, .int .i64 0, .int .i64 0, .bool false, .bool false, .bool false, .slice none 0 0, .string ⟨#[]⟩] 36)).alloc (.cells #[.int .i64 0, .string ⟨#[]⟩, .int .i64 0] 43)) w5.heap.size PZ := (At.box w5 #[.int .i64 0, .int .i64 0, .int .i64 0, .int .i64 0, .string ⟨#[]⟩, .int .i64 0, .int .i64 0, .int .i64 0, .int .i64 0, .int .i64 0, .int .i64 0, .int .i64 0, .int .i64 0, .int .i64 0, .int .i64 0, .int .i64 0, .bool false, .bool false, .string ⟨#[]⟩, .string ⟨#[]⟩, .int .i64 0, .int .i64 0, .int .i64 0, .int .i64 0, .string ⟨#[]⟩, .int .i64 0, .int .i64 0, .int .i64 0, .int .i64 0, .int .i64 0, .int .i64 0, .int .i64 0, .int .i64 0, .int .i64 0, .int .i64 0, .int .i64 0, .bool false, .bool false, .bool false, .slice none 0 0, .string ⟨#[]⟩] 36).later (bel1 _ _)
    have hY0 : At ((w5.alloc (.cells #[.int .i64 0, .int .i64 0, .int .i64 0, .int .i64 0, .string ⟨#[]⟩, .int .i64 0, .int .i64 0, .int .i64 0, .int .i64 0, .int .i64 0, .int .i64 0, .int .i64 0, .int .i64 0, .int .i64 0, .int .i64 0, .int .i64 0, .bool false, .bool false, .string ⟨#[]⟩, .string ⟨#[]⟩, .int .i64 0, .int .i64 0, .int .i64 0, .int .i64 0, .string ⟨#[]⟩, .int .i64 0, .int .i64 0, .int .i64 0, .int .i64 0, .int .i64 0, .int .i64 0, .int .i64 0, .int .i64 0, .int .i64 0, .int .i64 0, .int .i64 0, .bool false, .bool false, .bool false, .slice none 0 0, .string ⟨#[]⟩] 36)).alloc (.cells #[.int .i64 0, .string ⟨#[]⟩, .int .i64 0] 43)) (w5.heap.size + 1) #[.int .i64 0, .string ⟨#[]⟩, .int .i64 0] := At.box2 w5 (.cells #[.int .i64 0, .int .i64 0, .int .i64 0, .int .i64 0, .string ⟨#[]⟩, .int .i64 0, .int .i64 0, .int .i64 0, .int .i64 0, .int .i64 0, .int .i64 0, .int .i64 0, .int .i64 0, .int .i64 0, .int .i64 0, .int .i64 0, .bool false, .bool false, .string ⟨#[]⟩, .string ⟨#[]⟩, .int .i64 0, .int .i64 0, .int .i64 0, .int .i64 0, .string ⟨#[]⟩, .int .i64 0, .int .i64 0, .int .i64 0, .int .i64 0, .int .i64 0, .int .i64 0, .int .i64 0, .int .i64 0, .int .i64 0, .int .i64 0, .int .i64 0, .bool false, .bool false, .bool false, .slice none 0 0, .string ⟨#[]⟩] 36) #[.int .i64 0, .string ⟨#[]⟩, .int .i64 0] 43
    have hY1 := At.apart (b := w5.heap.size) hY0 (by omega) 0 (z.v (.slice a1 z.sg.o.rs.length cap1)).toList
    have hbx : Below w5.heap.size w5 ((((w5.alloc (.cells #[.int .i64 0, .int .i64 0, .int .i64 0, .int .i64 0, .string ⟨#[]⟩, .int .i64 0, .int .i64 0, .int .i64 0, .int .i64 0, .int .i64 0, .int .i64 0, .int .i64 0, .int .i64 0, .int .i64 0, .int .i64 0, .int .i64 0, .bool false, .bool false, .string ⟨#[]⟩, .string ⟨#[]⟩, .int .i64 0, .int .i64 0, .int .i64 0, .int .i64 0, .string ⟨#[]⟩, .int .i64 0, .int .i64 0, .int .i64 0, .int .i64 0, .int .i64 0, .int .i64 0, .int .i64 0, .int .i64 0, .int .i64 0, .int .i64 0, .int .i64 0, .bool false, .bool false, .bool false, .slice none 0 0, .string ⟨#[]⟩] 36)).alloc (.cells #[.int .i64 0, .string ⟨#[]⟩, .int .i64 0] 43)).setCells w5.heap.size 0 (z.v (.slice a1 z.sg.o.rs.length cap1)).toList).setCells (w5.heap.size + 1) 0 (#[.int .i64 0, .string ⟨#[]⟩, .int .i64 0]).toList) := Below.setCells (by omega) _ _ _ (Below.setCells (Nat.le_refl _) _ _ _ (bt (bel1 w5 (.cells #[.int .i64 0, .int .i64 0, .int .i64 0, .int .i64 0, .string ⟨#[]⟩, .int .i64 0, .int .i64 0, .int .i64 0, .int .i64 0, .int .i64 0, .int .i64 0, .int .i64 0, .int .i64 0, .int .i64 0, .int .i64 0, .int .i64 0, .bool false, .bool false, .string ⟨#[]⟩, .string ⟨#[]⟩, .int .i64 0, .int .i64 0, .int .i64 0, .int .i64 0, .string ⟨#[]⟩, .int .i64 0, .int .i64 0, .int .i64 0, .int .i64 0, .int .i64 0, .int .i64 0, .int .i64 0, .int .i64 0, .int .i64 0, .int .i64 0, .int .i64 0, .bool false, .bool false, .bool false, .slice none 0 0, .string ⟨#[]⟩] 36)) (bel1 _ _)))
    have hY := At.whole (vs := #[.int .i64 0, .string ⟨#[]⟩, .int .i64 0]) hY1 rfl
    go_wp2_with (refine wpList_store_mid (by rfl) 36 _ _ (by rfl) (w5.heap.size) 0 (z.v (.slice a1 z.sg.o.rs.length cap1)) (by rfl) (by rfl) hX0.there size36 (Pd.one _ rfl) ?_; refine wpList_store_mid (by rfl) 43 _ _ (by rfl) (w5.heap.size + 1) 0 #[.int .i64 0, .string ⟨#[]⟩, .int .i64 0] (by rfl) (by rfl) hY1.there size43 (by simp [Value.oneCell']) ?_)
    go_wp2
    go_meet
    case rel => exact ⟨w5.heap.size, w5.heap.size + 1, rfl, rfl, bt hb hbx, hY⟩
  case rest =>
  obtain ⟨B7, B8, rfl, rfl, hb4, hY⟩ := hcut
  replace hl := bt hl hb4
  obtain ⟨w3, hw3⟩ : ∃ x, x = wc := ⟨wc, rfl⟩
  subst hw3
  clear hb4 HR
  go_upto_region 4 with fail
  go_cut [7, 8] from 14 (fun q y W => ∃ (B6 : Nat), q = .pointer (some ⟨B6, 0, none⟩) ∧ y = .nilIface ∧ Below w3.heap.size w3 W)
  case first =>
    go_wp2_with fail
    refine (HP.out _ (hG.later hl)).mono ?_
    rintro e w5 ⟨v, rfl, hv, hb⟩
    obtain ⟨a0, cap0, hve, -⟩ := id hv
    subst hve
    have hX0 : At (w5.alloc (.cells #[.int .i64 0, .int .i64 0, .int .i64 0, .int .i64 0, .string ⟨#[]⟩, .int .i64 0, .int .i64 0, .int .i64 0, .int .i64 0, .int .i64 0, .int .i64 0, .int .i64 0, .int .i64 0, .int .i64 0, .int .i64 0, .int .i64 0, .bool false, .bool false, .string ⟨#[]⟩, .string ⟨#[]⟩, .int .i64 0, .int .i64 0, .int .i64 0, .int .i64 0, .string ⟨#[]⟩, .int .i64 0, .int .i64 0, .int .i64 0, .int .i64 0, .int .i64 0, .int .i64 0, .int .i64 0, .int .i64 0, .int .i64 0, .int .i64 0, .int .i64 0, .bool false, .bool false, .bool false, .slice none 0 0, .string ⟨#[]⟩] 36)) w5.heap.size PZ := At.box w5 #[.int .i64 0, .int .i64 0, .int .i64 0, .int .i64 0, .string ⟨#[]⟩, .int .i64 0, .int .i64 0, .int .i64 0, .int .i64 0, .int .i64 0, .int .i64 0, .int .i64 0, .int .i64 0, .int .i64 0, .int .i64 0, .int .i64 0, .bool false, .bool false, .string ⟨#[]⟩, .string ⟨#[]⟩, .int .i64 0, .int .i64 0, .int .i64 0, .int .i64 0, .string ⟨#[]⟩, .int .i64 0, .int .i64 0, .int .i64 0, .int .i64 0, .int .i64 0, .int .i64 0, .int .i64 0, .int .i64 0, .int .i64 0, .int .i64 0, .int .i64 0, .bool false, .bool false, .bool false, .slice none 0 0, .string ⟨#[]⟩] 36
    have hbx : Below w5.heap.size w5 ((w5.alloc (.cells #[.int .i64 0, .int .i64 0, .int .i64 0, .int .i64 0, .string ⟨#[]⟩, .int .i64 0, .int .i64 0, .int .i64 0, .int .i64 0, .int .i64 0, .int .i64 0, .int .i64 0, .int .i64 0, .int .i64 0, .int .i64 0, .int .i64 0, .bool false, .bool false, .string ⟨#[]⟩, .string ⟨#[]⟩, .int .i64 0, .int .i64 0, .int .i64 0, .int .i64 0, .string ⟨#[]⟩, .int .i64 0, .int .i64 0, .int .i64 0, .int .i64 0, .int .i64 0, .int .i64 0, .int .i64 0, .int .i64 0, .int .i64 0, .int .i64 0, .int .i64 0, .bool false, .bool false, .bool false, .slice none 0 0, .string ⟨#[]⟩] 36)).setCells w5.heap.size 0 (z.v (.slice a0 z.sg.o.rs.length cap0)).toList) := Below.setCells (Nat.le_refl _) _ _ _ (bel1 w5 (.cells #[.int .i64 0, .int .i64 0, .int .i64 0, .int .i64 0, .string ⟨#[]⟩, .int .i64 0, .int .i64 0, .int .i64 0, .int .i64 0, .int .i64 0, .int .i64 0, .int .i64 0, .int .i64 0, .int .i64 0, .int .i64 0, .int .i64 0, .bool false, .bool false, .string ⟨#[]⟩, .string ⟨#[]⟩, .int .i64 0, .int .i64 0, .int .i64 0, .int .i64 0, .string ⟨#[]⟩, .int .i64 0, .int .i64 0, .int .i64 0, .int .i64 0, .int .i64 0, .int .i64 0, .int .i64 0, .int .i64 0, .int .i64 0, .int .i64 0, .int .i64 0, .bool false, .bool false, .bool false, .slice none 0 0, .string ⟨#[]⟩] 36))
    have hX : At ((w5.alloc (.cells #[.int .i64 0, .int .i64 0, .int .i64 0, .int .i64 0, .string ⟨#[]⟩, .int .i64 0, .int .i64 0, .int .i64 0, .int .i64 0, .int .i64 0, .int .i64 0, .int .i64 0, .int .i64 0, .int .i64 0, .int .i64 0, .int .i64 0, .bool false, .bool false, .string ⟨#[]⟩, .string ⟨#[]⟩, .int .i64 0, .int .i64 0, .int .i64 0, .int .i64 0, .string ⟨#[]⟩, .int .i64 0, .int .i64 0, .int .i64 0, .int .i64 0, .int .i64 0, .int .i64 0, .int .i64 0, .int .i64 0, .int .i64 0, .int .i64 0, .int .i64 0, .bool false, .bool false, .bool false, .slice none 0 0, .string ⟨#[]⟩] 36)).setCells w5.heap.size 0 (z.v (.slice a0 z.sg.o.rs.length cap0)).toList) w5.heap.size (z.v (.slice a0 z.sg.o.rs.length cap0)) := At.whole (vs := z.v (.slice a0 z.sg.o.rs.length cap0)) hX0 rfl
    go_wp2_with (refine wpList_store_mid (by rfl) 36 _ _ (by rfl) (w5.heap.size) 0 (z.v (.slice a0 z.sg.o.rs.length cap0)) (by rfl) (by rfl) hX0.there size36 (Pd.one _ rfl) ?_)
    go_wp2
    go_meet
    case rel => exact ⟨w5.heap.size, rfl, rfl, bt hb hbx⟩
  case rest =>
  obtain ⟨B6, rfl, rfl, hb0⟩ := hcut
  replace hl := bt hl hb0
  replace hY := hY.later hb0
  obtain ⟨w9, hw9⟩ : ∃ x, x = wc := ⟨wc, rfl⟩
  subst hw9
  clear hb0 HP
  go_upto_region 5 with fail
  go_cut [1] from 14 (fun q W => W = w9 ∧ ∃ b, q = .int .i64 b ∧ -1000 < b ∧ b < 1000)
  case first =>
    go_wp2
    go_meet
    case rel => exact ⟨rfl, _, rfl, rem_lo n, rem_hi n⟩
  case rest =>
  obtain ⟨rfl, b, rfl, hb0, hb1⟩ := hcut
  obtain ⟨w2, hw2⟩ : ∃ x, x = wc := ⟨wc, rfl⟩
  subst hw2
  have hbu : ∀ W, (Instr.build 56 #[]).run Tryz.prog W = .ok (.agg #[.nilIface]) W := fun W => run_build W 56 #[] _ (by kernel_rfl)
  go_upto_region 6 with fail
  go_cut [9] from 14 (fun q W => ∃ B3 : Nat, q = .iface 54 (.pointer (some ⟨B3, 0, none⟩)) ∧ At W B3 #[.nilIface] ∧ Below w2.heap.size w2 W)
  case first =>
    go_wp2
    go_meet
    case rel => exact ⟨w2.heap.size, rfl, At.box w2 #[.nilIface] 56, bel1 w2 (.cells #[.nilIface] 56)⟩
  case rest =>
  obtain ⟨B3, rfl, hN, hb⟩ := hcut
  replace hl := bt hl hb
  replace hY := hY.later hb
  clear hb hbu
  go_wp2_with fail
  refine ((HB0.out _ _ hN).1).mono ?_
  rintro e x0 ⟨rfl, hb⟩
  replace hl := bt hl hb
  replace hY := hY.later hb
  replace hN := hN.later hb
  clear hb
  go_wp2_with fail
  refine ((HB0.out _ _ hN).2.1).mono ?_
  rintro e x1 ⟨rfl, hb⟩
  replace hl := bt hl hb
  replace hY := hY.later hb
  replace hN := hN.later hb
  clear hb
  go_wp2_with fail
  refine ((HB0.out _ _ hN).2.2 _).mono ?_
  rintro e x2 ⟨rfl, hb⟩
  replace hl := bt hl hb
  replace hY := hY.later hb
  replace hN := hN.later hb
  clear hb
  go_wp2_with fail
  refine ((HB0.out _ _ hN).2.2 _).mono ?_
  rintro e x3 ⟨rfl, hb⟩
  replace hl := bt hl hb
  replace hY := hY.later hb
  replace hN := hN.later hb
  clear hb
  go_wp2_with fail
  refine ((HB0.out _ _ hN).2.1).mono ?_
  rintro e x4 ⟨rfl, hb⟩
  replace hl := bt hl hb
  replace hY := hY.later hb
  replace hN := hN.later hb
  clear hb
  clear hN
  have c0 := (hY.2 0 _ rfl).1
  go_wp2
  go_ret
  exact ⟨rfl, hl⟩
theorem po_any (st : ByteArray) (n : Int) (w : World) (hG : OrE w) (hs : st.size ≤ 140737488351232) (HSN : ShNil) (HSF : ShFail 14) (HT : TA) (HB0 : TB0) (HB1 : TB1) (HSB : ∀ b, -1000 < b → b < 1000 → ShB b) : Calls Tryz.prog 5 #[.string st, .int .i64 n] w fun e w' => e = .returned (.bool true) ∧ Below w.heap.size w w' := by
  obtain ⟨r, h1, h2, hr⟩ := par_both st hs HSN HSF
  cases r with
  | error q =>
    obtain ⟨l, a, c⟩ := q
    exact po_e st n l a c w hG HT HB0 HB1 hr.2.2 hr.1 hr.2.1 HSB h1 h2
  | ok z => exact po_y st n z w hG HT HB0 h1 h2
end Go.Proofs.YtkpdmgoldngdaaaGreatDoor
