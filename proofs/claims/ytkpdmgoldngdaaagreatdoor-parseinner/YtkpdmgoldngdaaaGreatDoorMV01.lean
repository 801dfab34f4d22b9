/- the texts Vk, in part, merged by program -/
import Derived.Test.YtkpdmgoldngdaaaGreatDoorProg
import Derived.Test.YtkpdmgoldngdaaaGreatDoorRows
import Derived.Deep.RegionHeld3
import Derived.Deep.QuietTactic
import Derived.BigQuiet
import Derived.WalkSmall
import Derived.WalkKit
import Derived.WalkSpells
import Derived.RegionTactic
import Derived.Below
import Derived.Laws.Tables
import Derived.Great.BuildSlice
import Derived.Deep.RegionWith
import Derived.Laws.OwnMore
import Derived.Laws.AppendOwn
import Derived.Laws.AppendOwnNone
import Derived.Deep.LoopGhost
import Derived.Laws.StructEq
import Derived.BigRegion
import Derived.Deep.Light
import Derived.Deep.Cut
import Derived.Deep.CutRange
import Derived.Shelf.Strings.Repeat
import Derived.Deep.MidRow
import Derived.LoopN
import Derived.Test.YtkpdmgoldngdaaaGreatDoorMA01
import Derived.Test.YtkpdmgoldngdaaaGreatDoorMA02
import Derived.Test.YtkpdmgoldngdaaaGreatDoorMA03
import Derived.Test.YtkpdmgoldngdaaaGreatDoorMA04
import Derived.Test.YtkpdmgoldngdaaaGreatDoorMA05
import Derived.Test.YtkpdmgoldngdaaaGreatDoorMA06
import Derived.Test.YtkpdmgoldngdaaaGreatDoorMA07
import Derived.Test.YtkpdmgoldngdaaaGreatDoorMB01
import Derived.Test.YtkpdmgoldngdaaaGreatDoorMB02
import Derived.Test.YtkpdmgoldngdaaaGreatDoorMC01
import Derived.Test.YtkpdmgoldngdaaaGreatDoorMD01
import Derived.Test.YtkpdmgoldngdaaaGreatDoorMD02
import Derived.Test.YtkpdmgoldngdaaaGreatDoorMD03
import Derived.Test.YtkpdmgoldngdaaaGreatDoorMD04
import Derived.Test.YtkpdmgoldngdaaaGreatDoorMD05
import Derived.Test.YtkpdmgoldngdaaaGreatDoorME01
import Derived.Test.YtkpdmgoldngdaaaGreatDoorME02
import Derived.Test.YtkpdmgoldngdaaaGreatDoorMF01
import Derived.Test.YtkpdmgoldngdaaaGreatDoorMG01
import Derived.Test.YtkpdmgoldngdaaaGreatDoorMG02
import Derived.Test.YtkpdmgoldngdaaaGreatDoorMG03
import Derived.Test.YtkpdmgoldngdaaaGreatDoorMG04
import Derived.Test.YtkpdmgoldngdaaaGreatDoorMG05
import Derived.Test.YtkpdmgoldngdaaaGreatDoorMG06
import Derived.Test.YtkpdmgoldngdaaaGreatDoorMH01
import Derived.Test.YtkpdmgoldngdaaaGreatDoorMH02
import Derived.Test.YtkpdmgoldngdaaaGreatDoorMH03
import Derived.Test.YtkpdmgoldngdaaaGreatDoorMH04
import Derived.Test.YtkpdmgoldngdaaaGreatDoorMI01
import Derived.Test.YtkpdmgoldngdaaaGreatDoorMK01
import Derived.Test.YtkpdmgoldngdaaaGreatDoorML01
import Derived.Test.YtkpdmgoldngdaaaGreatDoorMM01
import Derived.Test.YtkpdmgoldngdaaaGreatDoorMN01
import Derived.Test.YtkpdmgoldngdaaaGreatDoorMN02
import Derived.Test.YtkpdmgoldngdaaaGreatDoorMO01
import Derived.Test.YtkpdmgoldngdaaaGreatDoorMO02
import Derived.Test.YtkpdmgoldngdaaaGreatDoorMO03
import Derived.Test.YtkpdmgoldngdaaaGreatDoorMP01
import Derived.Test.YtkpdmgoldngdaaaGreatDoorMP02
import Derived.Test.YtkpdmgoldngdaaaGreatDoorMP04
import Derived.Test.YtkpdmgoldngdaaaGreatDoorMQ01
import Derived.Test.YtkpdmgoldngdaaaGreatDoorMQ02
import Derived.Test.YtkpdmgoldngdaaaGreatDoorMQ03
import Derived.Test.YtkpdmgoldngdaaaGreatDoorMR01
import Derived.Test.YtkpdmgoldngdaaaGreatDoorMS01
import Derived.Test.YtkpdmgoldngdaaaGreatDoorMS02
import Derived.Test.YtkpdmgoldngdaaaGreatDoorMU01
namespace Go.Proofs.YtkpdmgoldngdaaaGreatDoor
open Go.RowKit
set_option maxRecDepth 100000
set_option linter.unusedVariables false
set_option maxHeartbeats 4000000 in
theorem pi_e (x : PkT) (n : Int) (l : ByteArray) (a c : Int) (w : World) (hG : OrE w) (HT : Hid TA) (HN : Hid TN) (hc : (c != 0) = true) (ha0 : Hid (0 ≤ a)) (ha1 : Hid (a ≤ 140737488355362)) (HSF : Hid (∀ b, -1000 < b → b < 1000 → ShFail b))
    (HP : Hid (∀ W, OrE W → Calls Tryz.prog 14 #[.agg #[.int .i64 x.f, .int .i64 x.t, .int .i64 x.tl, .int .i64 x.pr, .int .i64 x.id, .int .i64 x.fg, .bool x.mo, .bool x.dn, .string x.op, .string x.da]] W fun e w' => ∃ p, e = .returned (.tuple #[.agg PZ, .iface 88 (.pointer (some ⟨p, 0, none⟩))]) ∧ W.heap.size ≤ p ∧ At w' p (FailV l a c) ∧ Below W.heap.size W w'))
    (HR : Hid (∀ W, Calls Tryz.prog 15 #[.agg #[.int .i64 x.f, .int .i64 x.t, .int .i64 x.tl, .int .i64 x.pr, .int .i64 x.id, .int .i64 x.fg, .bool x.mo, .bool x.dn, .string x.op, .string x.da]] W fun e w' => e = .returned (.tuple #[.agg PZ, .agg #[.int .i64 c, .string l, .int .i64 a]]) ∧ Below W.heap.size W w')) :
    Calls Tryz.prog 4 #[.agg #[.int .i64 x.f, .int .i64 x.t, .int .i64 x.tl, .int .i64 x.pr, .int .i64 x.id, .int .i64 x.fg, .bool x.mo, .bool x.dn, .string x.op, .string x.da], .int .i64 n] w fun e w' => e = .returned (.bool true) ∧ Below w.heap.size w w' := by
  have hl := bel1 w (.cells #[.int .i64 x.f, .int .i64 x.t, .int .i64 x.tl, .int .i64 x.pr, .int .i64 x.id, .int .i64 x.fg, .bool x.mo, .bool x.dn, .string x.op, .string x.da] 27)
  have hA := At.box w #[.int .i64 x.f, .int .i64 x.t, .int .i64 x.tl, .int .i64 x.pr, .int .i64 x.id, .int .i64 x.fg, .bool x.mo, .bool x.dn, .string x.op, .string x.da] 27
  go_enter Tryz.func4, Tryz.ntmps4
  go_upto_region 1 with fail
  generalize hw0 : w.alloc (.cells #[.int .i64 x.f, .int .i64 x.t, .int .i64 x.tl, .int .i64 x.pr, .int .i64 x.id, .int .i64 x.fg, .bool x.mo, .bool x.dn, .string x.op, .string x.da] 27) = w0 at *
  clear hw0
  go_cut [5, 6] from 10 (fun q y W => ∃ (B6 p : Nat), q = .pointer (some ⟨B6, 0, none⟩) ∧ y = .iface 88 (.pointer (some ⟨p, 0, none⟩)) ∧ Below w0.heap.size w0 W ∧ At W p (FailV l a c) ∧ At W B6 PZ)
  case first =>
    go_wp2_with (refine wpList_loadG 27 _ (by rfl) (by rfl) w.heap.size 0 (by rfl) _ _ hA.range Tryz.underlying27 rfl size27 ?_)
    refine (HP.out _ (hG.later hl)).mono ?_
    rintro e w5 ⟨p, rfl, hp, hP, hb⟩
    have hX0 : At (w5.alloc (.cells #[.int .i64 0, .int .i64 0, .int .i64 0, .int .i64 0, .string ⟨#[]⟩, .int .i64 0, .int .i64 0, .int .i64 0, .int .i64 0, .int .i64 0, .int .i64 0, .int .i64 0, .int .i64 0, .int .i64 0, .int .i64 0, .int .i64 0, .bool false, .bool false, .string ⟨#[]⟩, .string ⟨#[]⟩, .int .i64 0, .int .i64 0, .int .i64 0, .int .i64 0, .string ⟨#[]⟩, .int .i64 0, .int .i64 0, .int .i64 0, .int .i64 0, .int .i64 0, .int .i64 0, .int .i64 0, .int .i64 0, .int .i64 0, .int .i64 0, .int .i64 0, .bool false, .bool false, .bool false, .slice none 0 0, .string ⟨#[]⟩] 36)) w5.heap.size PZ := At.box w5 #[.int .i64 0, .int .i64 0, .int .i64 0, .int .i64 0, .string ⟨#[]⟩, .int .i64 0, .int .i64 0, .int .i64 0, .int .i64 0, .int .i64 0, .int .i64 0, .int .i64 0, .int .i64 0, .int .i64 0, .int .i64 0, .int .i64 0, .bool false, .bool false, .string ⟨#[]⟩, .string ⟨#[]⟩, .int .i64 0, .int .i64 0, .int .i64 0, .int .i64 0, .string ⟨#[]⟩, .int .i64 0, .int .i64 0, .int .i64 0, .int .i64 0, .int .i64 0, .int .i64 0, .int .i64 0, .int .i64 0, .int .i64 0, .int .i64 0, .int .i64 0, .bool false, .bool false, .bool false, .slice none 0 0, .string ⟨#[]⟩] 36
    have hbx : Below w5.heap.size w5 ((w5.alloc (.cells #[.int .i64 0, .int .i64 0, .int .i64 0, .int .i64 0, .string ⟨#[]⟩, .int .i64 0, .int .i64 0, .int .i64 0, .int .i64 0, .int .i64 0, .int .i64 0, .int .i64 0, .int .i64 0, .int .i64 0, .int .i64 0, .int .i64 0, .bool false, .bool false, .string ⟨#[]⟩, .string ⟨#[]⟩, .int .i64 0, .int .i64 0, .int .i64 0, .int .i64 0, .string ⟨#[]⟩, .int .i64 0, .int .i64 0, .int .i64 0, .int .i64 0, .int .i64 0, .int .i64 0, .int .i64 0, .int .i64 0, .int .i64 0, .int .i64 0, .int .i64 0, .bool false, .bool false, .bool false, .slice none 0 0, .string ⟨#[]⟩] 36)).setCells w5.heap.size 0 (PZ).toList) := Below.setCells (Nat.le_refl _) _ _ _ (bel1 w5 (.cells #[.int .i64 0, .int .i64 0, .int .i64 0, .int .i64 0, .string ⟨#[]⟩, .int .i64 0, .int .i64 0, .int .i64 0, .int .i64 0, .int .i64 0, .int .i64 0, .int .i64 0, .int .i64 0, .int .i64 0, .int .i64 0, .int .i64 0, .bool false, .bool false, .string ⟨#[]⟩, .string ⟨#[]⟩, .int .i64 0, .int .i64 0, .int .i64 0, .int .i64 0, .string ⟨#[]⟩, .int .i64 0, .int .i64 0, .int .i64 0, .int .i64 0, .int .i64 0, .int .i64 0, .int .i64 0, .int .i64 0, .int .i64 0, .int .i64 0, .int .i64 0, .bool false, .bool false, .bool false, .slice none 0 0, .string ⟨#[]⟩] 36))
    have hX : At ((w5.alloc (.cells #[.int .i64 0, .int .i64 0, .int .i64 0, .int .i64 0, .string ⟨#[]⟩, .int .i64 0, .int .i64 0, .int .i64 0, .int .i64 0, .int .i64 0, .int .i64 0, .int .i64 0, .int .i64 0, .int .i64 0, .int .i64 0, .int .i64 0, .bool false, .bool false, .string ⟨#[]⟩, .string ⟨#[]⟩, .int .i64 0, .int .i64 0, .int .i64 0, .int .i64 0, .string ⟨#[]⟩, .int .i64 0, .int .i64 0, .int .i64 0, .int .i64 0, .int .i64 0, .int .i64 0, .int .i64 0, .int .i64 0, .int .i64 0, .int .i64 0, .int .i64 0, .bool false, .bool false, .bool false, .slice none 0 0, .string ⟨#[]⟩] 36)).setCells w5.heap.size 0 (PZ).toList) w5.heap.size (PZ) := At.whole (vs := PZ) hX0 rfl
    go_wp2_with (refine wpList_store_mid (by rfl) 36 _ _ (by rfl) (w5.heap.size) 0 (PZ) (by rfl) (by rfl) hX0.there size36 PZ_one ?_)
    go_wp2
    go_meet
    case rel => exact ⟨w5.heap.size, p, rfl, rfl, bt hb hbx, hP.later hbx, hX⟩
  case rest =>
  obtain ⟨B6, p, rfl, rfl, hb0, hP, hXA⟩ := hcut
  replace hl := bt hl hb0
  replace hA := hA.later hb0
  obtain ⟨w4, hw4⟩ : ∃ x, x = wc := ⟨wc, rfl⟩
  subst hw4
  clear hb0
  go_upto_region 2 with fail
  go_cut [7, 8] from 10 (fun q y W => ∃ (B7 B8 : Nat), q = .pointer (some ⟨B7, 0, none⟩) ∧ y = .pointer (some ⟨B8, 0, none⟩) ∧ Below w4.heap.size w4 W ∧ At W B7 PZ ∧ At W B8 #[.int .i64 c, .string l, .int .i64 a])
  case first =>
    go_wp2_with (refine wpList_loadG 27 _ (by rfl) (by rfl) w.heap.size 0 (by rfl) _ _ hA.range Tryz.underlying27 rfl size27 ?_)
    refine (HR.out _).mono ?_
    rintro e w5 ⟨rfl, hb⟩
    have hX0 : At ((w5.alloc (.cells #[.int .i64 0, .int .i64 0, .int .i64 0, .int .i64 0, .string ⟨#[]⟩, .int .i64 0, .int .i64 0, .int .i64 0, .int .i64 0, .int .i64 0, .int .i64 0, .int .i64 0, .int .i64 0, .int .i64 0, .int .i64 0, .int .i64 0, .bool false, .bool false, .string ⟨#[]⟩, .string ⟨#[]⟩, .int .i64 0, .int .i64 0, .int .i64 0, .int .i64 0, .string ⟨#[]⟩, .int .i64 0, .int .i64 0, .int .i64 0, .int .i64 0, .int .i64 0, .int .i64 0, .int .i64 0, .int .i64 0, .int .i64 0, .int .i64 0, .int .i64 0, .bool false, .bool false, .bool false, .slice none 0 0, .string ⟨#[]⟩] 36)).alloc (.cells #[.int .i64 0, .string ⟨#[]⟩, .int .i64 0] 43)) w5.heap.size PZ := (At.box w5 #[.int .i64 0, .int .i64 0, .int .i64 0, .int .i64 0, .string ⟨#[]⟩, .int .i64 0, .int .i64 0, .int .i64 0, .int .i64 0, .int .i64 0, .int .i64 0, .int .i64 0, .int .i64 0, .int .i64 0, .int .i64 0, .int .i64 0, .bool false, .bool false, .string ⟨#[]⟩, .string ⟨#[]⟩, .int .i64 0, .int .i64 0, .int .i64 0, .int .i64 0, .string ⟨#[]⟩, .int .i64 0, .int .i64 0, .int .i64 0, .int .i64 0, .int .i64 0, .int .i64 0, .int .i64 0, .int .i64 0, .int .i64 0, .int .i64 0, .int .i64 0, .bool false, .bool false, .bool false, .slice none 0 0, .string ⟨#[]⟩] 36).later (bel1 _ _)
    have hY0 : At ((w5.alloc (.cells #[.int .i64 0, .int .i64 0, .int .i64 0, .int .i64 0, .string ⟨#[]⟩, .int .i64 0, .int .i64 0, .int .i64 0, .int .i64 0, .int .i64 0, .int .i64 0, .int .i64 0, .int .i64 0, .int .i64 0, .int .i64 0, .int .i64 0, .bool false, .bool false, .string ⟨#[]⟩, .string ⟨#[]⟩, .int .i64 0, .int .i64 0, .int .i64 0, .int .i64 0, .string ⟨#[]⟩, .int .i64 0, .int .i64 0, .int .i64 0, .int .i64 0, .int .i64 0, .int .i64 0, .int .i64 0, .int .i64 0, .int .i64 0, .int .i64 0, .int .i64 0, .bool false, .bool false, .bool false, .slice none 0 0, .string ⟨#[]⟩] 36)).alloc (.cells #[.int .i64 0, .string ⟨#[]⟩, .int .i64 0] 43)) (w5.heap.size + 1) #[.int .i64 0, .string ⟨#[]⟩, .int .i64 0] := At.box2 w5 (.cells #[.int .i64 0, .int .i64 0, .int .i64 0, .int .i64 0, .string ⟨#[]⟩, .int .i64 0, .int .i64 0, .int .i64 0, .int .i64 0, .int .i64 0, .int .i64 0, .int .i64 0, .int .i64 0, .int .i64 0, .int .i64 0, .int .i64 0, .bool false, .bool false, .string ⟨#[]⟩, .string ⟨#[]⟩, .int .i64 0, .int .i64 0, .int .i64 0, .int .i64 0, .string ⟨#[]⟩, .int .i64 0, .int .i64 0, .int .i64 0, .int .i64 0, .int .i64 0, .int .i64 0, .int .i64 0, .int .i64 0, .int .i64 0, .int .i64 0, .int .i64 0, .bool false, .bool false, .bool false, .slice none 0 0, .string ⟨#[]⟩] 36) #[.int .i64 0, .string ⟨#[]⟩, .int .i64 0] 43
    have hY1 := At.apart (b := w5.heap.size) hY0 (by omega) 0 (PZ).toList
    have hbx : Below w5.heap.size w5 ((((w5.alloc (.cells #[.int .i64 0, .int .i64 0, .int .i64 0, .int .i64 0, .string ⟨#[]⟩, .int .i64 0, .int .i64 0, .int .i64 0, .int .i64 0, .int .i64 0, .int .i64 0, .int .i64 0, .int .i64 0, .int .i64 0, .int .i64 0, .int .i64 0, .bool false, .bool false, .string ⟨#[]⟩, .string ⟨#[]⟩, .int .i64 0, .int .i64 0, .int .i64 0, .int .i64 0, .string ⟨#[]⟩, .int .i64 0, .int .i64 0, .int .i64 0, .int .i64 0, .int .i64 0, .int .i64 0, .int .i64 0, .int .i64 0, .int .i64 0, .int .i64 0, .int .i64 0, .bool false, .bool false, .bool false, .slice none 0 0, .string ⟨#[]⟩] 36)).alloc (.cells #[.int .i64 0, .string ⟨#[]⟩, .int .i64 0] 43)).setCells w5.heap.size 0 (PZ).toList).setCells (w5.heap.size + 1) 0 (#[.int .i64 c, .string l, .int .i64 a]).toList) := Below.setCells (by omega) _ _ _ (Below.setCells (Nat.le_refl _) _ _ _ (bt (bel1 w5 (.cells #[.int .i64 0, .int .i64 0, .int .i64 0, .int .i64 0, .string ⟨#[]⟩, .int .i64 0, .int .i64 0, .int .i64 0, .int .i64 0, .int .i64 0, .int .i64 0, .int .i64 0, .int .i64 0, .int .i64 0, .int .i64 0, .int .i64 0, .bool false, .bool false, .string ⟨#[]⟩, .string ⟨#[]⟩, .int .i64 0, .int .i64 0, .int .i64 0, .int .i64 0, .string ⟨#[]⟩, .int .i64 0, .int .i64 0, .int .i64 0, .int .i64 0, .int .i64 0, .int .i64 0, .int .i64 0, .int .i64 0, .int .i64 0, .int .i64 0, .int .i64 0, .bool false, .bool false, .bool false, .slice none 0 0, .string ⟨#[]⟩] 36)) (bel1 _ _)))
    have hX := At.apart (b := w5.heap.size + 1) (At.whole (vs := PZ) hX0 rfl) (by omega) 0 (#[.int .i64 c, .string l, .int .i64 a]).toList
    have hY := At.whole (vs := #[.int .i64 c, .string l, .int .i64 a]) hY1 rfl
    go_wp2_with (refine wpList_store_mid (by rfl) 36 _ _ (by rfl) (w5.heap.size) 0 (PZ) (by rfl) (by rfl) hX0.there size36 PZ_one ?_; refine wpList_store_mid (by rfl) 43 _ _ (by rfl) (w5.heap.size + 1) 0 #[.int .i64 c, .string l, .int .i64 a] (by rfl) (by rfl) hY1.there size43 (by simp [Value.oneCell']) ?_)
    go_wp2
    go_meet
    case rel => exact ⟨w5.heap.size, w5.heap.size + 1, rfl, rfl, bt hb hbx, hX, hY⟩
  case rest =>
  obtain ⟨B7, B8, rfl, rfl, hb4, hXB, hY⟩ := hcut
  replace hl := bt hl hb4
  replace hXA := hXA.later hb4
  replace hP := hP.later hb4
  obtain ⟨w6, hw6⟩ : ∃ x, x = wc := ⟨wc, rfl⟩
  subst hw6
  clear hb4 HP HR hA
  go_wp2_with (first | (refine wpList_loadG 36 _ (by rfl) (by rfl) B6 0 (by rfl) _ _ hXA.range Tryz.underlying36 rfl size36 ?_) | (refine wpList_loadG 36 _ (by rfl) (by rfl) B7 0 (by rfl) _ _ hXB.range Tryz.underlying36 rfl size36 ?_))
  refine (psame_s Pd.zero (.slice none 0 0) (.slice none 0 0) w6 (Rgs.nil _) (Rgs.nil _) (Nat.zero_le _)).mono ?_
  rintro e w7 ⟨rfl, hb⟩
  replace hl := bt hl hb
  replace hY := hY.later hb
  replace hP := hP.later hb
  clear hb hXA hXB
  have c0 := (hY.2 0 _ rfl).1
  have c1 := (hY.2 1 _ rfl).1
  have c2 := (hY.2 2 _ rfl).1
  go_wp2_with fail
  refine (told_f _ _ l a c w7 hc (HT.out _ _ _ _ _ (hG.later hl) hP)).mono ?_
  rintro e w8 ⟨rfl, hb⟩
  clear c0 c1 c2
  replace hl := bt hl hb
  replace hY := hY.later hb
  replace hP := hP.later hb
  clear hb
  go_wp2_with fail
  refine (works_p _ (hG.later hl) HT).mono ?_
  rintro e w9 ⟨rfl, hb⟩
  replace hl := bt hl hb
  replace hY := hY.later hb
  replace hP := hP.later hb
  clear hb
  go_upto_region 5 with fail
  go_cut [1] from 10 (fun q W => W = w9 ∧ ∃ b, q = .int .i64 b ∧ -1000 < b ∧ b < 1000)
  case first =>
    go_wp2
    go_meet
    case rel => exact ⟨rfl, _, rfl, rem_lo n, rem_hi n⟩
  case rest =>
  obtain ⟨rfl, b, rfl, hb0, hb1⟩ := hcut
  have hsf := HSF.out b hb0 hb1
  have hw : IntKind.i64.wrap (a + b) = a + b := by have := ha0.out; have := ha1.out; rw [IntKind.wrap_i64]; omega
  clear hb0 hb1
  go_wp2_with fail
  refine (hsf _ _ _ _ _ (hG.later hl) ha0.out (Int.le_trans ha1.out (by omega)) hP).mono ?_
  rintro e wd ⟨p2, rfl, hp2, hP2, hb⟩
  replace hl := bt hl hb
  replace hY := hY.later hb
  clear hb hsf hP
  have c0 := (hY.2 0 _ rfl).1
  have c1 := (hY.2 1 _ rfl).1
  have c2 := (hY.2 2 _ rfl).1
  have hbu : ∀ W, (Instr.build 43 #[(0, .int .i64 c), (1, .string l), (2, .int .i64 (a + b))]).run Tryz.prog W = .ok (.agg #[.int .i64 c, .string l, .int .i64 (a + b)]) W := fun W => run_build W 43 _ _ (by kernel_rfl)
  go_wp2_with fail
  refine (told_f _ _ l (a + b) c wd hc (HT.out _ _ _ _ _ (hG.later hl) hP2)).mono ?_
  rintro e we ⟨rfl, hb⟩
  go_wp2
  go_ret
  exact ⟨rfl, bt hl hb⟩
set_option maxHeartbeats 4000000 in
theorem pi_y (x : PkT) (n : Int) (z : Pd) (w : World) (hG : OrE w) (HT : Hid TA) (HN : Hid TN) (hn : z.sg.o.rs.length ≤ 4) (HSN : Hid ShNil)
    (HP : Hid (∀ W, OrE W → Calls Tryz.prog 14 #[.agg #[.int .i64 x.f, .int .i64 x.t, .int .i64 x.tl, .int .i64 x.pr, .int .i64 x.id, .int .i64 x.fg, .bool x.mo, .bool x.dn, .string x.op, .string x.da]] W fun e w' => ∃ v, e = .returned (.tuple #[.agg (z.v v), .nilIface]) ∧ RgA W.heap.size w' v z.sg.o.rs ∧ Below W.heap.size W w'))
    (HR : Hid (∀ W, Calls Tryz.prog 15 #[.agg #[.int .i64 x.f, .int .i64 x.t, .int .i64 x.tl, .int .i64 x.pr, .int .i64 x.id, .int .i64 x.fg, .bool x.mo, .bool x.dn, .string x.op, .string x.da]] W fun e w' => ∃ v, e = .returned (.tuple #[.agg (z.v v), .agg #[.int .i64 0, .string ⟨#[]⟩, .int .i64 0]]) ∧ RgA W.heap.size w' v z.sg.o.rs ∧ Below W.heap.size W w')) :
    Calls Tryz.prog 4 #[.agg #[.int .i64 x.f, .int .i64 x.t, .int .i64 x.tl, .int .i64 x.pr, .int .i64 x.id, .int .i64 x.fg, .bool x.mo, .bool x.dn, .string x.op, .string x.da], .int .i64 n] w fun e w' => e = .returned (.bool true) ∧ Below w.heap.size w w' := by
  have hl := bel1 w (.cells #[.int .i64 x.f, .int .i64 x.t, .int .i64 x.tl, .int .i64 x.pr, .int .i64 x.id, .int .i64 x.fg, .bool x.mo, .bool x.dn, .string x.op, .string x.da] 27)
  have hA := At.box w #[.int .i64 x.f, .int .i64 x.t, .int .i64 x.tl, .int .i64 x.pr, .int .i64 x.id, .int .i64 x.fg, .bool x.mo, .bool x.dn, .string x.op, .string x.da] 27
  go_enter Tryz.func4, Tryz.ntmps4
  go_upto_region 1 with fail
  generalize hw0 : w.alloc (.cells #[.int .i64 x.f, .int .i64 x.t, .int .i64 x.tl, .int .i64 x.pr, .int .i64 x.id, .int .i64 x.fg, .bool x.mo, .bool x.dn, .string x.op, .string x.da] 27) = w0 at *
  clear hw0
  go_cut [5, 6] from 10 (fun q y W => ∃ (B6 : Nat) (a0 : Option Addr) (cap0 : Nat), q = .pointer (some ⟨B6, 0, none⟩) ∧ y = .nilIface ∧ Below w0.heap.size w0 W ∧ Rgs W (.slice a0 z.sg.o.rs.length cap0) z.sg.o.rs ∧ At W B6 (z.v (.slice a0 z.sg.o.rs.length cap0)))
  case first =>
    go_wp2_with (refine wpList_loadG 27 _ (by rfl) (by rfl) w.heap.size 0 (by rfl) _ _ hA.range Tryz.underlying27 rfl size27 ?_)
    refine (HP.out _ (hG.later hl)).mono ?_
    rintro e w5 ⟨v, rfl, hv, hb⟩
    obtain ⟨a0, cap0, hve, -⟩ := id hv
    subst hve
    have hX0 : At (w5.alloc (.cells #[.int .i64 0, .int .i64 0, .int .i64 0, .int .i64 0, .string ⟨#[]⟩, .int .i64 0, .int .i64 0, .int .i64 0, .int .i64 0, .int .i64 0, .int .i64 0, .int .i64 0, .int .i64 0, .int .i64 0, .int .i64 0, .int .i64 0, .bool false, .bool false, .string ⟨#[]⟩, .string ⟨#[]⟩, .int .i64 0, .int .i64 0, .int .i64 0, .int .i64 0, .string ⟨#[]⟩, .int .i64 0, .int .i64 0, .int .i64 0, .int .i64 0, .int .i64 0, .int .i64 0, .int .i64 0, .int .i64 0, .int .i64 0, .int .i64 0, .int .i64 0, .bool false, .bool false, .bool false, .slice none 0 0, .string ⟨#[]⟩] 36)) w5.heap.size PZ := At.box w5 #[.int .i64 0, .int .i64 0, .int .i64 0, .int .i64 0, .string ⟨#[]⟩, .int .i64 0, .int .i64 0, .int .i64 0, .int .i64 0, .int .i64 0, .int .i64 0, .int .i64 0, .int .i64 0, .int .i64 0, .int .i64 0, .int .i64 0, .bool false, .bool false, .string ⟨#[]⟩, .string ⟨#[]⟩, .int .i64 0, .int .i64 0, .int .i64 0, .int .i64 0, .string ⟨#[]⟩, .int .i64 0, .int .i64 0, .int .i64 0, .int .i64 0, .int .i64 0, .int .i64 0, .int .i64 0, .int .i64 0, .int .i64 0, .int .i64 0, .int .i64 0, .bool false, .bool false, .bool false, .slice none 0 0, .string ⟨#[]⟩] 36
    have hbx : Below w5.heap.size w5 ((w5.alloc (.cells #[.int .i64 0, .int .i64 0, .int .i64 0, .int .i64 0, .string ⟨#[]⟩, .int .i64 0, .int .i64 0, .int .i64 0, .int .i64 0, .int .i64 0, .int .i64 0, .int .i64 0, .int .i64 0, .int .i64 0, .int .i64 0, .int .i64 0, .bool false, .bool false, .string ⟨#[]⟩, .string ⟨#[]⟩, .int .i64 0, .int .i64 0, .int .i64 0, .int .i64 0, .string ⟨#[]⟩, .int .i64 0, .int .i64 0, .int .i64 0, .int .i64 0, .int .i64 0, .int .i64 0, .int .i64 0, .int .i64 0, .int .i64 0, .int .i64 0, .int .i64 0, .bool false, .bool false, .bool false, .slice none 0 0, .string ⟨#[]⟩] 36)).setCells w5.heap.size 0 (z.v (.slice a0 z.sg.o.rs.length cap0)).toList) := Below.setCells (Nat.le_refl _) _ _ _ (bel1 w5 (.cells #[.int .i64 0, .int .i64 0, .int .i64 0, .int .i64 0, .string ⟨#[]⟩, .int .i64 0, .int .i64 0, .int .i64 0, .int .i64 0, .int .i64 0, .int .i64 0, .int .i64 0, .int .i64 0, .int .i64 0, .int .i64 0, .int .i64 0, .bool false, .bool false, .string ⟨#[]⟩, .string ⟨#[]⟩, .int .i64 0, .int .i64 0, .int .i64 0, .int .i64 0, .string ⟨#[]⟩, .int .i64 0, .int .i64 0, .int .i64 0, .int .i64 0, .int .i64 0, .int .i64 0, .int .i64 0, .int .i64 0, .int .i64 0, .int .i64 0, .int .i64 0, .bool false, .bool false, .bool false, .slice none 0 0, .string ⟨#[]⟩] 36))
    have hX : At ((w5.alloc (.cells #[.int .i64 0, .int .i64 0, .int .i64 0, .int .i64 0, .string ⟨#[]⟩, .int .i64 0, .int .i64 0, .int .i64 0, .int .i64 0, .int .i64 0, .int .i64 0, .int .i64 0, .int .i64 0, .int .i64 0, .int .i64 0, .int .i64 0, .bool false, .bool false, .string ⟨#[]⟩, .string ⟨#[]⟩, .int .i64 0, .int .i64 0, .int .i64 0, .int .i64 0, .string ⟨#[]⟩, .int .i64 0, .int .i64 0, .int .i64 0, .int .i64 0, .int .i64 0, .int .i64 0, .int .i64 0, .int .i64 0, .int .i64 0, .int .i64 0, .int .i64 0, .bool false, .bool false, .bool false, .slice none 0 0, .string ⟨#[]⟩] 36)).setCells w5.heap.size 0 (z.v (.slice a0 z.sg.o.rs.length cap0)).toList) w5.heap.size (z.v (.slice a0 z.sg.o.rs.length cap0)) := At.whole (vs := z.v (.slice a0 z.sg.o.rs.length cap0)) hX0 rfl
    go_wp2_with (refine wpList_store_mid (by rfl) 36 _ _ (by rfl) (w5.heap.size) 0 (z.v (.slice a0 z.sg.o.rs.length cap0)) (by rfl) (by rfl) hX0.there size36 (Pd.one _ rfl) ?_)
    go_wp2
    go_meet
    case rel => exact ⟨w5.heap.size, a0, cap0, rfl, rfl, bt hb hbx, (hv.later hbx).rgs, hX⟩
  case rest =>
  obtain ⟨B6, a0, cap0, rfl, rfl, hb0, hv, hXA⟩ := hcut
  replace hl := bt hl hb0
  replace hA := hA.later hb0
  obtain ⟨w4, hw4⟩ : ∃ x, x = wc := ⟨wc, rfl⟩
  subst hw4
  clear hb0
  go_upto_region 2 with fail
  go_cut [7, 8] from 10 (fun q y W => ∃ (B7 B8 : Nat) (a1 : Option Addr) (cap1 : Nat), q = .pointer (some ⟨B7, 0, none⟩) ∧ y = .pointer (some ⟨B8, 0, none⟩) ∧ Below w4.heap.size w4 W ∧ Rgs W (.slice a1 z.sg.o.rs.length cap1) z.sg.o.rs ∧ At W B7 (z.v (.slice a1 z.sg.o.rs.length cap1)) ∧ At W B8 #[.int .i64 0, .string ⟨#[]⟩, .int .i64 0])
  case first =>
    go_wp2_with (refine wpList_loadG 27 _ (by rfl) (by rfl) w.heap.size 0 (by rfl) _ _ hA.range Tryz.underlying27 rfl size27 ?_)
    refine (HR.out _).mono ?_
    rintro e w5 ⟨v, rfl, hv1, hb⟩
    obtain ⟨a1, cap1, hve, -⟩ := id hv1
    subst hve
    have hX0 : At ((w5.alloc (.cells #[.int .i64 0, .int .i64 0, .int .i64 0, .int .i64 0, .string ⟨#[]⟩, .int .i64 0, .int .i64 0, .int .i64 0, .int .i64 0, .int .i64 0, .int .i64 0, .int .i64 0, .int .i64 0, .int .i64 0, .int .i64 0, .int .i64 0, .bool false, .bool false, .string ⟨#[]⟩, .string ⟨#[]⟩, .int .i64 0, .int .i64 0, .int .i64 0, .int .i64 0, .string ⟨#[]⟩, .int .i64 0, .int .i64 0, .int .i64 0, .int .i64 0, .int .i64 0, .int .i64 0, .int .i64 0, .int .i64 0, .int .i64 0, .int .i64 0, .int .i64 0, .bool false, .bool false, .bool false, .slice none 0 0, .string ⟨#[]⟩] 36)).alloc (.cells #[.int .i64 0, .string ⟨#[]⟩, .int .i64 0] 43)) w5.heap.size PZ := (At.box w5 #[.int .i64 0, .int .i64 0, .int .i64 0, .int .i64 0, .string ⟨#[]⟩, .int .i64 0, .int .i64 0, .int .i64 0, .int .i64 0, .int .i64 0, .int .i64 0, .int .i64 0, .int .i64 0, .int .i64 0, .int .i64 0, .int .i64 0, .bool false, .bool false, .string ⟨#[]⟩, .string ⟨#[]⟩, .int .i64 0, .int .i64 0, .int .i64 0, .int .i64 0, .string ⟨#[]⟩, .int .i64 0, .int .i64 0, .int .i64 0, .int .i64 0, .int .i64 0, .int .i64 0, .int .i64 0, .int .i64 0, .int .i64 0, .int .i64 0, .int .i64 0, .bool false, .bool false, .bool false, .slice none 0 0, .string ⟨#[]⟩] 36).later (bel1 _ _)
    have hY0 : At ((w5.alloc (.cells #[.int .i64 0, .int .i64 0, .int .i64 0, .int .i64 0, .string ⟨#[]⟩, .int .i64 0, .int .i64 0, .int .i64 0, .int .i64 0, .int .i64 0, .int .i64 0, .int .i64 0, .int .i64 0, .int .i64 0, .int .i64 0, .int .i64 0, .bool false, .bool false, .string ⟨#[]⟩, .string ⟨#[]⟩, .int .i64 0, .int .i64 0, .int .i64 0, .int .i64 0, .string ⟨#[]⟩, .int .i64 0, .int .i64 0, .int .i64 0, .int .i64 0, .int .i64 0, .int .i64 0, .int .i64 0, .int .i64 0, .int .i64 0, .int .i64 0, .int .i64 0, .bool false, .bool false, .bool false, .slice none 0 0, .string ⟨#[]⟩] 36)).alloc (.cells #[.int .i64 0, .string ⟨#[]⟩, .int .i64 0] 43)) (w5.heap.size + 1) #[.int .i64 0, .string ⟨#[]⟩, .int .i64 0] := At.box2 w5 (.cells #[.int .i64 0, .int .i64 0, .int .i64 0, .int .i64 0, .string ⟨#[]⟩, .int .i64 0, .int .i64 0, .int .i64 0, .int .i64 0, .int .i64 0, .int .i64 0, .int .i64 0, .int .i64 0, .int .i64 0, .int .i64 0, .int .i64 0, .bool false, .bool false, .string ⟨#[]⟩, .string ⟨#[]⟩, .int .i64 0, .int .i64 0, .int .i64 0, .int .i64 0, .string ⟨#[]⟩, .int .i64 0, .int .i64 0, .int .i64 0, .int .i64 0, .int .i64 0, .int .i64 0, .int .i64 0, .int .i64 0, .int .i64 0, .int .i64 0, .int .i64 0, .bool false, .bool false, .bool false, .slice none 0 0, .string ⟨#[]⟩] 36) #[.int .i64 0, .string ⟨#[]⟩, .int .i64 0] 43
    have hY1 := At.apart (b := w5.heap.size) hY0 (by omega) 0 (z.v (.slice a1 z.sg.o.rs.length cap1)).toList
    have hbx : Below w5.heap.size w5 ((((w5.alloc (.cells #[.int .i64 0, .int .i64 0, .int .i64 0, .int .i64 0, .string ⟨#[]⟩, .int .i64 0, .int .i64 0, .int .i64 0, .int .i64 0, .int .i64 0, .int .i64 0, .int .i64 0, .int .i64 0, .int .i64 0, .int .i64 0, .int .i64 0, .bool false, .bool false, .string ⟨#[]⟩, .string ⟨#[]⟩, .int .i64 0, .int .i64 0, .int .i64 0, .int .i64 0, .string ⟨#[]⟩, .int .i64 0, .int .i64 0, .int .i64 0, .int .i64 0, .int .i64 0, .int .i64 0, .int .i64 0, .int .i64 0, .int .i64 0, .int .i64 0, .int .i64 0, .bool false, .bool false, .bool false, .slice none 0 0, .string ⟨#[]⟩] 36)).alloc (.cells #[.int .i64 0, .string ⟨#[]⟩, .int .i64 0] 43)).setCells w5.heap.size 0 (z.v (.slice a1 z.sg.o.rs.length cap1)).toList).setCells (w5.heap.size + 1) 0 (#[.int .i64 0, .string ⟨#[]⟩, .int .i64 0]).toList) := Below.setCells (by omega) _ _ _ (Below.setCells (Nat.le_refl _) _ _ _ (bt (bel1 w5 (.cells #[.int .i64 0, .int .i64 0, .int .i64 0, .int .i64 0, .string ⟨#[]⟩, .int .i64 0, .int .i64 0, .int .i64 0, .int .i64 0, .int .i64 0, .int .i64 0, .int .i64 0, .int .i64 0, .int .i64 0, .int .i64 0, .int .i64 0, .bool false, .bool false, .string ⟨#[]⟩, .string ⟨#[]⟩, .int .i64 0, .int .i64 0, .int .i64 0, .int .i64 0, .string ⟨#[]⟩, .int .i64 0, .int .i64 0, .int .i64 0, .int .i64 0, .int .i64 0, .int .i64 0, .int .i64 0, .int .i64 0, .int .i64 0, .int .i64 0, .int .i64 0, .bool false, .bool false, .bool false, .slice none 0 0, .string ⟨#[]⟩] 36)) (bel1 _ _)))
    have hX := At.apart (b := w5.heap.size + 1) (At.whole (vs := z.v (.slice a1 z.sg.o.rs.length cap1)) hX0 rfl) (by omega) 0 (#[.int .i64 0, .string ⟨#[]⟩, .int .i64 0]).toList
    have hY := At.whole (vs := #[.int .i64 0, .string ⟨#[]⟩, .int .i64 0]) hY1 rfl
    go_wp2_with (refine wpList_store_mid (by rfl) 36 _ _ (by rfl) (w5.heap.size) 0 (z.v (.slice a1 z.sg.o.rs.length cap1)) (by rfl) (by rfl) hX0.there size36 (Pd.one _ rfl) ?_; refine wpList_store_mid (by rfl) 43 _ _ (by rfl) (w5.heap.size + 1) 0 #[.int .i64 0, .string ⟨#[]⟩, .int .i64 0] (by rfl) (by rfl) hY1.there size43 (by simp [Value.oneCell']) ?_)
    go_wp2
    go_meet
    case rel => exact ⟨w5.heap.size, w5.heap.size + 1, a1, cap1, rfl, rfl, bt hb hbx, (hv1.later hbx).rgs, hX, hY⟩
  case rest =>
  obtain ⟨B7, B8, a1, cap1, rfl, rfl, hb4, hv1, hXB, hY⟩ := hcut
  replace hl := bt hl hb4
  replace hXA := hXA.later hb4
  replace hv := hv.later hb4
  obtain ⟨w6, hw6⟩ : ∃ x, x = wc := ⟨wc, rfl⟩
  subst hw6
  clear hb4 HP HR hA
  go_wp2_with (first | (refine wpList_loadG 36 _ (by rfl) (by rfl) B6 0 (by rfl) _ _ hXA.range Tryz.underlying36 rfl size36 ?_) | (refine wpList_loadG 36 _ (by rfl) (by rfl) B7 0 (by rfl) _ _ hXB.range Tryz.underlying36 rfl size36 ?_))
  refine (psame_s z _ _ w6 hv hv1 (by omega)).mono ?_
  rintro e w7 ⟨rfl, hb⟩
  replace hl := bt hl hb
  replace hY := hY.later hb
  clear hb hXA hXB
  have c0 := (hY.2 0 _ rfl).1
  have c1 := (hY.2 1 _ rfl).1
  have c2 := (hY.2 2 _ rfl).1
  go_wp2_with fail
  refine (told_n w7 HN).mono ?_
  rintro e w8 ⟨rfl, hb⟩
  clear c0 c1 c2
  replace hl := bt hl hb
  clear hb
  go_wp2_with fail
  refine (works_p _ (hG.later hl) HT).mono ?_
  rintro e w9 ⟨rfl, hb⟩
  replace hl := bt hl hb
  clear hb
  go_upto_region 5 with fail
  go_cut [1] from 10 (fun q W => W = w9 ∧ ∃ b, q = .int .i64 b ∧ -1000 < b ∧ b < 1000)
  case first =>
    go_wp2
    go_meet
    case rel => exact ⟨rfl, _, rfl, rem_lo n, rem_hi n⟩
  case rest =>
  obtain ⟨rfl, b, rfl, hb0, hb1⟩ := hcut
  clear hb0 hb1
  go_wp2_with fail
  refine (HSN.out _ _).mono ?_
  rintro e wd ⟨rfl, hb⟩
  go_wp2
  go_ret
  exact ⟨rfl, bt hl hb⟩
theorem pi_any (x : PkT) (n : Int) (w : World) (hG : OrE w) (ho : x.op.size ≤ 140737488355328) (hd : x.da.size ≤ 140737488351232) (HSN : ShNil) (HSF : ∀ b, -1000 < b → b < 1000 → ShFail b) (HN : TN) (HT : TA) : Calls Tryz.prog 4 #[.agg #[.int .i64 x.f, .int .i64 x.t, .int .i64 x.tl, .int .i64 x.pr, .int .i64 x.id, .int .i64 x.fg, .bool x.mo, .bool x.dn, .string x.op, .string x.da], .int .i64 n] w fun e w' => e = .returned (.bool true) ∧ Below w.heap.size w w' := by
  obtain ⟨r, h1, h2, hr, -⟩ := inn_both x ho hd
  cases r with
  | error q =>
    obtain ⟨l, a, c⟩ := q
    exact pi_e x n l a c w hG HT HN hr.2.2 hr.1 hr.2.1 HSF h1 h2
  | ok z => exact pi_y x n z w hG HT HN hr HSN h1 h2
end Go.Proofs.YtkpdmgoldngdaaaGreatDoor
