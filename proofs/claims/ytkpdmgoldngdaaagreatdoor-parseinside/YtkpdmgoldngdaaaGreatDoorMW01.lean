/- the texts Vo, Vp, in part, merged by program -/
import Derived.Test.YtkpdmgoldngdaaaGreatDoorProg
import Derived.Test.YtkpdmgoldngdaaaGreatDoorRows
import Derived.Deep.RegionHeld3
import Derived.Deep.QuietTactic
import Derived.BigQuiet
import Derived.WalkSmall
import Derived.WalkKit
import Derived.WalkSpells
import Derived.RegionTactic
import Derived.Below
import Derived.Laws.Tables
import Derived.Great.BuildSlice
import Derived.Deep.RegionWith
import Derived.Laws.OwnMore
import Derived.Laws.AppendOwn
import Derived.Laws.AppendOwnNone
import Derived.Deep.LoopGhost
import Derived.Laws.StructEq
import Derived.BigRegion
import Derived.Deep.Light
import Derived.Deep.Cut
import Derived.Deep.CutRange
import Derived.Shelf.Strings.Repeat
import Derived.Deep.MidRow
import Derived.LoopN
import Derived.Test.YtkpdmgoldngdaaaGreatDoorMA01
import Derived.Test.YtkpdmgoldngdaaaGreatDoorMA02
import Derived.Test.YtkpdmgoldngdaaaGreatDoorMA03
import Derived.Test.YtkpdmgoldngdaaaGreatDoorMA04
import Derived.Test.YtkpdmgoldngdaaaGreatDoorMA05
import Derived.Test.YtkpdmgoldngdaaaGreatDoorMA06
import Derived.Test.YtkpdmgoldngdaaaGreatDoorMA07
import Derived.Test.YtkpdmgoldngdaaaGreatDoorMB01
import Derived.Test.YtkpdmgoldngdaaaGreatDoorMB02
import Derived.Test.YtkpdmgoldngdaaaGreatDoorMC01
import Derived.Test.YtkpdmgoldngdaaaGreatDoorMD01
import Derived.Test.YtkpdmgoldngdaaaGreatDoorMD02
import Derived.Test.YtkpdmgoldngdaaaGreatDoorMD03
import Derived.Test.YtkpdmgoldngdaaaGreatDoorMD04
import Derived.Test.YtkpdmgoldngdaaaGreatDoorMD05
import Derived.Test.YtkpdmgoldngdaaaGreatDoorME01
import Derived.Test.YtkpdmgoldngdaaaGreatDoorME02
import Derived.Test.YtkpdmgoldngdaaaGreatDoorMF01
import Derived.Test.YtkpdmgoldngdaaaGreatDoorMG01
import Derived.Test.YtkpdmgoldngdaaaGreatDoorMG02
import Derived.Test.YtkpdmgoldngdaaaGreatDoorMG03
import Derived.Test.YtkpdmgoldngdaaaGreatDoorMG04
import Derived.Test.YtkpdmgoldngdaaaGreatDoorMG05
import Derived.Test.YtkpdmgoldngdaaaGreatDoorMG06
import Derived.Test.YtkpdmgoldngdaaaGreatDoorMH01
import Derived.Test.YtkpdmgoldngdaaaGreatDoorMH02
import Derived.Test.YtkpdmgoldngdaaaGreatDoorMH03
import Derived.Test.YtkpdmgoldngdaaaGreatDoorMH04
import Derived.Test.YtkpdmgoldngdaaaGreatDoorMI01
import Derived.Test.YtkpdmgoldngdaaaGreatDoorMK01
import Derived.Test.YtkpdmgoldngdaaaGreatDoorML01
import Derived.Test.YtkpdmgoldngdaaaGreatDoorMM01
import Derived.Test.YtkpdmgoldngdaaaGreatDoorMN01
import Derived.Test.YtkpdmgoldngdaaaGreatDoorMN02
import Derived.Test.YtkpdmgoldngdaaaGreatDoorMO01
import Derived.Test.YtkpdmgoldngdaaaGreatDoorMO02
import Derived.Test.YtkpdmgoldngdaaaGreatDoorMO03
import Derived.Test.YtkpdmgoldngdaaaGreatDoorMO04
import Derived.Test.YtkpdmgoldngdaaaGreatDoorMP01
import Derived.Test.YtkpdmgoldngdaaaGreatDoorMP02
import Derived.Test.YtkpdmgoldngdaaaGreatDoorMP04
import Derived.Test.YtkpdmgoldngdaaaGreatDoorMQ01
import Derived.Test.YtkpdmgoldngdaaaGreatDoorMQ02
import Derived.Test.YtkpdmgoldngdaaaGreatDoorMQ03
import Derived.Test.YtkpdmgoldngdaaaGreatDoorMR01
import Derived.Test.YtkpdmgoldngdaaaGreatDoorMS01
import Derived.Test.YtkpdmgoldngdaaaGreatDoorMS02
import Derived.Test.YtkpdmgoldngdaaaGreatDoorMU01
import Derived.Test.YtkpdmgoldngdaaaGreatDoorMV01
namespace Go.Proofs.YtkpdmgoldngdaaaGreatDoor
open Go.RowKit
set_option maxRecDepth 100000
set_option linter.unusedVariables false

set_option maxHeartbeats 4000000 in
theorem pin_n (x : FrT) (y : PkT) (B E : ByteArray) (w : World) (hG : OrE w) (HT : Hid TA) 
    (HFR : Hid (∀ W, Calls Tryz.prog 20 #[.agg #[.int .i64 x.a, .int .i64 x.b, .int .i64 x.k, .string x.d], .agg #[.int .i64 y.f, .int .i64 y.t, .int .i64 y.tl, .int .i64 y.pr, .int .i64 y.id, .int .i64 y.fg, .bool y.mo, .bool y.dn, .string y.op, .string y.da]] W fun e w' => e = .returned (.tuple #[.string E, .agg #[.int .i64 x.a, .int .i64 x.b, .int .i64 2048, .string B], .bool false]) ∧ Below W.heap.size W w')) :
    Calls Tryz.prog 8 #[.agg #[.int .i64 x.a, .int .i64 x.b, .int .i64 x.k, .string x.d], .agg #[.int .i64 y.f, .int .i64 y.t, .int .i64 y.tl, .int .i64 y.pr, .int .i64 y.id, .int .i64 y.fg, .bool y.mo, .bool y.dn, .string y.op, .string y.da]] w fun e w' => e = .returned (.bool true) ∧ Below w.heap.size w w' := by
  have hb1 := bel1 w (.cells #[.int .i64 x.a, .int .i64 x.b, .int .i64 x.k, .string x.d] 23)
  have hb2 := bel1 (w.alloc (.cells #[.int .i64 x.a, .int .i64 x.b, .int .i64 x.k, .string x.d] 23)) (.cells #[.int .i64 y.f, .int .i64 y.t, .int .i64 y.tl, .int .i64 y.pr, .int .i64 y.id, .int .i64 y.fg, .bool y.mo, .bool y.dn, .string y.op, .string y.da] 27)
  have hF := (At.box w #[.int .i64 x.a, .int .i64 x.b, .int .i64 x.k, .string x.d] 23).later hb2
  have hA := At.box2 w (.cells #[.int .i64 x.a, .int .i64 x.b, .int .i64 x.k, .string x.d] 23) #[.int .i64 y.f, .int .i64 y.t, .int .i64 y.tl, .int .i64 y.pr, .int .i64 y.id, .int .i64 y.fg, .bool y.mo, .bool y.dn, .string y.op, .string y.da] 27
  have hl := bt hb1 hb2
  clear hb1 hb2
  go_enter Tryz.func8, Tryz.ntmps8
  go_upto_region 1 with fail
  generalize hw0 : (w.alloc (.cells #[.int .i64 x.a, .int .i64 x.b, .int .i64 x.k, .string x.d] 23)).alloc (.cells #[.int .i64 y.f, .int .i64 y.t, .int .i64 y.tl, .int .i64 y.pr, .int .i64 y.id, .int .i64 y.fg, .bool y.mo, .bool y.dn, .string y.op, .string y.da] 27) = w0 at *
  clear hw0
  go_wp2_with fail
  refine (works_p _ (hG.later hl) HT).mono ?_
  rintro e w1 ⟨rfl, hb⟩
  replace hl := bt hl hb
  replace hF := hF.later hb
  replace hA := hA.later hb
  clear hb
  go_upto_region 3 with fail
  go_cut [5, 6, 7] from 18 (fun q g k W => ∃ BG : Nat, q = .string E ∧ g = .pointer (some ⟨BG, 0, none⟩) ∧ k = .bool false ∧ At W BG #[.int .i64 x.a, .int .i64 x.b, .int .i64 2048, .string B] ∧ Below w1.heap.size w1 W)
  case first =>
    go_wp2_with (first | (refine wpList_loadG 23 _ (by rfl) (by rfl) (w.heap.size) 0 (by rfl) _ _ hF.range Tryz.underlying23 rfl size23 ?_) | (refine wpList_loadG 27 _ (by rfl) (by rfl) (w.heap.size + 1) 0 (by rfl) _ _ hA.range Tryz.underlying27 rfl size27 ?_))
    refine (HFR.out _).mono ?_
    rintro e w5 ⟨rfl, hb⟩
    go_wp2
    go_meet
    case rel => exact ⟨w5.heap.size, rfl, rfl, rfl, At.box w5 #[.int .i64 x.a, .int .i64 x.b, .int .i64 2048, .string B] 23, bt hb (bel1 w5 (.cells #[.int .i64 x.a, .int .i64 x.b, .int .i64 2048, .string B] 23))⟩
  case rest =>
  obtain ⟨BG, rfl, rfl, rfl, hg, hb⟩ := hcut
  replace hl := bt hl hb
  replace hA := hA.later hb
  clear hb hF HFR
  obtain ⟨w2, hw2⟩ : ∃ x, x = wc := ⟨wc, rfl⟩
  subst hw2
  go_wp2
  go_ret
  exact ⟨rfl, hl⟩
set_option maxHeartbeats 4000000 in
theorem pin_e (x : FrT) (y : PkT) (B E : ByteArray) (l : ByteArray) (a c : Int) (w : World) (hG : OrE w) (HT : Hid TA) (HP : Hid (∀ W, OrE W → Calls Tryz.prog 9 #[.string E] W fun e w' => ∃ p, e = .returned (.tuple #[.agg PZ, .iface 88 (.pointer (some ⟨p, 0, none⟩))]) ∧ W.heap.size ≤ p ∧ At w' p (FailV l (a + 14) c) ∧ Below W.heap.size W w'))
    (HI : Hid (∀ W, OrE W → Calls Tryz.prog 14 #[.agg #[.int .i64 y.f, .int .i64 y.t, .int .i64 y.tl, .int .i64 y.pr, .int .i64 y.id, .int .i64 y.fg, .bool y.mo, .bool y.dn, .string y.op, .string y.da]] W fun e w' => ∃ p, e = .returned (.tuple #[.agg PZ, .iface 88 (.pointer (some ⟨p, 0, none⟩))]) ∧ W.heap.size ≤ p ∧ At w' p (FailV l (a) c) ∧ Below W.heap.size W w')) (ha0 : Hid (0 ≤ a)) (ha1 : Hid (a ≤ 140737488355362))
    (HFR : Hid (∀ W, Calls Tryz.prog 20 #[.agg #[.int .i64 x.a, .int .i64 x.b, .int .i64 x.k, .string x.d], .agg #[.int .i64 y.f, .int .i64 y.t, .int .i64 y.tl, .int .i64 y.pr, .int .i64 y.id, .int .i64 y.fg, .bool y.mo, .bool y.dn, .string y.op, .string y.da]] W fun e w' => e = .returned (.tuple #[.string E, .agg #[.int .i64 x.a, .int .i64 x.b, .int .i64 2048, .string B], .bool true]) ∧ Below W.heap.size W w')) :
    Calls Tryz.prog 8 #[.agg #[.int .i64 x.a, .int .i64 x.b, .int .i64 x.k, .string x.d], .agg #[.int .i64 y.f, .int .i64 y.t, .int .i64 y.tl, .int .i64 y.pr, .int .i64 y.id, .int .i64 y.fg, .bool y.mo, .bool y.dn, .string y.op, .string y.da]] w fun e w' => e = .returned (.bool true) ∧ Below w.heap.size w w' := by
  have hb1 := bel1 w (.cells #[.int .i64 x.a, .int .i64 x.b, .int .i64 x.k, .string x.d] 23)
  have hb2 := bel1 (w.alloc (.cells #[.int .i64 x.a, .int .i64 x.b, .int .i64 x.k, .string x.d] 23)) (.cells #[.int .i64 y.f, .int .i64 y.t, .int .i64 y.tl, .int .i64 y.pr, .int .i64 y.id, .int .i64 y.fg, .bool y.mo, .bool y.dn, .string y.op, .string y.da] 27)
  have hF := (At.box w #[.int .i64 x.a, .int .i64 x.b, .int .i64 x.k, .string x.d] 23).later hb2
  have hA := At.box2 w (.cells #[.int .i64 x.a, .int .i64 x.b, .int .i64 x.k, .string x.d] 23) #[.int .i64 y.f, .int .i64 y.t, .int .i64 y.tl, .int .i64 y.pr, .int .i64 y.id, .int .i64 y.fg, .bool y.mo, .bool y.dn, .string y.op, .string y.da] 27
  have hl := bt hb1 hb2
  clear hb1 hb2
  go_enter Tryz.func8, Tryz.ntmps8
  go_upto_region 1 with fail
  generalize hw0 : (w.alloc (.cells #[.int .i64 x.a, .int .i64 x.b, .int .i64 x.k, .string x.d] 23)).alloc (.cells #[.int .i64 y.f, .int .i64 y.t, .int .i64 y.tl, .int .i64 y.pr, .int .i64 y.id, .int .i64 y.fg, .bool y.mo, .bool y.dn, .string y.op, .string y.da] 27) = w0 at *
  clear hw0
  go_wp2_with fail
  refine (works_p _ (hG.later hl) HT).mono ?_
  rintro e w1 ⟨rfl, hb⟩
  replace hl := bt hl hb
  replace hF := hF.later hb
  replace hA := hA.later hb
  clear hb
  go_upto_region 3 with fail
  go_cut [5, 6, 7] from 18 (fun q g k W => ∃ BG : Nat, q = .string E ∧ g = .pointer (some ⟨BG, 0, none⟩) ∧ k = .bool true ∧ At W BG #[.int .i64 x.a, .int .i64 x.b, .int .i64 2048, .string B] ∧ Below w1.heap.size w1 W)
  case first =>
    go_wp2_with (first | (refine wpList_loadG 23 _ (by rfl) (by rfl) (w.heap.size) 0 (by rfl) _ _ hF.range Tryz.underlying23 rfl size23 ?_) | (refine wpList_loadG 27 _ (by rfl) (by rfl) (w.heap.size + 1) 0 (by rfl) _ _ hA.range Tryz.underlying27 rfl size27 ?_))
    refine (HFR.out _).mono ?_
    rintro e w5 ⟨rfl, hb⟩
    go_wp2
    go_meet
    case rel => exact ⟨w5.heap.size, rfl, rfl, rfl, At.box w5 #[.int .i64 x.a, .int .i64 x.b, .int .i64 2048, .string B] 23, bt hb (bel1 w5 (.cells #[.int .i64 x.a, .int .i64 x.b, .int .i64 2048, .string B] 23))⟩
  case rest =>
  obtain ⟨BG, rfl, rfl, rfl, hg, hb⟩ := hcut
  replace hl := bt hl hb
  replace hA := hA.later hb
  clear hb hF HFR
  obtain ⟨w2, hw2⟩ : ∃ x, x = wc := ⟨wc, rfl⟩
  subst hw2
  go_upto_region 6 with fail
  go_cut [8, 9] from 18 (fun q y W => ∃ (B6 p : Nat), q = .pointer (some ⟨B6, 0, none⟩) ∧ y = .iface 88 (.pointer (some ⟨p, 0, none⟩)) ∧ Below w2.heap.size w2 W ∧ At W p (FailV l (a + 14) c))
  case first =>
    go_wp2_with fail
    refine (HP.out _ (hG.later hl)).mono ?_
    rintro e w5 ⟨p, rfl, hp, hP, hb⟩
    have hX0 : At (w5.alloc (.cells #[.int .i64 0, .int .i64 0, .int .i64 0, .int .i64 0, .string ⟨#[]⟩, .int .i64 0, .int .i64 0, .int .i64 0, .int .i64 0, .int .i64 0, .int .i64 0, .int .i64 0, .int .i64 0, .int .i64 0, .int .i64 0, .int .i64 0, .bool false, .bool false, .string ⟨#[]⟩, .string ⟨#[]⟩, .int .i64 0, .int .i64 0, .int .i64 0, .int .i64 0, .string ⟨#[]⟩, .int .i64 0, .int .i64 0, .int .i64 0, .int .i64 0, .int .i64 0, .int .i64 0, .int .i64 0, .int .i64 0, .int .i64 0, .int .i64 0, .int .i64 0, .bool false, .bool false, .bool false, .slice none 0 0, .string ⟨#[]⟩] 36)) w5.heap.size PZ := At.box w5 #[.int .i64 0, .int .i64 0, .int .i64 0, .int .i64 0, .string ⟨#[]⟩, .int .i64 0, .int .i64 0, .int .i64 0, .int .i64 0, .int .i64 0, .int .i64 0, .int .i64 0, .int .i64 0, .int .i64 0, .int .i64 0, .int .i64 0, .bool false, .bool false, .string ⟨#[]⟩, .string ⟨#[]⟩, .int .i64 0, .int .i64 0, .int .i64 0, .int .i64 0, .string ⟨#[]⟩, .int .i64 0, .int .i64 0, .int .i64 0, .int .i64 0, .int .i64 0, .int .i64 0, .int .i64 0, .int .i64 0, .int .i64 0, .int .i64 0, .int .i64 0, .bool false, .bool false, .bool false, .slice none 0 0, .string ⟨#[]⟩] 36
    have hbx : Below w5.heap.size w5 ((w5.alloc (.cells #[.int .i64 0, .int .i64 0, .int .i64 0, .int .i64 0, .string ⟨#[]⟩, .int .i64 0, .int .i64 0, .int .i64 0, .int .i64 0, .int .i64 0, .int .i64 0, .int .i64 0, .int .i64 0, .int .i64 0, .int .i64 0, .int .i64 0, .bool false, .bool false, .string ⟨#[]⟩, .string ⟨#[]⟩, .int .i64 0, .int .i64 0, .int .i64 0, .int .i64 0, .string ⟨#[]⟩, .int .i64 0, .int .i64 0, .int .i64 0, .int .i64 0, .int .i64 0, .int .i64 0, .int .i64 0, .int .i64 0, .int .i64 0, .int .i64 0, .int .i64 0, .bool false, .bool false, .bool false, .slice none 0 0, .string ⟨#[]⟩] 36)).setCells w5.heap.size 0 (PZ).toList) := Below.setCells (Nat.le_refl _) _ _ _ (bel1 w5 (.cells #[.int .i64 0, .int .i64 0, .int .i64 0, .int .i64 0, .string ⟨#[]⟩, .int .i64 0, .int .i64 0, .int .i64 0, .int .i64 0, .int .i64 0, .int .i64 0, .int .i64 0, .int .i64 0, .int .i64 0, .int .i64 0, .int .i64 0, .bool false, .bool false, .string ⟨#[]⟩, .string ⟨#[]⟩, .int .i64 0, .int .i64 0, .int .i64 0, .int .i64 0, .string ⟨#[]⟩, .int .i64 0, .int .i64 0, .int .i64 0, .int .i64 0, .int .i64 0, .int .i64 0, .int .i64 0, .int .i64 0, .int .i64 0, .int .i64 0, .int .i64 0, .bool false, .bool false, .bool false, .slice none 0 0, .string ⟨#[]⟩] 36))
    have hX : At ((w5.alloc (.cells #[.int .i64 0, .int .i64 0, .int .i64 0, .int .i64 0, .string ⟨#[]⟩, .int .i64 0, .int .i64 0, .int .i64 0, .int .i64 0, .int .i64 0, .int .i64 0, .int .i64 0, .int .i64 0, .int .i64 0, .int .i64 0, .int .i64 0, .bool false, .bool false, .string ⟨#[]⟩, .string ⟨#[]⟩, .int .i64 0, .int .i64 0, .int .i64 0, .int .i64 0, .string ⟨#[]⟩, .int .i64 0, .int .i64 0, .int .i64 0, .int .i64 0, .int .i64 0, .int .i64 0, .int .i64 0, .int .i64 0, .int .i64 0, .int .i64 0, .int .i64 0, .bool false, .bool false, .bool false, .slice none 0 0, .string ⟨#[]⟩] 36)).setCells w5.heap.size 0 (PZ).toList) w5.heap.size (PZ) := At.whole (vs := PZ) hX0 rfl
    go_wp2_with (refine wpList_store_mid (by rfl) 36 _ _ (by rfl) (w5.heap.size) 0 (PZ) (by rfl) (by rfl) hX0.there size36 PZ_one ?_)
    go_wp2
    go_meet
    case rel => exact ⟨w5.heap.size, p, rfl, rfl, bt hb hbx, hP.later hbx⟩
  case rest =>
  obtain ⟨B6, p, rfl, rfl, hb, hP⟩ := hcut
  replace hl := bt hl hb
  replace hA := hA.later hb
  replace hg := hg.later hb
  obtain ⟨w3, hw3⟩ : ∃ x, x = wc := ⟨wc, rfl⟩
  subst hw3
  clear hb HP
  go_upto_region 7 with fail
  go_cut [10, 11] from 18 (fun q y W => ∃ (B7 p2 : Nat), q = .pointer (some ⟨B7, 0, none⟩) ∧ y = .iface 88 (.pointer (some ⟨p2, 0, none⟩)) ∧ Below w3.heap.size w3 W ∧ At W p2 (FailV l a c))
  case first =>
    go_wp2_with (refine wpList_loadG 27 _ (by rfl) (by rfl) (w.heap.size + 1) 0 (by rfl) _ _ hA.range Tryz.underlying27 rfl size27 ?_)
    refine (HI.out _ (hG.later hl)).mono ?_
    rintro e w5 ⟨p2, rfl, hp2, hP2, hb⟩
    have hX0 : At (w5.alloc (.cells #[.int .i64 0, .int .i64 0, .int .i64 0, .int .i64 0, .string ⟨#[]⟩, .int .i64 0, .int .i64 0, .int .i64 0, .int .i64 0, .int .i64 0, .int .i64 0, .int .i64 0, .int .i64 0, .int .i64 0, .int .i64 0, .int .i64 0, .bool false, .bool false, .string ⟨#[]⟩, .string ⟨#[]⟩, .int .i64 0, .int .i64 0, .int .i64 0, .int .i64 0, .string ⟨#[]⟩, .int .i64 0, .int .i64 0, .int .i64 0, .int .i64 0, .int .i64 0, .int .i64 0, .int .i64 0, .int .i64 0, .int .i64 0, .int .i64 0, .int .i64 0, .bool false, .bool false, .bool false, .slice none 0 0, .string ⟨#[]⟩] 36)) w5.heap.size PZ := At.box w5 #[.int .i64 0, .int .i64 0, .int .i64 0, .int .i64 0, .string ⟨#[]⟩, .int .i64 0, .int .i64 0, .int .i64 0, .int .i64 0, .int .i64 0, .int .i64 0, .int .i64 0, .int .i64 0, .int .i64 0, .int .i64 0, .int .i64 0, .bool false, .bool false, .string ⟨#[]⟩, .string ⟨#[]⟩, .int .i64 0, .int .i64 0, .int .i64 0, .int .i64 0, .string ⟨#[]⟩, .int .i64 0, .int .i64 0, .int .i64 0, .int .i64 0, .int .i64 0, .int .i64 0, .int .i64 0, .int .i64 0, .int .i64 0, .int .i64 0, .int .i64 0, .bool false, .bool false, .bool false, .slice none 0 0, .string ⟨#[]⟩] 36
    have hbx : Below w5.heap.size w5 ((w5.alloc (.cells #[.int .i64 0, .int .i64 0, .int .i64 0, .int .i64 0, .string ⟨#[]⟩, .int .i64 0, .int .i64 0, .int .i64 0, .int .i64 0, .int .i64 0, .int .i64 0, .int .i64 0, .int .i64 0, .int .i64 0, .int .i64 0, .int .i64 0, .bool false, .bool false, .string ⟨#[]⟩, .string ⟨#[]⟩, .int .i64 0, .int .i64 0, .int .i64 0, .int .i64 0, .string ⟨#[]⟩, .int .i64 0, .int .i64 0, .int .i64 0, .int .i64 0, .int .i64 0, .int .i64 0, .int .i64 0, .int .i64 0, .int .i64 0, .int .i64 0, .int .i64 0, .bool false, .bool false, .bool false, .slice none 0 0, .string ⟨#[]⟩] 36)).setCells w5.heap.size 0 (PZ).toList) := Below.setCells (Nat.le_refl _) _ _ _ (bel1 w5 (.cells #[.int .i64 0, .int .i64 0, .int .i64 0, .int .i64 0, .string ⟨#[]⟩, .int .i64 0, .int .i64 0, .int .i64 0, .int .i64 0, .int .i64 0, .int .i64 0, .int .i64 0, .int .i64 0, .int .i64 0, .int .i64 0, .int .i64 0, .bool false, .bool false, .string ⟨#[]⟩, .string ⟨#[]⟩, .int .i64 0, .int .i64 0, .int .i64 0, .int .i64 0, .string ⟨#[]⟩, .int .i64 0, .int .i64 0, .int .i64 0, .int .i64 0, .int .i64 0, .int .i64 0, .int .i64 0, .int .i64 0, .int .i64 0, .int .i64 0, .int .i64 0, .bool false, .bool false, .bool false, .slice none 0 0, .string ⟨#[]⟩] 36))
    have hX : At ((w5.alloc (.cells #[.int .i64 0, .int .i64 0, .int .i64 0, .int .i64 0, .string ⟨#[]⟩, .int .i64 0, .int .i64 0, .int .i64 0, .int .i64 0, .int .i64 0, .int .i64 0, .int .i64 0, .int .i64 0, .int .i64 0, .int .i64 0, .int .i64 0, .bool false, .bool false, .string ⟨#[]⟩, .string ⟨#[]⟩, .int .i64 0, .int .i64 0, .int .i64 0, .int .i64 0, .string ⟨#[]⟩, .int .i64 0, .int .i64 0, .int .i64 0, .int .i64 0, .int .i64 0, .int .i64 0, .int .i64 0, .int .i64 0, .int .i64 0, .int .i64 0, .int .i64 0, .bool false, .bool false, .bool false, .slice none 0 0, .string ⟨#[]⟩] 36)).setCells w5.heap.size 0 (PZ).toList) w5.heap.size (PZ) := At.whole (vs := PZ) hX0 rfl
    go_wp2_with (refine wpList_store_mid (by rfl) 36 _ _ (by rfl) (w5.heap.size) 0 (PZ) (by rfl) (by rfl) hX0.there size36 PZ_one ?_)
    go_wp2
    go_meet
    case rel => exact ⟨w5.heap.size, p2, rfl, rfl, bt hb hbx, hP2.later hbx⟩
  case rest =>
  obtain ⟨B7, p2, rfl, rfl, hb, hP2⟩ := hcut
  replace hl := bt hl hb
  replace hP := hP.later hb
  obtain ⟨w6, hw6⟩ : ∃ x, x = wc := ⟨wc, rfl⟩
  subst hw6
  clear hb HI hA hg
  have T1 := HT.out _ _ _ _ _ (hG.later hl) hP
  have T2 := HT.out _ _ _ _ _ (hG.later hl) hP2
  have hw : IntKind.i64.wrap (a + 14) = a + 14 := by have := ha0.out; have := ha1.out; rw [IntKind.wrap_i64]; omega
  go_wp2_with fail
  refine ((T2 _ (Below.refl _ _)).1).mono ?_
  rintro e x1 ⟨rfl, k1⟩
  go_wp2_with fail
  refine ((T1 _ k1).1).mono ?_
  rintro e x2 ⟨rfl, hb⟩
  replace k1 := bt k1 hb
  go_wp2_with fail
  refine ((T1 _ k1).2.1).mono ?_
  rintro e x3 ⟨rfl, hb⟩
  replace k1 := bt k1 hb
  go_wp2_with fail
  refine ((T2 _ k1).2.1).mono ?_
  rintro e x4 ⟨rfl, hb⟩
  replace k1 := bt k1 hb
  go_wp2
  go_ret
  exact ⟨rfl, bt hl k1⟩
set_option maxHeartbeats 4000000 in
theorem pin_y (x : FrT) (y : PkT) (B E : ByteArray) (z z' : Pd) (w : World) (hG : OrE w) (HT : Hid TA) (HP : Hid (∀ W, OrE W → Calls Tryz.prog 9 #[.string E] W fun e w' => ∃ v, e = .returned (.tuple #[.agg (z'.v v), .nilIface]) ∧ RgA W.heap.size w' v z'.sg.o.rs ∧ Below W.heap.size W w'))
    (HI : Hid (∀ W, OrE W → Calls Tryz.prog 14 #[.agg #[.int .i64 y.f, .int .i64 y.t, .int .i64 y.tl, .int .i64 y.pr, .int .i64 y.id, .int .i64 y.fg, .bool y.mo, .bool y.dn, .string y.op, .string y.da]] W fun e w' => ∃ v, e = .returned (.tuple #[.agg (z.v v), .nilIface]) ∧ RgA W.heap.size w' v z.sg.o.rs ∧ Below W.heap.size W w')) (hz' : Hid (z' = ({ z with fr := (⟨x.a, x.b, 2048, B⟩ : FrT) } : Pd))) (hsg : Hid (z'.sg = z.sg)) (hn : z.sg.o.rs.length ≤ 4)
    (HFR : Hid (∀ W, Calls Tryz.prog 20 #[.agg #[.int .i64 x.a, .int .i64 x.b, .int .i64 x.k, .string x.d], .agg #[.int .i64 y.f, .int .i64 y.t, .int .i64 y.tl, .int .i64 y.pr, .int .i64 y.id, .int .i64 y.fg, .bool y.mo, .bool y.dn, .string y.op, .string y.da]] W fun e w' => e = .returned (.tuple #[.string E, .agg #[.int .i64 x.a, .int .i64 x.b, .int .i64 2048, .string B], .bool true]) ∧ Below W.heap.size W w')) :
    Calls Tryz.prog 8 #[.agg #[.int .i64 x.a, .int .i64 x.b, .int .i64 x.k, .string x.d], .agg #[.int .i64 y.f, .int .i64 y.t, .int .i64 y.tl, .int .i64 y.pr, .int .i64 y.id, .int .i64 y.fg, .bool y.mo, .bool y.dn, .string y.op, .string y.da]] w fun e w' => e = .returned (.bool true) ∧ Below w.heap.size w w' := by
  rw [← hsg.out] at HI hn
  have hb1 := bel1 w (.cells #[.int .i64 x.a, .int .i64 x.b, .int .i64 x.k, .string x.d] 23)
  have hb2 := bel1 (w.alloc (.cells #[.int .i64 x.a, .int .i64 x.b, .int .i64 x.k, .string x.d] 23)) (.cells #[.int .i64 y.f, .int .i64 y.t, .int .i64 y.tl, .int .i64 y.pr, .int .i64 y.id, .int .i64 y.fg, .bool y.mo, .bool y.dn, .string y.op, .string y.da] 27)
  have hF := (At.box w #[.int .i64 x.a, .int .i64 x.b, .int .i64 x.k, .string x.d] 23).later hb2
  have hA := At.box2 w (.cells #[.int .i64 x.a, .int .i64 x.b, .int .i64 x.k, .string x.d] 23) #[.int .i64 y.f, .int .i64 y.t, .int .i64 y.tl, .int .i64 y.pr, .int .i64 y.id, .int .i64 y.fg, .bool y.mo, .bool y.dn, .string y.op, .string y.da] 27
  have hl := bt hb1 hb2
  clear hb1 hb2
  go_enter Tryz.func8, Tryz.ntmps8
  go_upto_region 1 with fail
  generalize hw0 : (w.alloc (.cells #[.int .i64 x.a, .int .i64 x.b, .int .i64 x.k, .string x.d] 23)).alloc (.cells #[.int .i64 y.f, .int .i64 y.t, .int .i64 y.tl, .int .i64 y.pr, .int .i64 y.id, .int .i64 y.fg, .bool y.mo, .bool y.dn, .string y.op, .string y.da] 27) = w0 at *
  clear hw0
  go_wp2_with fail
  refine (works_p _ (hG.later hl) HT).mono ?_
  rintro e w1 ⟨rfl, hb⟩
  replace hl := bt hl hb
  replace hF := hF.later hb
  replace hA := hA.later hb
  clear hb
  go_upto_region 3 with fail
  go_cut [5, 6, 7] from 18 (fun q g k W => ∃ BG : Nat, q = .string E ∧ g = .pointer (some ⟨BG, 0, none⟩) ∧ k = .bool true ∧ At W BG #[.int .i64 x.a, .int .i64 x.b, .int .i64 2048, .string B] ∧ Below w1.heap.size w1 W)
  case first =>
    go_wp2_with (first | (refine wpList_loadG 23 _ (by rfl) (by rfl) (w.heap.size) 0 (by rfl) _ _ hF.range Tryz.underlying23 rfl size23 ?_) | (refine wpList_loadG 27 _ (by rfl) (by rfl) (w.heap.size + 1) 0 (by rfl) _ _ hA.range Tryz.underlying27 rfl size27 ?_))
    refine (HFR.out _).mono ?_
    rintro e w5 ⟨rfl, hb⟩
    go_wp2
    go_meet
    case rel => exact ⟨w5.heap.size, rfl, rfl, rfl, At.box w5 #[.int .i64 x.a, .int .i64 x.b, .int .i64 2048, .string B] 23, bt hb (bel1 w5 (.cells #[.int .i64 x.a, .int .i64 x.b, .int .i64 2048, .string B] 23))⟩
  case rest =>
  obtain ⟨BG, rfl, rfl, rfl, hg, hb⟩ := hcut
  replace hl := bt hl hb
  replace hA := hA.later hb
  clear hb hF HFR
  obtain ⟨w2, hw2⟩ : ∃ x, x = wc := ⟨wc, rfl⟩
  subst hw2
  go_upto_region 6 with fail
  go_cut [8, 9] from 18 (fun q y W => ∃ (B6 : Nat) (a0 : Option Addr) (cap0 : Nat), q = .pointer (some ⟨B6, 0, none⟩) ∧ y = .nilIface ∧ Below w2.heap.size w2 W ∧ Rgs W (.slice a0 z'.sg.o.rs.length cap0) z'.sg.o.rs ∧ At W B6 (z'.v (.slice a0 z'.sg.o.rs.length cap0)))
  case first =>
    go_wp2_with fail
    refine (HP.out _ (hG.later hl)).mono ?_
    rintro e w5 ⟨v, rfl, hv, hb⟩
    obtain ⟨a0, cap0, hve, -⟩ := id hv
    subst hve
    have hX0 : At (w5.alloc (.cells #[.int .i64 0, .int .i64 0, .int .i64 0, .int .i64 0, .string ⟨#[]⟩, .int .i64 0, .int .i64 0, .int .i64 0, .int .i64 0, .int .i64 0, .int .i64 0, .int .i64 0, .int .i64 0, .int .i64 0, .int .i64 0, .int .i64 0, .bool false, .bool false, .string ⟨#[]⟩, .string ⟨#[]⟩, .int .i64 0, .int .i64 0, .int .i64 0, .int .i64 0, .string ⟨#[]⟩, .int .i64 0, .int .i64 0, .int .i64 0, .int .i64 0, .int .i64 0, .int .i64 0, .int .i64 0, .int .i64 0, .int .i64 0, .int .i64 0, .int .i64 0, .bool false, .bool false, .bool false, .slice none 0 0, .string ⟨#[]⟩] 36)) w5.heap.size PZ := At.box w5 #[.int .i64 0, .int .i64 0, .int .i64 0, .int .i64 0, .string ⟨#[]⟩, .int .i64 0, .int .i64 0, .int .i64 0, .int .i64 0, .int .i64 0, .int .i64 0, .int .i64 0, .int .i64 0, .int .i64 0, .int .i64 0, .int .i64 0, .bool false, .bool false, .string ⟨#[]⟩, .string ⟨#[]⟩, .int .i64 0, .int .i64 0, .int .i64 0, .int .i64 0, .string ⟨#[]⟩, .int .i64 0, .int .i64 0, .int .i64 0, .int .i64 0, .int .i64 0, .int .i64 0, .int .i64 0, .int .i64 0, .int .i64 0, .int .i64 0, .int .i64 0, .bool false, .bool false, .bool false, .slice none 0 0, .string ⟨#[]⟩] 36
    have hbx : Below w5.heap.size w5 ((w5.alloc (.cells #[.int .i64 0, .int .i64 0, .int .i64 0, .int .i64 0, .string ⟨#[]⟩, .int .i64 0, .int .i64 0, .int .i64 0, .int .i64 0, .int .i64 0, .int .i64 0, .int .i64 0, .int .i64 0, .int .i64 0, .int .i64 0, .int .i64 0, .bool false, .bool false, .string ⟨#[]⟩, .string ⟨#[]⟩, .int .i64 0, .int .i64 0, .int .i64 0, .int .i64 0, .string ⟨#[]⟩, .int .i64 0, .int .i64 0, .int .i64 0, .int .i64 0, .int .i64 0, .int .i64 0, .int .i64 0, .int .i64 0, .int .i64 0, .int .i64 0, .int .i64 0, .bool false, .bool false, .bool false, .slice none 0 0, .string ⟨#[]⟩] 36)).setCells w5.heap.size 0 (z'.v (.slice a0 z'.sg.o.rs.length cap0)).toList) := Below.setCells (Nat.le_refl _) _ _ _ (bel1 w5 (.cells #[.int .i64 0, .int .i64 0, .int .i64 0, .int .i64 0, .string ⟨#[]⟩, .int .i64 0, .int .i64 0, .int .i64 0, .int .i64 0, .int .i64 0, .int .i64 0, .int .i64 0, .int .i64 0, .int .i64 0, .int .i64 0, .int .i64 0, .bool false, .bool false, .string ⟨#[]⟩, .string ⟨#[]⟩, .int .i64 0, .int .i64 0, .int .i64 0, .int .i64 0, .string ⟨#[]⟩, .int .i64 0, .int .i64 0, .int .i64 0, .int .i64 0, .int .i64 0, .int .i64 0, .int .i64 0, .int .i64 0, .int .i64 0, .int .i64 0, .int .i64 0, .bool false, .bool false, .bool false, .slice none 0 0, .string ⟨#[]⟩] 36))
    have hX : At ((w5.alloc (.cells #[.int .i64 0, .int .i64 0, .int .i64 0, .int .i64 0, .string ⟨#[]⟩, .int .i64 0, .int .i64 0, .int .i64 0, .int .i64 0, .int .i64 0, .int .i64 0, .int .i64 0, .int .i64 0, .int .i64 0, .int .i64 0, .int .i64 0, .bool false, .bool false, .string ⟨#[]⟩, .string ⟨#[]⟩, .int .i64 0, .int .i64 0, .int .i64 0, .int .i64 0, .string ⟨#[]⟩, .int .i64 0, .int .i64 0, .int .i64 0, .int .i64 0, .int .i64 0, .int .i64 0, .int .i64 0, .int .i64 0, .int .i64 0, .int .i64 0, .int .i64 0, .bool false, .bool false, .bool false, .slice none 0 0, .string ⟨#[]⟩] 36)).setCells w5.heap.size 0 (z'.v (.slice a0 z'.sg.o.rs.length cap0)).toList) w5.heap.size (z'.v (.slice a0 z'.sg.o.rs.length cap0)) := At.whole (vs := z'.v (.slice a0 z'.sg.o.rs.length cap0)) hX0 rfl
    go_wp2_with (refine wpList_store_mid (by rfl) 36 _ _ (by rfl) (w5.heap.size) 0 (z'.v (.slice a0 z'.sg.o.rs.length cap0)) (by rfl) (by rfl) hX0.there size36 (Pd.one _ rfl) ?_)
    go_wp2
    go_meet
    case rel => exact ⟨w5.heap.size, a0, cap0, rfl, rfl, bt hb hbx, (hv.later hbx).rgs, hX⟩
  case rest =>
  obtain ⟨B6, a0, cap0, rfl, rfl, hb, hv, hXA⟩ := hcut
  replace hl := bt hl hb
  replace hA := hA.later hb
  replace hg := hg.later hb
  obtain ⟨w3, hw3⟩ : ∃ x, x = wc := ⟨wc, rfl⟩
  subst hw3
  clear hb HP
  go_upto_region 7 with fail
  go_cut [10, 11] from 18 (fun q y W => ∃ (w5 : World) (a1 : Option Addr) (cap1 : Nat), q = .pointer (some ⟨w5.heap.size, 0, none⟩) ∧ y = .nilIface ∧ Below w3.heap.size w3 w5 ∧ RgA w3.heap.size w5 (.slice a1 z'.sg.o.rs.length cap1) z'.sg.o.rs ∧ Below w5.heap.size w5 W ∧ At W w5.heap.size (z.v (.slice a1 z'.sg.o.rs.length cap1)))
  case first =>
    go_wp2_with (refine wpList_loadG 27 _ (by rfl) (by rfl) (w.heap.size + 1) 0 (by rfl) _ _ hA.range Tryz.underlying27 rfl size27 ?_)
    refine (HI.out _ (hG.later hl)).mono ?_
    rintro e w5 ⟨v, rfl, hv1, hb⟩
    obtain ⟨a1, cap1, hve, -⟩ := id hv1
    subst hve
    have hX0 : At (w5.alloc (.cells #[.int .i64 0, .int .i64 0, .int .i64 0, .int .i64 0, .string ⟨#[]⟩, .int .i64 0, .int .i64 0, .int .i64 0, .int .i64 0, .int .i64 0, .int .i64 0, .int .i64 0, .int .i64 0, .int .i64 0, .int .i64 0, .int .i64 0, .bool false, .bool false, .string ⟨#[]⟩, .string ⟨#[]⟩, .int .i64 0, .int .i64 0, .int .i64 0, .int .i64 0, .string ⟨#[]⟩, .int .i64 0, .int .i64 0, .int .i64 0, .int .i64 0, .int .i64 0, .int .i64 0, .int .i64 0, .int .i64 0, .int .i64 0, .int .i64 0, .int .i64 0, .bool false, .bool false, .bool false, .slice none 0 0, .string ⟨#[]⟩] 36)) w5.heap.size PZ := At.box w5 #[.int .i64 0, .int .i64 0, .int .i64 0, .int .i64 0, .string ⟨#[]⟩, .int .i64 0, .int .i64 0, .int .i64 0, .int .i64 0, .int .i64 0, .int .i64 0, .int .i64 0, .int .i64 0, .int .i64 0, .int .i64 0, .int .i64 0, .bool false, .bool false, .string ⟨#[]⟩, .string ⟨#[]⟩, .int .i64 0, .int .i64 0, .int .i64 0, .int .i64 0, .string ⟨#[]⟩, .int .i64 0, .int .i64 0, .int .i64 0, .int .i64 0, .int .i64 0, .int .i64 0, .int .i64 0, .int .i64 0, .int .i64 0, .int .i64 0, .int .i64 0, .bool false, .bool false, .bool false, .slice none 0 0, .string ⟨#[]⟩] 36
    have hbx : Below w5.heap.size w5 ((w5.alloc (.cells #[.int .i64 0, .int .i64 0, .int .i64 0, .int .i64 0, .string ⟨#[]⟩, .int .i64 0, .int .i64 0, .int .i64 0, .int .i64 0, .int .i64 0, .int .i64 0, .int .i64 0, .int .i64 0, .int .i64 0, .int .i64 0, .int .i64 0, .bool false, .bool false, .string ⟨#[]⟩, .string ⟨#[]⟩, .int .i64 0, .int .i64 0, .int .i64 0, .int .i64 0, .string ⟨#[]⟩, .int .i64 0, .int .i64 0, .int .i64 0, .int .i64 0, .int .i64 0, .int .i64 0, .int .i64 0, .int .i64 0, .int .i64 0, .int .i64 0, .int .i64 0, .bool false, .bool false, .bool false, .slice none 0 0, .string ⟨#[]⟩] 36)).setCells w5.heap.size 0 (z.v (.slice a1 z'.sg.o.rs.length cap1)).toList) := Below.setCells (Nat.le_refl _) _ _ _ (bel1 w5 (.cells #[.int .i64 0, .int .i64 0, .int .i64 0, .int .i64 0, .string ⟨#[]⟩, .int .i64 0, .int .i64 0, .int .i64 0, .int .i64 0, .int .i64 0, .int .i64 0, .int .i64 0, .int .i64 0, .int .i64 0, .int .i64 0, .int .i64 0, .bool false, .bool false, .string ⟨#[]⟩, .string ⟨#[]⟩, .int .i64 0, .int .i64 0, .int .i64 0, .int .i64 0, .string ⟨#[]⟩, .int .i64 0, .int .i64 0, .int .i64 0, .int .i64 0, .int .i64 0, .int .i64 0, .int .i64 0, .int .i64 0, .int .i64 0, .int .i64 0, .int .i64 0, .bool false, .bool false, .bool false, .slice none 0 0, .string ⟨#[]⟩] 36))
    have hX : At ((w5.alloc (.cells #[.int .i64 0, .int .i64 0, .int .i64 0, .int .i64 0, .string ⟨#[]⟩, .int .i64 0, .int .i64 0, .int .i64 0, .int .i64 0, .int .i64 0, .int .i64 0, .int .i64 0, .int .i64 0, .int .i64 0, .int .i64 0, .int .i64 0, .bool false, .bool false, .string ⟨#[]⟩, .string ⟨#[]⟩, .int .i64 0, .int .i64 0, .int .i64 0, .int .i64 0, .string ⟨#[]⟩, .int .i64 0, .int .i64 0, .int .i64 0, .int .i64 0, .int .i64 0, .int .i64 0, .int .i64 0, .int .i64 0, .int .i64 0, .int .i64 0, .int .i64 0, .bool false, .bool false, .bool false, .slice none 0 0, .string ⟨#[]⟩] 36)).setCells w5.heap.size 0 (z.v (.slice a1 z'.sg.o.rs.length cap1)).toList) w5.heap.size (z.v (.slice a1 z'.sg.o.rs.length cap1)) := At.whole (vs := z.v (.slice a1 z'.sg.o.rs.length cap1)) hX0 rfl
    go_wp2_with (refine wpList_store_mid (by rfl) 36 _ _ (by rfl) (w5.heap.size) 0 (z.v (.slice a1 z'.sg.o.rs.length cap1)) (by rfl) (by rfl) hX0.there size36 (Pd.one _ rfl) ?_)
    go_wp2
    go_meet
    case rel => exact ⟨w5, a1, cap1, rfl, rfl, hb, hv1, hbx, hX⟩
  case rest =>
  obtain ⟨w5, a1, cap1, rfl, rfl, hb5, hv1, hb6, hXB⟩ := hcut
  have hb56 := bt hb5 hb6
  have hXA2 := hXA.later hb56
  have hg2 := hg.later hb56
  have hle : B6 < w3.heap.size := hXA.1
  have hle5 : w3.heap.size ≤ w5.heap.size := hb5.size
  have hb7 : Below w5.heap.size w5 (wc.setCells w5.heap.size 1 [.int .i64 x.a, .int .i64 x.b, .int .i64 2048, .string B]) := Below.setCells (Nat.le_refl _) _ _ _ hb6
  have hXB2 := hXB.setFr (⟨x.a, x.b, 2048, B⟩ : FrT)
  rw [← hz'.out] at hXB2
  have hXA3 := hXA.later (bt hb5 hb7)
  have hv2 := hv.later (bt hb5 hb7)
  have hv3 := (hv1.later hb7).rgs
  have hl7 := bt (bt hl hb5) hb7
  clear hl HI hA hXA hg hv hv1 hb5 hb6 hb7 hb56 hXA2
  go_upto_region 13 with (first | (refine wpList_loadG 23 _ (by rfl) (by rfl) BG 0 (by rfl) _ _ hg2.range Tryz.underlying23 rfl size23 ?_) | (refine wpList_store_mid (by rfl) 23 _ _ (by rfl) w5.heap.size 1 #[.int .i64 x.a, .int .i64 x.b, .int .i64 2048, .string B] (by rfl) (by rfl) hXB.mid4 size23 (by simp [Value.oneCell']) ?_))
  generalize wc.setCells w5.heap.size 1 [.int .i64 x.a, .int .i64 x.b, .int .i64 2048, .string B] = w9 at *
  clear hXB hg2
  have q1 := eqs23 z'
  have q3 := eqs27 z'
  have q4 := eqs29 z'
  have ca := (hXA3.2 0 (.int .i64 z'.k) rfl).1
  have cb := (hXB2.2 0 (.int .i64 z'.k) rfl).1
  go_wp2_with (first
    | (refine wpList_loadG 23 _ (by rfl) (by rfl) B6 1 (by rfl) _ _ hXA3.p1 Tryz.underlying23 rfl size23 ?_)
    | (refine wpList_loadG 23 _ (by rfl) (by rfl) w5.heap.size 1 (by rfl) _ _ hXB2.p1 Tryz.underlying23 rfl size23 ?_)
    | (refine wpList_loadG 27 _ (by rfl) (by rfl) B6 10 (by rfl) _ _ hXA3.p10 Tryz.underlying27 rfl size27 ?_)
    | (refine wpList_loadG 27 _ (by rfl) (by rfl) w5.heap.size 10 (by rfl) _ _ hXB2.p10 Tryz.underlying27 rfl size27 ?_)
    | (refine wpList_loadG 29 _ (by rfl) (by rfl) B6 20 (by rfl) _ _ hXA3.p20 Tryz.underlying29 rfl size29 ?_)
    | (refine wpList_loadG 29 _ (by rfl) (by rfl) w5.heap.size 20 (by rfl) _ _ hXB2.p20 Tryz.underlying29 rfl size29 ?_)
    | (refine wpList_loadG 34 _ (by rfl) (by rfl) B6 25 (by rfl) _ _ hXA3.p25 Tryz.underlying34 rfl size34 ?_)
    | (refine wpList_loadG 34 _ (by rfl) (by rfl) w5.heap.size 25 (by rfl) _ _ hXB2.p25 Tryz.underlying34 rfl size34 ?_))
  refine (same_s z'.sg z'.sg _ _ w9 hv2 hv3 (by omega) (by omega)).mono ?_
  rintro e x1 ⟨rfl, hb⟩
  rw [sameG_refl]
  go_wp2
  go_ret
  exact ⟨rfl, bt hl7 hb⟩
end Go.Proofs.YtkpdmgoldngdaaaGreatDoor

namespace Go.Proofs.YtkpdmgoldngdaaaGreatDoor
open Go.RowKit
set_option maxRecDepth 100000
set_option linter.unusedVariables false
theorem pin_any (x : FrT) (y : PkT) (w : World) (hG : OrE w) (ho : y.op.size ≤ 140737488355328) (hd : y.da.size ≤ 140737488351232) (HSN : ShNil) (HSF : ShFail 14) (HT : TA) :
    Calls Tryz.prog 8 #[.agg #[.int .i64 x.a, .int .i64 x.b, .int .i64 x.k, .string x.d], .agg #[.int .i64 y.f, .int .i64 y.t, .int .i64 y.tl, .int .i64 y.pr, .int .i64 y.id, .int .i64 y.fg, .bool y.mo, .bool y.dn, .string y.op, .string y.da]] w fun e w' => e = .returned (.bool true) ∧ Below w.heap.size w w' := by
  rcases Bool.eq_false_or_eq_true (Ip.mayP y.f y.t y.tl y.pr y.id y.fg y.mo y.op.size y.da.size) with hm | hm
  case inr =>
    have HI := fun W => Ip.enc_n (dn := y.dn) hm W (by omega) (by omega)
    have HE := fun W => Eth.enc_any x.a x.b 2048 ⟨#[]⟩ W (Nat.zero_le _)
    exact pin_n x y _ _ w hG HT (fun W => frm_n x y _ _ _ _ W rfl HI HE)
  have HI := fun W => Ip.enc_y (dn := y.dn) hm W
  have hz : (Ip.encP y.f y.t y.tl y.pr y.id y.fg y.mo y.dn y.op y.da).size ≤ 65535 := Ip.encP_le hm
  have HE := fun W => Eth.enc_any x.a x.b 2048 (Ip.encP y.f y.t y.tl y.pr y.id y.fg y.mo y.dn y.op y.da) W (by unfold maxLen; omega)
  rcases Bool.eq_false_or_eq_true (Eth.mayB x.a x.b 2048 (Ip.encP y.f y.t y.tl y.pr y.id y.fg y.mo y.dn y.op y.da).size) with hk | hk
  case inr =>
    rw [hk] at HE
    exact pin_n x y _ _ w hG HT (fun W => frm_y x y _ _ _ _ W rfl false rfl HI HE)
  rw [hk, show Eth.encV x.a x.b 2048 (Ip.encP y.f y.t y.tl y.pr y.id y.fg y.mo y.dn y.op y.da) = (Eth.encS x.a x.b 2048 (Ip.encP y.f y.t y.tl y.pr y.id y.fg y.mo y.dn y.op y.da)) by unfold Eth.encV; rw [if_pos hk]] at HE
  have HFR := fun W => frm_y x y _ _ _ _ W rfl true rfl HI HE
  obtain ⟨r, N1, -, hr, hq⟩ := inn_both y ho hd
  have P1 := par_inn x y r hm hk HSN HSF N1 hr hq ho
  cases r with
  | error t =>
    obtain ⟨l, a, c⟩ := t
    exact pin_e x y _ _ l a c w hG HT P1 N1 hr.1 hr.2.1 HFR
  | ok z => exact pin_y x y _ _ z _ w hG HT P1 N1 rfl rfl hr HFR
end Go.Proofs.YtkpdmgoldngdaaaGreatDoor
