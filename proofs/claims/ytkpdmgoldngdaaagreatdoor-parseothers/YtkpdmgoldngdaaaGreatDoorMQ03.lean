/- the texts Vc, Vf, Vg, in part, merged by program -/
import Derived.Test.YtkpdmgoldngdaaaGreatDoorProg
import Derived.Test.YtkpdmgoldngdaaaGreatDoorRows
import Derived.Deep.MidRow
import Derived.Deep.Cut
import Derived.WalkKit
import Derived.WalkSpells
import Derived.RegionTactic
import Derived.Below
import Derived.Laws.Tables
import Derived.Great.BuildSlice
import Derived.Laws.OwnMore
import Derived.Laws.AppendOwn
import Derived.Laws.AppendOwnNone
import Derived.Deep.LoopGhost
import Derived.Deep.RegionHeld3
import Derived.Deep.QuietTactic
import Derived.BigQuiet
import Derived.WalkSmall
import Derived.Laws.StructEq
import Derived.BigRegion
import Derived.Deep.Light
import Derived.Shelf.Strings.Repeat
import Derived.Deep.RegionWith
import Derived.LoopN
import Derived.Deep.CutRange
import Derived.Test.YtkpdmgoldngdaaaGreatDoorMA01
import Derived.Test.YtkpdmgoldngdaaaGreatDoorMA02
import Derived.Test.YtkpdmgoldngdaaaGreatDoorMA03
import Derived.Test.YtkpdmgoldngdaaaGreatDoorMA04
import Derived.Test.YtkpdmgoldngdaaaGreatDoorMA05
import Derived.Test.YtkpdmgoldngdaaaGreatDoorMA06
import Derived.Test.YtkpdmgoldngdaaaGreatDoorMA07
import Derived.Test.YtkpdmgoldngdaaaGreatDoorMB01
import Derived.Test.YtkpdmgoldngdaaaGreatDoorMB02
import Derived.Test.YtkpdmgoldngdaaaGreatDoorMD01
import Derived.Test.YtkpdmgoldngdaaaGreatDoorMD02
import Derived.Test.YtkpdmgoldngdaaaGreatDoorMD03
import Derived.Test.YtkpdmgoldngdaaaGreatDoorMD04
import Derived.Test.YtkpdmgoldngdaaaGreatDoorMD05
import Derived.Test.YtkpdmgoldngdaaaGreatDoorME01
import Derived.Test.YtkpdmgoldngdaaaGreatDoorME02
import Derived.Test.YtkpdmgoldngdaaaGreatDoorMG01
import Derived.Test.YtkpdmgoldngdaaaGreatDoorMG02
import Derived.Test.YtkpdmgoldngdaaaGreatDoorMG03
import Derived.Test.YtkpdmgoldngdaaaGreatDoorMG04
import Derived.Test.YtkpdmgoldngdaaaGreatDoorMG05
import Derived.Test.YtkpdmgoldngdaaaGreatDoorMG06
import Derived.Test.YtkpdmgoldngdaaaGreatDoorMH01
import Derived.Test.YtkpdmgoldngdaaaGreatDoorMH02
import Derived.Test.YtkpdmgoldngdaaaGreatDoorMH03
import Derived.Test.YtkpdmgoldngdaaaGreatDoorMI01
import Derived.Test.YtkpdmgoldngdaaaGreatDoorMN01
import Derived.Test.YtkpdmgoldngdaaaGreatDoorMN02
import Derived.Test.YtkpdmgoldngdaaaGreatDoorMO01
import Derived.Test.YtkpdmgoldngdaaaGreatDoorMO02
import Derived.Test.YtkpdmgoldngdaaaGreatDoorMO03
import Derived.Test.YtkpdmgoldngdaaaGreatDoorMP01
import Derived.Test.YtkpdmgoldngdaaaGreatDoorMQ01
import Derived.Test.YtkpdmgoldngdaaaGreatDoorMQ02
namespace Go.Proofs.YtkpdmgoldngdaaaGreatDoor
open Go.RowKit
set_option maxRecDepth 100000
set_option linter.unusedVariables false
set_option maxHeartbeats 8000000 in
theorem con_1 (x : FrT) (y : ArT) (c : Int) (w : World)
    (q : (x.k == 2054) = true)
    (HAR : Hid (∀ W, Calls Tryz.prog 60 #[.string x.d] W fun e w' => e = .returned (.tuple #[.agg #[.int .i64 y.o, .int .i64 y.fm, .int .i64 y.fi, .int .i64 y.tm, .int .i64 y.ti], .int .i64 c]) ∧ Below W.heap.size W w'))
    (hc : (c != 0) = true) :
    Calls Tryz.prog 28 #[.agg #[.int .i64 x.a, .int .i64 x.b, .int .i64 x.k, .string x.d]] w fun e w' => ∃ p, e = .returned (.tuple #[.agg PZ, .iface 88 (.pointer (some ⟨p, 0, none⟩))]) ∧ w.heap.size ≤ p ∧ At w' p (FailV ⟨#[97, 114, 112]⟩ (14) (c)) ∧ Below w.heap.size w w' := by
  have hb1 := bel1 w (.cells #[.int .i64 x.a, .int .i64 x.b, .int .i64 x.k, .string x.d] 23)
  have hb2 := bel1 (w.alloc (.cells #[.int .i64 x.a, .int .i64 x.b, .int .i64 x.k, .string x.d] 23)) (.cells #[.int .i64 0, .int .i64 0, .int .i64 0, .int .i64 0, .string ⟨#[]⟩, .int .i64 0, .int .i64 0, .int .i64 0, .int .i64 0, .int .i64 0, .int .i64 0, .int .i64 0, .int .i64 0, .int .i64 0, .int .i64 0, .int .i64 0, .bool false, .bool false, .string ⟨#[]⟩, .string ⟨#[]⟩, .int .i64 0, .int .i64 0, .int .i64 0, .int .i64 0, .string ⟨#[]⟩, .int .i64 0, .int .i64 0, .int .i64 0, .int .i64 0, .int .i64 0, .int .i64 0, .int .i64 0, .int .i64 0, .int .i64 0, .int .i64 0, .int .i64 0, .bool false, .bool false, .bool false, .slice none 0 0, .string ⟨#[]⟩] 36)
  have hA := (At.box w #[.int .i64 x.a, .int .i64 x.b, .int .i64 x.k, .string x.d] 23).later hb2
  have hR : At ((w.alloc (.cells #[.int .i64 x.a, .int .i64 x.b, .int .i64 x.k, .string x.d] 23)).alloc (.cells #[.int .i64 0, .int .i64 0, .int .i64 0, .int .i64 0, .string ⟨#[]⟩, .int .i64 0, .int .i64 0, .int .i64 0, .int .i64 0, .int .i64 0, .int .i64 0, .int .i64 0, .int .i64 0, .int .i64 0, .int .i64 0, .int .i64 0, .bool false, .bool false, .string ⟨#[]⟩, .string ⟨#[]⟩, .int .i64 0, .int .i64 0, .int .i64 0, .int .i64 0, .string ⟨#[]⟩, .int .i64 0, .int .i64 0, .int .i64 0, .int .i64 0, .int .i64 0, .int .i64 0, .int .i64 0, .int .i64 0, .int .i64 0, .int .i64 0, .int .i64 0, .bool false, .bool false, .bool false, .slice none 0 0, .string ⟨#[]⟩] 36)) (w.heap.size + 1) PZ := At.box2 w (.cells #[.int .i64 x.a, .int .i64 x.b, .int .i64 x.k, .string x.d] 23) #[.int .i64 0, .int .i64 0, .int .i64 0, .int .i64 0, .string ⟨#[]⟩, .int .i64 0, .int .i64 0, .int .i64 0, .int .i64 0, .int .i64 0, .int .i64 0, .int .i64 0, .int .i64 0, .int .i64 0, .int .i64 0, .int .i64 0, .bool false, .bool false, .string ⟨#[]⟩, .string ⟨#[]⟩, .int .i64 0, .int .i64 0, .int .i64 0, .int .i64 0, .string ⟨#[]⟩, .int .i64 0, .int .i64 0, .int .i64 0, .int .i64 0, .int .i64 0, .int .i64 0, .int .i64 0, .int .i64 0, .int .i64 0, .int .i64 0, .int .i64 0, .bool false, .bool false, .bool false, .slice none 0 0, .string ⟨#[]⟩] 36
  have hl := bt hb1 hb2
  have hz := buildZ
  clear hb1 hb2
  go_enter Tryz.func28, Tryz.ntmps28
  go_upto_region 1 with fail
  generalize hw0 : (w.alloc (.cells #[.int .i64 x.a, .int .i64 x.b, .int .i64 x.k, .string x.d] 23)).alloc (.cells #[.int .i64 0, .int .i64 0, .int .i64 0, .int .i64 0, .string ⟨#[]⟩, .int .i64 0, .int .i64 0, .int .i64 0, .int .i64 0, .int .i64 0, .int .i64 0, .int .i64 0, .int .i64 0, .int .i64 0, .int .i64 0, .int .i64 0, .bool false, .bool false, .string ⟨#[]⟩, .string ⟨#[]⟩, .int .i64 0, .int .i64 0, .int .i64 0, .int .i64 0, .string ⟨#[]⟩, .int .i64 0, .int .i64 0, .int .i64 0, .int .i64 0, .int .i64 0, .int .i64 0, .int .i64 0, .int .i64 0, .int .i64 0, .int .i64 0, .int .i64 0, .bool false, .bool false, .bool false, .slice none 0 0, .string ⟨#[]⟩] 36) = w0 at *
  clear hw0
  have c2 := (hA.2 2 _ rfl).1
  have c3 := (hA.2 3 _ rfl).1
  go_wp2_with fail
  refine (HAR.out _).mono ?_
  rintro e w3 ⟨rfl, hb⟩
  have hbx := bel1 w3 (.cells #[.int .i64 y.o, .int .i64 y.fm, .int .i64 y.fi, .int .i64 y.tm, .int .i64 y.ti] 25)
  have hI := At.box w3 #[.int .i64 y.o, .int .i64 y.fm, .int .i64 y.fi, .int .i64 y.tm, .int .i64 y.ti] 25
  replace hb := bt hb hbx
  replace hl := bt hl hb
  replace hA := hA.later hb
  replace hR := hR.later hb
  clear hb HAR c2 c3
  go_upto_region 4 with fail
  obtain ⟨B6, hB6⟩ : ∃ B, B = w3.heap.size := ⟨_, rfl⟩
  rw [← hB6] at hI ⊢
  generalize w3.alloc (.cells #[.int .i64 y.o, .int .i64 y.fm, .int .i64 y.fi, .int .i64 y.tm, .int .i64 y.ti] 25) = w4 at *
  clear hbx hB6
  go_wp2_with fail
  refine (refuse_s _ _ _ _).mono ?_
  rintro e wr ⟨p, rfl, hp, hP, hb⟩
  have hlt := Nat.lt_of_lt_of_le hR.1 hp
  have hwp := Nat.le_trans hl.size hp
  replace hl := bt hl hb
  replace hR := hR.later hb
  clear hb
  go_wp2_with (refine wpList_store_mid (by rfl) 36 _ _ (by rfl) (w.heap.size + 1) 0 (PZ) (by rfl) (by rfl) hR.there size36 PZ_one ?_)
  go_wp2
  exact bodyPost_ret (v := .tuple #[.agg PZ, .iface 88 (.pointer (some ⟨p, 0, none⟩))]) (ret_cell41 (by rfl) (At.whole (vs := PZ) hR rfl) rfl (by rfl) (by rfl)) (by rfl) ⟨p, rfl, hwp, At.apart hP (Nat.ne_of_lt hlt) _ _, Below.setCells (by omega) _ _ _ hl⟩
set_option maxHeartbeats 8000000 in
theorem con_3 (x : FrT) (y : PkT) (c : Int) (w : World)
    (q : (x.k == 2054) = false) (q2 : (x.k == 2048) = true)
    (HIP : Hid (∀ W, Calls Tryz.prog 61 #[.string x.d] W fun e w' => e = .returned (.tuple #[.agg #[.int .i64 y.f, .int .i64 y.t, .int .i64 y.tl, .int .i64 y.pr, .int .i64 y.id, .int .i64 y.fg, .bool y.mo, .bool y.dn, .string y.op, .string y.da], .int .i64 c]) ∧ Below W.heap.size W w'))
    (hc : (c != 0) = true) :
    Calls Tryz.prog 28 #[.agg #[.int .i64 x.a, .int .i64 x.b, .int .i64 x.k, .string x.d]] w fun e w' => ∃ p, e = .returned (.tuple #[.agg PZ, .iface 88 (.pointer (some ⟨p, 0, none⟩))]) ∧ w.heap.size ≤ p ∧ At w' p (FailV ⟨#[105, 112]⟩ (14) (c)) ∧ Below w.heap.size w w' := by
  have hb1 := bel1 w (.cells #[.int .i64 x.a, .int .i64 x.b, .int .i64 x.k, .string x.d] 23)
  have hb2 := bel1 (w.alloc (.cells #[.int .i64 x.a, .int .i64 x.b, .int .i64 x.k, .string x.d] 23)) (.cells #[.int .i64 0, .int .i64 0, .int .i64 0, .int .i64 0, .string ⟨#[]⟩, .int .i64 0, .int .i64 0, .int .i64 0, .int .i64 0, .int .i64 0, .int .i64 0, .int .i64 0, .int .i64 0, .int .i64 0, .int .i64 0, .int .i64 0, .bool false, .bool false, .string ⟨#[]⟩, .string ⟨#[]⟩, .int .i64 0, .int .i64 0, .int .i64 0, .int .i64 0, .string ⟨#[]⟩, .int .i64 0, .int .i64 0, .int .i64 0, .int .i64 0, .int .i64 0, .int .i64 0, .int .i64 0, .int .i64 0, .int .i64 0, .int .i64 0, .int .i64 0, .bool false, .bool false, .bool false, .slice none 0 0, .string ⟨#[]⟩] 36)
  have hA := (At.box w #[.int .i64 x.a, .int .i64 x.b, .int .i64 x.k, .string x.d] 23).later hb2
  have hR : At ((w.alloc (.cells #[.int .i64 x.a, .int .i64 x.b, .int .i64 x.k, .string x.d] 23)).alloc (.cells #[.int .i64 0, .int .i64 0, .int .i64 0, .int .i64 0, .string ⟨#[]⟩, .int .i64 0, .int .i64 0, .int .i64 0, .int .i64 0, .int .i64 0, .int .i64 0, .int .i64 0, .int .i64 0, .int .i64 0, .int .i64 0, .int .i64 0, .bool false, .bool false, .string ⟨#[]⟩, .string ⟨#[]⟩, .int .i64 0, .int .i64 0, .int .i64 0, .int .i64 0, .string ⟨#[]⟩, .int .i64 0, .int .i64 0, .int .i64 0, .int .i64 0, .int .i64 0, .int .i64 0, .int .i64 0, .int .i64 0, .int .i64 0, .int .i64 0, .int .i64 0, .bool false, .bool false, .bool false, .slice none 0 0, .string ⟨#[]⟩] 36)) (w.heap.size + 1) PZ := At.box2 w (.cells #[.int .i64 x.a, .int .i64 x.b, .int .i64 x.k, .string x.d] 23) #[.int .i64 0, .int .i64 0, .int .i64 0, .int .i64 0, .string ⟨#[]⟩, .int .i64 0, .int .i64 0, .int .i64 0, .int .i64 0, .int .i64 0, .int .i64 0, .int .i64 0, .int .i64 0, .int .i64 0, .int .i64 0, .int .i64 0, .bool false, .bool false, .string ⟨#[]⟩, .string ⟨#[]⟩, .int .i64 0, .int .i64 0, .int .i64 0, .int .i64 0, .string ⟨#[]⟩, .int .i64 0, .int .i64 0, .int .i64 0, .int .i64 0, .int .i64 0, .int .i64 0, .int .i64 0, .int .i64 0, .int .i64 0, .int .i64 0, .int .i64 0, .bool false, .bool false, .bool false, .slice none 0 0, .string ⟨#[]⟩] 36
  have hl := bt hb1 hb2
  have hz := buildZ
  clear hb1 hb2
  go_enter Tryz.func28, Tryz.ntmps28
  go_upto_region 1 with fail
  generalize hw0 : (w.alloc (.cells #[.int .i64 x.a, .int .i64 x.b, .int .i64 x.k, .string x.d] 23)).alloc (.cells #[.int .i64 0, .int .i64 0, .int .i64 0, .int .i64 0, .string ⟨#[]⟩, .int .i64 0, .int .i64 0, .int .i64 0, .int .i64 0, .int .i64 0, .int .i64 0, .int .i64 0, .int .i64 0, .int .i64 0, .int .i64 0, .int .i64 0, .bool false, .bool false, .string ⟨#[]⟩, .string ⟨#[]⟩, .int .i64 0, .int .i64 0, .int .i64 0, .int .i64 0, .string ⟨#[]⟩, .int .i64 0, .int .i64 0, .int .i64 0, .int .i64 0, .int .i64 0, .int .i64 0, .int .i64 0, .int .i64 0, .int .i64 0, .int .i64 0, .int .i64 0, .bool false, .bool false, .bool false, .slice none 0 0, .string ⟨#[]⟩] 36) = w0 at *
  clear hw0
  have c2 := (hA.2 2 _ rfl).1
  have c3 := (hA.2 3 _ rfl).1
  go_wp2_with fail
  refine (HIP.out _).mono ?_
  rintro e w3 ⟨rfl, hb⟩
  have hbx := bel1 w3 (.cells #[.int .i64 y.f, .int .i64 y.t, .int .i64 y.tl, .int .i64 y.pr, .int .i64 y.id, .int .i64 y.fg, .bool y.mo, .bool y.dn, .string y.op, .string y.da] 27)
  have hI := At.box w3 #[.int .i64 y.f, .int .i64 y.t, .int .i64 y.tl, .int .i64 y.pr, .int .i64 y.id, .int .i64 y.fg, .bool y.mo, .bool y.dn, .string y.op, .string y.da] 27
  replace hb := bt hb hbx
  replace hl := bt hl hb
  replace hA := hA.later hb
  replace hR := hR.later hb
  clear hb HIP c2 c3
  go_upto_region 9 with fail
  obtain ⟨B6, hB6⟩ : ∃ B, B = w3.heap.size := ⟨_, rfl⟩
  rw [← hB6] at hI ⊢
  generalize w3.alloc (.cells #[.int .i64 y.f, .int .i64 y.t, .int .i64 y.tl, .int .i64 y.pr, .int .i64 y.id, .int .i64 y.fg, .bool y.mo, .bool y.dn, .string y.op, .string y.da] 27) = w4 at *
  clear hbx hB6
  go_wp2_with fail
  refine (refuse_s _ _ _ _).mono ?_
  rintro e wr ⟨p, rfl, hp, hP, hb⟩
  have hlt := Nat.lt_of_lt_of_le hR.1 hp
  have hwp := Nat.le_trans hl.size hp
  replace hl := bt hl hb
  replace hR := hR.later hb
  clear hb
  go_wp2_with (refine wpList_store_mid (by rfl) 36 _ _ (by rfl) (w.heap.size + 1) 0 (PZ) (by rfl) (by rfl) hR.there size36 PZ_one ?_)
  go_wp2
  exact bodyPost_ret (v := .tuple #[.agg PZ, .iface 88 (.pointer (some ⟨p, 0, none⟩))]) (ret_cell41 (by rfl) (At.whole (vs := PZ) hR rfl) rfl (by rfl) (by rfl)) (by rfl) ⟨p, rfl, hwp, At.apart hP (Nat.ne_of_lt hlt) _ _, Below.setCells (by omega) _ _ _ hl⟩
set_option maxHeartbeats 8000000 in
theorem con_6 (x : FrT) (w : World)
    (q : (x.k == 2054) = false) (q2 : (x.k == 2048) = false) :
    Calls Tryz.prog 28 #[.agg #[.int .i64 x.a, .int .i64 x.b, .int .i64 x.k, .string x.d]] w fun e w' => ∃ p, e = .returned (.tuple #[.agg PZ, .iface 88 (.pointer (some ⟨p, 0, none⟩))]) ∧ w.heap.size ≤ p ∧ At w' p (FailV ⟨#[101, 116, 104, 101, 114]⟩ (0) (90)) ∧ Below w.heap.size w w' := by
  have hb1 := bel1 w (.cells #[.int .i64 x.a, .int .i64 x.b, .int .i64 x.k, .string x.d] 23)
  have hb2 := bel1 (w.alloc (.cells #[.int .i64 x.a, .int .i64 x.b, .int .i64 x.k, .string x.d] 23)) (.cells #[.int .i64 0, .int .i64 0, .int .i64 0, .int .i64 0, .string ⟨#[]⟩, .int .i64 0, .int .i64 0, .int .i64 0, .int .i64 0, .int .i64 0, .int .i64 0, .int .i64 0, .int .i64 0, .int .i64 0, .int .i64 0, .int .i64 0, .bool false, .bool false, .string ⟨#[]⟩, .string ⟨#[]⟩, .int .i64 0, .int .i64 0, .int .i64 0, .int .i64 0, .string ⟨#[]⟩, .int .i64 0, .int .i64 0, .int .i64 0, .int .i64 0, .int .i64 0, .int .i64 0, .int .i64 0, .int .i64 0, .int .i64 0, .int .i64 0, .int .i64 0, .bool false, .bool false, .bool false, .slice none 0 0, .string ⟨#[]⟩] 36)
  have hA := (At.box w #[.int .i64 x.a, .int .i64 x.b, .int .i64 x.k, .string x.d] 23).later hb2
  have hR : At ((w.alloc (.cells #[.int .i64 x.a, .int .i64 x.b, .int .i64 x.k, .string x.d] 23)).alloc (.cells #[.int .i64 0, .int .i64 0, .int .i64 0, .int .i64 0, .string ⟨#[]⟩, .int .i64 0, .int .i64 0, .int .i64 0, .int .i64 0, .int .i64 0, .int .i64 0, .int .i64 0, .int .i64 0, .int .i64 0, .int .i64 0, .int .i64 0, .bool false, .bool false, .string ⟨#[]⟩, .string ⟨#[]⟩, .int .i64 0, .int .i64 0, .int .i64 0, .int .i64 0, .string ⟨#[]⟩, .int .i64 0, .int .i64 0, .int .i64 0, .int .i64 0, .int .i64 0, .int .i64 0, .int .i64 0, .int .i64 0, .int .i64 0, .int .i64 0, .int .i64 0, .bool false, .bool false, .bool false, .slice none 0 0, .string ⟨#[]⟩] 36)) (w.heap.size + 1) PZ := At.box2 w (.cells #[.int .i64 x.a, .int .i64 x.b, .int .i64 x.k, .string x.d] 23) #[.int .i64 0, .int .i64 0, .int .i64 0, .int .i64 0, .string ⟨#[]⟩, .int .i64 0, .int .i64 0, .int .i64 0, .int .i64 0, .int .i64 0, .int .i64 0, .int .i64 0, .int .i64 0, .int .i64 0, .int .i64 0, .int .i64 0, .bool false, .bool false, .string ⟨#[]⟩, .string ⟨#[]⟩, .int .i64 0, .int .i64 0, .int .i64 0, .int .i64 0, .string ⟨#[]⟩, .int .i64 0, .int .i64 0, .int .i64 0, .int .i64 0, .int .i64 0, .int .i64 0, .int .i64 0, .int .i64 0, .int .i64 0, .int .i64 0, .int .i64 0, .bool false, .bool false, .bool false, .slice none 0 0, .string ⟨#[]⟩] 36
  have hl := bt hb1 hb2
  have hz := buildZ
  clear hb1 hb2
  go_enter Tryz.func28, Tryz.ntmps28
  go_upto_region 1 with fail
  generalize hw0 : (w.alloc (.cells #[.int .i64 x.a, .int .i64 x.b, .int .i64 x.k, .string x.d] 23)).alloc (.cells #[.int .i64 0, .int .i64 0, .int .i64 0, .int .i64 0, .string ⟨#[]⟩, .int .i64 0, .int .i64 0, .int .i64 0, .int .i64 0, .int .i64 0, .int .i64 0, .int .i64 0, .int .i64 0, .int .i64 0, .int .i64 0, .int .i64 0, .bool false, .bool false, .string ⟨#[]⟩, .string ⟨#[]⟩, .int .i64 0, .int .i64 0, .int .i64 0, .int .i64 0, .string ⟨#[]⟩, .int .i64 0, .int .i64 0, .int .i64 0, .int .i64 0, .int .i64 0, .int .i64 0, .int .i64 0, .int .i64 0, .int .i64 0, .int .i64 0, .int .i64 0, .bool false, .bool false, .bool false, .slice none 0 0, .string ⟨#[]⟩] 36) = w0 at *
  clear hw0
  have c2 := (hA.2 2 _ rfl).1
  have c3 := (hA.2 3 _ rfl).1
  go_wp2_with fail
  refine (refuse_s _ _ _ _).mono ?_
  rintro e wr ⟨p, rfl, hp, hP, hb⟩
  have hlt := Nat.lt_of_lt_of_le hR.1 hp
  have hwp := Nat.le_trans hl.size hp
  replace hl := bt hl hb
  replace hR := hR.later hb
  clear hb
  go_wp2_with (refine wpList_store_mid (by rfl) 36 _ _ (by rfl) (w.heap.size + 1) 0 (PZ) (by rfl) (by rfl) hR.there size36 PZ_one ?_)
  go_wp2
  exact bodyPost_ret (v := .tuple #[.agg PZ, .iface 88 (.pointer (some ⟨p, 0, none⟩))]) (ret_cell41 (by rfl) (At.whole (vs := PZ) hR rfl) rfl (by rfl) (by rfl)) (by rfl) ⟨p, rfl, hwp, At.apart hP (Nat.ne_of_lt hlt) _ _, Below.setCells (by omega) _ _ _ hl⟩
end Go.Proofs.YtkpdmgoldngdaaaGreatDoor

namespace Go.Proofs.YtkpdmgoldngdaaaGreatDoor
open Go.RowKit
set_option maxRecDepth 100000
set_option linter.unusedVariables false

theorem setCell_id {w : World} {b i : Nat} {v : Value} (h : w.cell? ⟨b, i, none⟩ = some v) : w.setCell ⟨b, i, none⟩ v = w := by
  have hh : (w.heap.modify b fun
      | .cells c elem frozen => .cells (if (none : Option Nat).isSome then c else c.setIfInBounds i v) elem frozen
      | o => o) = w.heap := by
    apply Array.ext_getElem?
    intro k
    rw [Array.getElem?_modify]
    by_cases e : b = k
    · subst e
      rw [if_pos rfl]
      unfold World.cell? at h
      simp only at h
      cases hb : w.heap[b]? with
      | none => rfl
      | some ob =>
        rw [hb] at h
        cases ob with
        | cells c elem fr =>
          simp only [Option.isSome_none, Bool.false_eq_true, if_false] at h
          simp only [Option.map_some, Option.isSome_none, Bool.false_eq_true, if_false]
          congr 2
          apply Array.ext_getElem?
          intro j
          by_cases ej : i = j
          · subst ej
            rw [h]
            have := (Array.getElem?_eq_some_iff.1 h).1
            simp [this]
          · rw [Array.getElem?_setIfInBounds_ne ej]
        | _ => simp at h
    · rw [if_neg e]
  show ({ w with heap := _ } : World) = w
  exact congrArg (fun x => ({ w with heap := x } : World)) hh
theorem setCells_id (b : Nat) : ∀ (vs : List Value) (o : Nat) (w : World), w.rangeAt b o vs → w.setCells b o vs = w
  | [], _, _, _ => rfl
  | v :: vs, o, w, h => by
    rw [World.setCells, setCell_id (by have := h 0 v rfl; rwa [Nat.add_zero] at this)]
    exact setCells_id b vs (o + 1) w (fun j u hj => by have := h (j + 1) u (by simpa using hj); rwa [show o + (j + 1) = o + 1 + j by omega] at this)
theorem wp_buildZ {Q : Exit → Act → World → Prop} {o : Oper} {a : Act} {w : World} {K : Act → World → Prop} (ho : o.op = .build 36 #[]) (h : K (a.put o.dst (.agg PZ)) w) : Oper.wp Tryz.prog o a w K Q := by
  unfold Oper.wp execOp
  have e' : ((#[] : Array (Nat × Operand)).map fun (p : Nat × Operand) => (p.1, a.eval p.2)) = #[] := by simp
  simp only [ho, Sem.run_bind]
  rw [e', buildZ]
  exact h
theorem wp_build3 {P : Program} {Q : Exit → Act → World → Prop} {o : Oper} {a : Act} {w : World} {K : Act → World → Prop} (t : TypeId) (i j k : Operand) (x y z : Value) (cells : Array Value) (ho : o.op = .build t #[(0, i), (1, j), (2, k)]) (hi : a.eval i = x) (hj : a.eval j = y) (hk : a.eval k = z)
    (hrun : P.built t [(0, x), (1, y), (2, z)] = some cells) (h : K (a.put o.dst (.agg cells)) w) : Oper.wp P o a w K Q := by
  have e : (#[(0, i), (1, j), (2, k)].map fun (p : Nat × Operand) => (p.1, a.eval p.2)).toList = [(0, x), (1, y), (2, z)] := by simp [hi, hj, hk]
  refine wp_build t _ ho ?_ ?_
  · show (P.built t (#[(0, i), (1, j), (2, k)].map fun (p : Nat × Operand) => (p.1, a.eval p.2)).toList).isSome = true
    rw [e, hrun]; rfl
  · show K (a.put o.dst (.agg ((P.built t (#[(0, i), (1, j), (2, k)].map fun (p : Nat × Operand) => (p.1, a.eval p.2)).toList).getD #[]))) w
    rw [e, hrun]; exact h
set_option maxHeartbeats 8000000 in
theorem rpar_1 (st : ByteArray) (x : FrT) (c : Int) (w : World)
    (HED : Hid (∀ W, Calls Tryz.prog 29 #[.string st] W fun e w' => e = .returned (.tuple #[.agg #[.int .i64 x.a, .int .i64 x.b, .int .i64 x.k, .string x.d], .int .i64 c]) ∧ Below W.heap.size W w'))
    (hc : (c != 0) = true) :
    Calls Tryz.prog 10 #[.string st] w fun e w' => e = .returned (.tuple #[.agg PZ, .agg #[.int .i64 c, .string ⟨#[101, 116, 104, 101, 114]⟩, .int .i64 0]]) ∧ Below w.heap.size w w' := by
  have hb1 := bel1 w (.cells #[.int .i64 0, .int .i64 0, .int .i64 0, .int .i64 0, .string ⟨#[]⟩, .int .i64 0, .int .i64 0, .int .i64 0, .int .i64 0, .int .i64 0, .int .i64 0, .int .i64 0, .int .i64 0, .int .i64 0, .int .i64 0, .int .i64 0, .bool false, .bool false, .string ⟨#[]⟩, .string ⟨#[]⟩, .int .i64 0, .int .i64 0, .int .i64 0, .int .i64 0, .string ⟨#[]⟩, .int .i64 0, .int .i64 0, .int .i64 0, .int .i64 0, .int .i64 0, .int .i64 0, .int .i64 0, .int .i64 0, .int .i64 0, .int .i64 0, .int .i64 0, .bool false, .bool false, .bool false, .slice none 0 0, .string ⟨#[]⟩] 36)
  have hb2 := bel1 (w.alloc (.cells #[.int .i64 0, .int .i64 0, .int .i64 0, .int .i64 0, .string ⟨#[]⟩, .int .i64 0, .int .i64 0, .int .i64 0, .int .i64 0, .int .i64 0, .int .i64 0, .int .i64 0, .int .i64 0, .int .i64 0, .int .i64 0, .int .i64 0, .bool false, .bool false, .string ⟨#[]⟩, .string ⟨#[]⟩, .int .i64 0, .int .i64 0, .int .i64 0, .int .i64 0, .string ⟨#[]⟩, .int .i64 0, .int .i64 0, .int .i64 0, .int .i64 0, .int .i64 0, .int .i64 0, .int .i64 0, .int .i64 0, .int .i64 0, .int .i64 0, .int .i64 0, .bool false, .bool false, .bool false, .slice none 0 0, .string ⟨#[]⟩] 36)) (.cells #[.int .i64 0, .string ⟨#[]⟩, .int .i64 0] 43)
  have hR : At ((w.alloc (.cells #[.int .i64 0, .int .i64 0, .int .i64 0, .int .i64 0, .string ⟨#[]⟩, .int .i64 0, .int .i64 0, .int .i64 0, .int .i64 0, .int .i64 0, .int .i64 0, .int .i64 0, .int .i64 0, .int .i64 0, .int .i64 0, .int .i64 0, .bool false, .bool false, .string ⟨#[]⟩, .string ⟨#[]⟩, .int .i64 0, .int .i64 0, .int .i64 0, .int .i64 0, .string ⟨#[]⟩, .int .i64 0, .int .i64 0, .int .i64 0, .int .i64 0, .int .i64 0, .int .i64 0, .int .i64 0, .int .i64 0, .int .i64 0, .int .i64 0, .int .i64 0, .bool false, .bool false, .bool false, .slice none 0 0, .string ⟨#[]⟩] 36)).alloc (.cells #[.int .i64 0, .string ⟨#[]⟩, .int .i64 0] 43)) w.heap.size PZ := (At.box w #[.int .i64 0, .int .i64 0, .int .i64 0, .int .i64 0, .string ⟨#[]⟩, .int .i64 0, .int .i64 0, .int .i64 0, .int .i64 0, .int .i64 0, .int .i64 0, .int .i64 0, .int .i64 0, .int .i64 0, .int .i64 0, .int .i64 0, .bool false, .bool false, .string ⟨#[]⟩, .string ⟨#[]⟩, .int .i64 0, .int .i64 0, .int .i64 0, .int .i64 0, .string ⟨#[]⟩, .int .i64 0, .int .i64 0, .int .i64 0, .int .i64 0, .int .i64 0, .int .i64 0, .int .i64 0, .int .i64 0, .int .i64 0, .int .i64 0, .int .i64 0, .bool false, .bool false, .bool false, .slice none 0 0, .string ⟨#[]⟩] 36).later hb2
  have hW : At ((w.alloc (.cells #[.int .i64 0, .int .i64 0, .int .i64 0, .int .i64 0, .string ⟨#[]⟩, .int .i64 0, .int .i64 0, .int .i64 0, .int .i64 0, .int .i64 0, .int .i64 0, .int .i64 0, .int .i64 0, .int .i64 0, .int .i64 0, .int .i64 0, .bool false, .bool false, .string ⟨#[]⟩, .string ⟨#[]⟩, .int .i64 0, .int .i64 0, .int .i64 0, .int .i64 0, .string ⟨#[]⟩, .int .i64 0, .int .i64 0, .int .i64 0, .int .i64 0, .int .i64 0, .int .i64 0, .int .i64 0, .int .i64 0, .int .i64 0, .int .i64 0, .int .i64 0, .bool false, .bool false, .bool false, .slice none 0 0, .string ⟨#[]⟩] 36)).alloc (.cells #[.int .i64 0, .string ⟨#[]⟩, .int .i64 0] 43)) (w.heap.size + 1) #[.int .i64 0, .string ⟨#[]⟩, .int .i64 0] := At.box2 w (.cells #[.int .i64 0, .int .i64 0, .int .i64 0, .int .i64 0, .string ⟨#[]⟩, .int .i64 0, .int .i64 0, .int .i64 0, .int .i64 0, .int .i64 0, .int .i64 0, .int .i64 0, .int .i64 0, .int .i64 0, .int .i64 0, .int .i64 0, .bool false, .bool false, .string ⟨#[]⟩, .string ⟨#[]⟩, .int .i64 0, .int .i64 0, .int .i64 0, .int .i64 0, .string ⟨#[]⟩, .int .i64 0, .int .i64 0, .int .i64 0, .int .i64 0, .int .i64 0, .int .i64 0, .int .i64 0, .int .i64 0, .int .i64 0, .int .i64 0, .int .i64 0, .bool false, .bool false, .bool false, .slice none 0 0, .string ⟨#[]⟩] 36) #[.int .i64 0, .string ⟨#[]⟩, .int .i64 0] 43
  have hl := bt hb1 hb2
  have hz := buildZ
  have hzw := buildW
  clear hb1 hb2
  go_enter Tryz.func10, Tryz.ntmps10
  go_upto_region 1 with fail
  generalize hw0 : (w.alloc (.cells #[.int .i64 0, .int .i64 0, .int .i64 0, .int .i64 0, .string ⟨#[]⟩, .int .i64 0, .int .i64 0, .int .i64 0, .int .i64 0, .int .i64 0, .int .i64 0, .int .i64 0, .int .i64 0, .int .i64 0, .int .i64 0, .int .i64 0, .bool false, .bool false, .string ⟨#[]⟩, .string ⟨#[]⟩, .int .i64 0, .int .i64 0, .int .i64 0, .int .i64 0, .string ⟨#[]⟩, .int .i64 0, .int .i64 0, .int .i64 0, .int .i64 0, .int .i64 0, .int .i64 0, .int .i64 0, .int .i64 0, .int .i64 0, .int .i64 0, .int .i64 0, .bool false, .bool false, .bool false, .slice none 0 0, .string ⟨#[]⟩] 36)).alloc (.cells #[.int .i64 0, .string ⟨#[]⟩, .int .i64 0] 43) = w0 at *
  clear hw0
  go_wp2_with fail
  refine (HED.out _).mono ?_
  rintro e w3 ⟨rfl, hb⟩
  have hbx := bel1 w3 (.cells #[.int .i64 x.a, .int .i64 x.b, .int .i64 x.k, .string x.d] 23)
  have hF4 := At.box w3 #[.int .i64 x.a, .int .i64 x.b, .int .i64 x.k, .string x.d] 23
  replace hb := bt hb hbx
  replace hl := bt hl hb
  replace hR := hR.later hb
  replace hW := hW.later hb
  clear hb HED
  go_upto_region 2 with fail
  obtain ⟨B4, hB4⟩ : ∃ B, B = w3.heap.size := ⟨_, rfl⟩
  rw [← hB4] at hF4 ⊢
  generalize w3.alloc (.cells #[.int .i64 x.a, .int .i64 x.b, .int .i64 x.k, .string x.d] 23) = w4 at *
  clear hbx hB4
  have c2 := (hF4.2 2 _ rfl).1
  have c3 := (hF4.2 3 _ rfl).1
  have hbw : ∀ W, (Instr.build 43 #[(0, .int .i64 c), (1, .string ⟨#[101, 116, 104, 101, 114]⟩), (2, .int .i64 0)]).run Tryz.prog W = .ok (.agg #[.int .i64 c, .string ⟨#[101, 116, 104, 101, 114]⟩, .int .i64 0]) W := fun W => run_build W 43 _ _ (by kernel_rfl)
  have hW2 := At.apart (b := w.heap.size) hW (by omega) 0 PZ.toList
  go_wp2_with (first | (refine wpList_store_mid (by rfl) 36 _ _ (by rfl) (w.heap.size) 0 PZ (by rfl) (by rfl) hR.there size36 PZ_one ?_; refine wpList_store_mid (by rfl) 43 _ _ (by rfl) (w.heap.size + 1) 0 #[.int .i64 c, .string ⟨#[101, 116, 104, 101, 114]⟩, .int .i64 0] (by rfl) (by rfl) hW2.there size43 (by simp [Value.oneCell']) ?_))
  go_wp2
  exact bodyPost_ret (v := .tuple #[.agg PZ, .agg #[.int .i64 c, .string ⟨#[101, 116, 104, 101, 114]⟩, .int .i64 0]]) (ret_cc (by rfl) (At.apart (At.whole (vs := PZ) hR rfl) (by omega) _ _) rfl (At.whole (vs := #[.int .i64 c, .string ⟨#[101, 116, 104, 101, 114]⟩, .int .i64 0]) hW2 rfl) rfl (by rfl) (by rfl)) (by rfl) ⟨rfl, Below.setCells (by omega) _ _ _ (Below.setCells (by omega) _ _ _ hl)⟩
set_option maxHeartbeats 8000000 in
theorem rpar_2 (st : ByteArray) (x : FrT) (y : ArT) (c : Int) (w : World)
    (HED : Hid (∀ W, Calls Tryz.prog 29 #[.string st] W fun e w' => e = .returned (.tuple #[.agg #[.int .i64 x.a, .int .i64 x.b, .int .i64 x.k, .string x.d], .int .i64 0]) ∧ Below W.heap.size W w'))
    (q : (x.k == 2054) = true)
    (HAR : Hid (∀ W, Calls Tryz.prog 30 #[.string x.d] W fun e w' => e = .returned (.tuple #[.agg #[.int .i64 y.o, .int .i64 y.fm, .int .i64 y.fi, .int .i64 y.tm, .int .i64 y.ti], .int .i64 c]) ∧ Below W.heap.size W w'))
    (hc : (c != 0) = true) :
    Calls Tryz.prog 10 #[.string st] w fun e w' => e = .returned (.tuple #[.agg PZ, .agg #[.int .i64 c, .string ⟨#[97, 114, 112]⟩, .int .i64 14]]) ∧ Below w.heap.size w w' := by
  have hb1 := bel1 w (.cells #[.int .i64 0, .int .i64 0, .int .i64 0, .int .i64 0, .string ⟨#[]⟩, .int .i64 0, .int .i64 0, .int .i64 0, .int .i64 0, .int .i64 0, .int .i64 0, .int .i64 0, .int .i64 0, .int .i64 0, .int .i64 0, .int .i64 0, .bool false, .bool false, .string ⟨#[]⟩, .string ⟨#[]⟩, .int .i64 0, .int .i64 0, .int .i64 0, .int .i64 0, .string ⟨#[]⟩, .int .i64 0, .int .i64 0, .int .i64 0, .int .i64 0, .int .i64 0, .int .i64 0, .int .i64 0, .int .i64 0, .int .i64 0, .int .i64 0, .int .i64 0, .bool false, .bool false, .bool false, .slice none 0 0, .string ⟨#[]⟩] 36)
  have hb2 := bel1 (w.alloc (.cells #[.int .i64 0, .int .i64 0, .int .i64 0, .int .i64 0, .string ⟨#[]⟩, .int .i64 0, .int .i64 0, .int .i64 0, .int .i64 0, .int .i64 0, .int .i64 0, .int .i64 0, .int .i64 0, .int .i64 0, .int .i64 0, .int .i64 0, .bool false, .bool false, .string ⟨#[]⟩, .string ⟨#[]⟩, .int .i64 0, .int .i64 0, .int .i64 0, .int .i64 0, .string ⟨#[]⟩, .int .i64 0, .int .i64 0, .int .i64 0, .int .i64 0, .int .i64 0, .int .i64 0, .int .i64 0, .int .i64 0, .int .i64 0, .int .i64 0, .int .i64 0, .bool false, .bool false, .bool false, .slice none 0 0, .string ⟨#[]⟩] 36)) (.cells #[.int .i64 0, .string ⟨#[]⟩, .int .i64 0] 43)
  have hR : At ((w.alloc (.cells #[.int .i64 0, .int .i64 0, .int .i64 0, .int .i64 0, .string ⟨#[]⟩, .int .i64 0, .int .i64 0, .int .i64 0, .int .i64 0, .int .i64 0, .int .i64 0, .int .i64 0, .int .i64 0, .int .i64 0, .int .i64 0, .int .i64 0, .bool false, .bool false, .string ⟨#[]⟩, .string ⟨#[]⟩, .int .i64 0, .int .i64 0, .int .i64 0, .int .i64 0, .string ⟨#[]⟩, .int .i64 0, .int .i64 0, .int .i64 0, .int .i64 0, .int .i64 0, .int .i64 0, .int .i64 0, .int .i64 0, .int .i64 0, .int .i64 0, .int .i64 0, .bool false, .bool false, .bool false, .slice none 0 0, .string ⟨#[]⟩] 36)).alloc (.cells #[.int .i64 0, .string ⟨#[]⟩, .int .i64 0] 43)) w.heap.size PZ := (At.box w #[.int .i64 0, .int .i64 0, .int .i64 0, .int .i64 0, .string ⟨#[]⟩, .int .i64 0, .int .i64 0, .int .i64 0, .int .i64 0, .int .i64 0, .int .i64 0, .int .i64 0, .int .i64 0, .int .i64 0, .int .i64 0, .int .i64 0, .bool false, .bool false, .string ⟨#[]⟩, .string ⟨#[]⟩, .int .i64 0, .int .i64 0, .int .i64 0, .int .i64 0, .string ⟨#[]⟩, .int .i64 0, .int .i64 0, .int .i64 0, .int .i64 0, .int .i64 0, .int .i64 0, .int .i64 0, .int .i64 0, .int .i64 0, .int .i64 0, .int .i64 0, .bool false, .bool false, .bool false, .slice none 0 0, .string ⟨#[]⟩] 36).later hb2
  have hW : At ((w.alloc (.cells #[.int .i64 0, .int .i64 0, .int .i64 0, .int .i64 0, .string ⟨#[]⟩, .int .i64 0, .int .i64 0, .int .i64 0, .int .i64 0, .int .i64 0, .int .i64 0, .int .i64 0, .int .i64 0, .int .i64 0, .int .i64 0, .int .i64 0, .bool false, .bool false, .string ⟨#[]⟩, .string ⟨#[]⟩, .int .i64 0, .int .i64 0, .int .i64 0, .int .i64 0, .string ⟨#[]⟩, .int .i64 0, .int .i64 0, .int .i64 0, .int .i64 0, .int .i64 0, .int .i64 0, .int .i64 0, .int .i64 0, .int .i64 0, .int .i64 0, .int .i64 0, .bool false, .bool false, .bool false, .slice none 0 0, .string ⟨#[]⟩] 36)).alloc (.cells #[.int .i64 0, .string ⟨#[]⟩, .int .i64 0] 43)) (w.heap.size + 1) #[.int .i64 0, .string ⟨#[]⟩, .int .i64 0] := At.box2 w (.cells #[.int .i64 0, .int .i64 0, .int .i64 0, .int .i64 0, .string ⟨#[]⟩, .int .i64 0, .int .i64 0, .int .i64 0, .int .i64 0, .int .i64 0, .int .i64 0, .int .i64 0, .int .i64 0, .int .i64 0, .int .i64 0, .int .i64 0, .bool false, .bool false, .string ⟨#[]⟩, .string ⟨#[]⟩, .int .i64 0, .int .i64 0, .int .i64 0, .int .i64 0, .string ⟨#[]⟩, .int .i64 0, .int .i64 0, .int .i64 0, .int .i64 0, .int .i64 0, .int .i64 0, .int .i64 0, .int .i64 0, .int .i64 0, .int .i64 0, .int .i64 0, .bool false, .bool false, .bool false, .slice none 0 0, .string ⟨#[]⟩] 36) #[.int .i64 0, .string ⟨#[]⟩, .int .i64 0] 43
  have hl := bt hb1 hb2
  have hz := buildZ
  have hzw := buildW
  clear hb1 hb2
  go_enter Tryz.func10, Tryz.ntmps10
  go_upto_region 1 with fail
  generalize hw0 : (w.alloc (.cells #[.int .i64 0, .int .i64 0, .int .i64 0, .int .i64 0, .string ⟨#[]⟩, .int .i64 0, .int .i64 0, .int .i64 0, .int .i64 0, .int .i64 0, .int .i64 0, .int .i64 0, .int .i64 0, .int .i64 0, .int .i64 0, .int .i64 0, .bool false, .bool false, .string ⟨#[]⟩, .string ⟨#[]⟩, .int .i64 0, .int .i64 0, .int .i64 0, .int .i64 0, .string ⟨#[]⟩, .int .i64 0, .int .i64 0, .int .i64 0, .int .i64 0, .int .i64 0, .int .i64 0, .int .i64 0, .int .i64 0, .int .i64 0, .int .i64 0, .int .i64 0, .bool false, .bool false, .bool false, .slice none 0 0, .string ⟨#[]⟩] 36)).alloc (.cells #[.int .i64 0, .string ⟨#[]⟩, .int .i64 0] 43) = w0 at *
  clear hw0
  go_wp2_with fail
  refine (HED.out _).mono ?_
  rintro e w3 ⟨rfl, hb⟩
  have hbx := bel1 w3 (.cells #[.int .i64 x.a, .int .i64 x.b, .int .i64 x.k, .string x.d] 23)
  have hF4 := At.box w3 #[.int .i64 x.a, .int .i64 x.b, .int .i64 x.k, .string x.d] 23
  replace hb := bt hb hbx
  replace hl := bt hl hb
  replace hR := hR.later hb
  replace hW := hW.later hb
  clear hb HED
  go_upto_region 2 with fail
  obtain ⟨B4, hB4⟩ : ∃ B, B = w3.heap.size := ⟨_, rfl⟩
  rw [← hB4] at hF4 ⊢
  generalize w3.alloc (.cells #[.int .i64 x.a, .int .i64 x.b, .int .i64 x.k, .string x.d] 23) = w4 at *
  clear hbx hB4
  have c2 := (hF4.2 2 _ rfl).1
  have c3 := (hF4.2 3 _ rfl).1
  go_wp2_with fail
  refine (HAR.out _).mono ?_
  rintro e w5 ⟨rfl, hb⟩
  have hbx := bel1 w5 (.cells #[.int .i64 y.o, .int .i64 y.fm, .int .i64 y.fi, .int .i64 y.tm, .int .i64 y.ti] 25)
  have hI := At.box w5 #[.int .i64 y.o, .int .i64 y.fm, .int .i64 y.fi, .int .i64 y.tm, .int .i64 y.ti] 25
  replace hb := bt hb hbx
  replace hl := bt hl hb
  replace hF4 := hF4.later hb
  replace hR := hR.later hb
  replace hW := hW.later hb
  clear hb HAR c2 c3
  go_upto_region 6 with fail
  obtain ⟨B6, hB6⟩ : ∃ B, B = w5.heap.size := ⟨_, rfl⟩
  rw [← hB6] at hI ⊢
  generalize w5.alloc (.cells #[.int .i64 y.o, .int .i64 y.fm, .int .i64 y.fi, .int .i64 y.tm, .int .i64 y.ti] 25) = w6 at *
  clear hbx hB6
  have hbw : ∀ W, (Instr.build 43 #[(0, .int .i64 c), (1, .string ⟨#[97, 114, 112]⟩), (2, .int .i64 14)]).run Tryz.prog W = .ok (.agg #[.int .i64 c, .string ⟨#[97, 114, 112]⟩, .int .i64 14]) W := fun W => run_build W 43 _ _ (by kernel_rfl)
  have hW2 := At.apart (b := w.heap.size) hW (by omega) 0 PZ.toList
  go_wp2_with (first | (refine wpList_store_mid (by rfl) 36 _ _ (by rfl) (w.heap.size) 0 PZ (by rfl) (by rfl) hR.there size36 PZ_one ?_; refine wpList_store_mid (by rfl) 43 _ _ (by rfl) (w.heap.size + 1) 0 #[.int .i64 c, .string ⟨#[97, 114, 112]⟩, .int .i64 14] (by rfl) (by rfl) hW2.there size43 (by simp [Value.oneCell']) ?_))
  go_wp2
  exact bodyPost_ret (v := .tuple #[.agg PZ, .agg #[.int .i64 c, .string ⟨#[97, 114, 112]⟩, .int .i64 14]]) (ret_cc (by rfl) (At.apart (At.whole (vs := PZ) hR rfl) (by omega) _ _) rfl (At.whole (vs := #[.int .i64 c, .string ⟨#[97, 114, 112]⟩, .int .i64 14]) hW2 rfl) rfl (by rfl) (by rfl)) (by rfl) ⟨rfl, Below.setCells (by omega) _ _ _ (Below.setCells (by omega) _ _ _ hl)⟩
set_option maxHeartbeats 8000000 in
theorem rpar_3 (st : ByteArray) (x : FrT) (y : ArT) (w : World)
    (HED : Hid (∀ W, Calls Tryz.prog 29 #[.string st] W fun e w' => e = .returned (.tuple #[.agg #[.int .i64 x.a, .int .i64 x.b, .int .i64 x.k, .string x.d], .int .i64 0]) ∧ Below W.heap.size W w'))
    (q : (x.k == 2054) = true)
    (HAR : Hid (∀ W, Calls Tryz.prog 30 #[.string x.d] W fun e w' => e = .returned (.tuple #[.agg #[.int .i64 y.o, .int .i64 y.fm, .int .i64 y.fi, .int .i64 y.tm, .int .i64 y.ti], .int .i64 0]) ∧ Below W.heap.size W w')) :
    Calls Tryz.prog 10 #[.string st] w fun e w' => ∃ v, e = .returned (.tuple #[.agg (Pd.v ((⟨1, x, y, PkT.zero, IcT.zero, Sg.zero⟩ : Pd)) v), .agg #[.int .i64 0, .string ⟨#[]⟩, .int .i64 0]]) ∧ RgA w.heap.size w' v ((⟨1, x, y, PkT.zero, IcT.zero, Sg.zero⟩ : Pd)).sg.o.rs ∧ Below w.heap.size w w' := by
  have hb1 := bel1 w (.cells #[.int .i64 0, .int .i64 0, .int .i64 0, .int .i64 0, .string ⟨#[]⟩, .int .i64 0, .int .i64 0, .int .i64 0, .int .i64 0, .int .i64 0, .int .i64 0, .int .i64 0, .int .i64 0, .int .i64 0, .int .i64 0, .int .i64 0, .bool false, .bool false, .string ⟨#[]⟩, .string ⟨#[]⟩, .int .i64 0, .int .i64 0, .int .i64 0, .int .i64 0, .string ⟨#[]⟩, .int .i64 0, .int .i64 0, .int .i64 0, .int .i64 0, .int .i64 0, .int .i64 0, .int .i64 0, .int .i64 0, .int .i64 0, .int .i64 0, .int .i64 0, .bool false, .bool false, .bool false, .slice none 0 0, .string ⟨#[]⟩] 36)
  have hb2 := bel1 (w.alloc (.cells #[.int .i64 0, .int .i64 0, .int .i64 0, .int .i64 0, .string ⟨#[]⟩, .int .i64 0, .int .i64 0, .int .i64 0, .int .i64 0, .int .i64 0, .int .i64 0, .int .i64 0, .int .i64 0, .int .i64 0, .int .i64 0, .int .i64 0, .bool false, .bool false, .string ⟨#[]⟩, .string ⟨#[]⟩, .int .i64 0, .int .i64 0, .int .i64 0, .int .i64 0, .string ⟨#[]⟩, .int .i64 0, .int .i64 0, .int .i64 0, .int .i64 0, .int .i64 0, .int .i64 0, .int .i64 0, .int .i64 0, .int .i64 0, .int .i64 0, .int .i64 0, .bool false, .bool false, .bool false, .slice none 0 0, .string ⟨#[]⟩] 36)) (.cells #[.int .i64 0, .string ⟨#[]⟩, .int .i64 0] 43)
  have hR : At ((w.alloc (.cells #[.int .i64 0, .int .i64 0, .int .i64 0, .int .i64 0, .string ⟨#[]⟩, .int .i64 0, .int .i64 0, .int .i64 0, .int .i64 0, .int .i64 0, .int .i64 0, .int .i64 0, .int .i64 0, .int .i64 0, .int .i64 0, .int .i64 0, .bool false, .bool false, .string ⟨#[]⟩, .string ⟨#[]⟩, .int .i64 0, .int .i64 0, .int .i64 0, .int .i64 0, .string ⟨#[]⟩, .int .i64 0, .int .i64 0, .int .i64 0, .int .i64 0, .int .i64 0, .int .i64 0, .int .i64 0, .int .i64 0, .int .i64 0, .int .i64 0, .int .i64 0, .bool false, .bool false, .bool false, .slice none 0 0, .string ⟨#[]⟩] 36)).alloc (.cells #[.int .i64 0, .string ⟨#[]⟩, .int .i64 0] 43)) w.heap.size PZ := (At.box w #[.int .i64 0, .int .i64 0, .int .i64 0, .int .i64 0, .string ⟨#[]⟩, .int .i64 0, .int .i64 0, .int .i64 0, .int .i64 0, .int .i64 0, .int .i64 0, .int .i64 0, .int .i64 0, .int .i64 0, .int .i64 0, .int .i64 0, .bool false, .bool false, .string ⟨#[]⟩, .string ⟨#[]⟩, .int .i64 0, .int .i64 0, .int .i64 0, .int .i64 0, .string ⟨#[]⟩, .int .i64 0, .int .i64 0, .int .i64 0, .int .i64 0, .int .i64 0, .int .i64 0, .int .i64 0, .int .i64 0, .int .i64 0, .int .i64 0, .int .i64 0, .bool false, .bool false, .bool false, .slice none 0 0, .string ⟨#[]⟩] 36).later hb2
  have hW : At ((w.alloc (.cells #[.int .i64 0, .int .i64 0, .int .i64 0, .int .i64 0, .string ⟨#[]⟩, .int .i64 0, .int .i64 0, .int .i64 0, .int .i64 0, .int .i64 0, .int .i64 0, .int .i64 0, .int .i64 0, .int .i64 0, .int .i64 0, .int .i64 0, .bool false, .bool false, .string ⟨#[]⟩, .string ⟨#[]⟩, .int .i64 0, .int .i64 0, .int .i64 0, .int .i64 0, .string ⟨#[]⟩, .int .i64 0, .int .i64 0, .int .i64 0, .int .i64 0, .int .i64 0, .int .i64 0, .int .i64 0, .int .i64 0, .int .i64 0, .int .i64 0, .int .i64 0, .bool false, .bool false, .bool false, .slice none 0 0, .string ⟨#[]⟩] 36)).alloc (.cells #[.int .i64 0, .string ⟨#[]⟩, .int .i64 0] 43)) (w.heap.size + 1) #[.int .i64 0, .string ⟨#[]⟩, .int .i64 0] := At.box2 w (.cells #[.int .i64 0, .int .i64 0, .int .i64 0, .int .i64 0, .string ⟨#[]⟩, .int .i64 0, .int .i64 0, .int .i64 0, .int .i64 0, .int .i64 0, .int .i64 0, .int .i64 0, .int .i64 0, .int .i64 0, .int .i64 0, .int .i64 0, .bool false, .bool false, .string ⟨#[]⟩, .string ⟨#[]⟩, .int .i64 0, .int .i64 0, .int .i64 0, .int .i64 0, .string ⟨#[]⟩, .int .i64 0, .int .i64 0, .int .i64 0, .int .i64 0, .int .i64 0, .int .i64 0, .int .i64 0, .int .i64 0, .int .i64 0, .int .i64 0, .int .i64 0, .bool false, .bool false, .bool false, .slice none 0 0, .string ⟨#[]⟩] 36) #[.int .i64 0, .string ⟨#[]⟩, .int .i64 0] 43
  have hl := bt hb1 hb2
  have hz := buildZ
  have hzw := buildW
  clear hb1 hb2
  go_enter Tryz.func10, Tryz.ntmps10
  go_upto_region 1 with fail
  generalize hw0 : (w.alloc (.cells #[.int .i64 0, .int .i64 0, .int .i64 0, .int .i64 0, .string ⟨#[]⟩, .int .i64 0, .int .i64 0, .int .i64 0, .int .i64 0, .int .i64 0, .int .i64 0, .int .i64 0, .int .i64 0, .int .i64 0, .int .i64 0, .int .i64 0, .bool false, .bool false, .string ⟨#[]⟩, .string ⟨#[]⟩, .int .i64 0, .int .i64 0, .int .i64 0, .int .i64 0, .string ⟨#[]⟩, .int .i64 0, .int .i64 0, .int .i64 0, .int .i64 0, .int .i64 0, .int .i64 0, .int .i64 0, .int .i64 0, .int .i64 0, .int .i64 0, .int .i64 0, .bool false, .bool false, .bool false, .slice none 0 0, .string ⟨#[]⟩] 36)).alloc (.cells #[.int .i64 0, .string ⟨#[]⟩, .int .i64 0] 43) = w0 at *
  clear hw0
  go_wp2_with fail
  refine (HED.out _).mono ?_
  rintro e w3 ⟨rfl, hb⟩
  have hbx := bel1 w3 (.cells #[.int .i64 x.a, .int .i64 x.b, .int .i64 x.k, .string x.d] 23)
  have hF4 := At.box w3 #[.int .i64 x.a, .int .i64 x.b, .int .i64 x.k, .string x.d] 23
  replace hb := bt hb hbx
  replace hl := bt hl hb
  replace hR := hR.later hb
  replace hW := hW.later hb
  clear hb HED
  go_upto_region 2 with fail
  obtain ⟨B4, hB4⟩ : ∃ B, B = w3.heap.size := ⟨_, rfl⟩
  rw [← hB4] at hF4 ⊢
  generalize w3.alloc (.cells #[.int .i64 x.a, .int .i64 x.b, .int .i64 x.k, .string x.d] 23) = w4 at *
  clear hbx hB4
  have c2 := (hF4.2 2 _ rfl).1
  have c3 := (hF4.2 3 _ rfl).1
  go_wp2_with fail
  refine (HAR.out _).mono ?_
  rintro e w5 ⟨rfl, hb⟩
  have hbx := bel1 w5 (.cells #[.int .i64 y.o, .int .i64 y.fm, .int .i64 y.fi, .int .i64 y.tm, .int .i64 y.ti] 25)
  have hI := At.box w5 #[.int .i64 y.o, .int .i64 y.fm, .int .i64 y.fi, .int .i64 y.tm, .int .i64 y.ti] 25
  replace hb := bt hb hbx
  replace hl := bt hl hb
  replace hF4 := hF4.later hb
  replace hR := hR.later hb
  replace hW := hW.later hb
  clear hb HAR c2 c3
  go_upto_region 6 with fail
  obtain ⟨B6, hB6⟩ : ∃ B, B = w5.heap.size := ⟨_, rfl⟩
  rw [← hB6] at hI ⊢
  generalize w5.alloc (.cells #[.int .i64 y.o, .int .i64 y.fm, .int .i64 y.fi, .int .i64 y.tm, .int .i64 y.ti] 25) = w6 at *
  clear hbx hB6
  have hb5 : ∀ W, (Instr.build 36 #[(0, .int .i64 1), (1, .agg #[.int .i64 x.a, .int .i64 x.b, .int .i64 x.k, .string x.d]), (2, .agg #[.int .i64 y.o, .int .i64 y.fm, .int .i64 y.fi, .int .i64 y.tm, .int .i64 y.ti])]).run Tryz.prog W = .ok (.agg ((⟨1, x, y, PkT.zero, IcT.zero, Sg.zero⟩ : Pd).v (.slice none 0 0))) W := fun W => run_build W 36 _ _ (by kernel_rfl)
  have hW2 := At.apart (b := w.heap.size) hW (by omega) 0 ((⟨1, x, y, PkT.zero, IcT.zero, Sg.zero⟩ : Pd).v (.slice none 0 0)).toList
  go_wp2_with (first | (refine wpList_loadG 23 _ (by rfl) (by rfl) B4 0 (by rfl) _ _ hF4.range Tryz.underlying23 rfl size23 ?_) | (refine wpList_loadG 25 _ (by rfl) (by rfl) B6 0 (by rfl) _ _ hI.range Tryz.underlying25 rfl size25 ?_) | (refine wpList_store_mid (by rfl) 36 _ _ (by rfl) (w.heap.size) 0 ((⟨1, x, y, PkT.zero, IcT.zero, Sg.zero⟩ : Pd).v (.slice none 0 0)) (by rfl) (by rfl) hR.there size36 (Pd.one _ rfl) ?_; refine wpList_store_mid (by rfl) 43 _ _ (by rfl) (w.heap.size + 1) 0 #[.int .i64 0, .string ⟨#[]⟩, .int .i64 0] (by rfl) (by rfl) hW2.there size43 (by simp [Value.oneCell']) ?_))
  go_wp2
  exact bodyPost_ret (v := .tuple #[.agg ((⟨1, x, y, PkT.zero, IcT.zero, Sg.zero⟩ : Pd).v (.slice none 0 0)), .agg #[.int .i64 0, .string ⟨#[]⟩, .int .i64 0]]) (ret_cc (by rfl) (At.apart (At.whole (vs := ((⟨1, x, y, PkT.zero, IcT.zero, Sg.zero⟩ : Pd).v (.slice none 0 0))) hR rfl) (by omega) _ _) rfl (At.whole (vs := #[.int .i64 0, .string ⟨#[]⟩, .int .i64 0]) hW2 rfl) rfl (by rfl) (by rfl)) (by rfl) ⟨_, rfl, RgA.nil _ _, Below.setCells (by omega) _ _ _ (Below.setCells (by omega) _ _ _ hl)⟩
set_option maxHeartbeats 8000000 in
theorem rpar_4 (st : ByteArray) (x : FrT) (w : World)
    (HED : Hid (∀ W, Calls Tryz.prog 29 #[.string st] W fun e w' => e = .returned (.tuple #[.agg #[.int .i64 x.a, .int .i64 x.b, .int .i64 x.k, .string x.d], .int .i64 0]) ∧ Below W.heap.size W w'))
    (q : (x.k == 2054) = false) (q2 : (x.k != 2048) = true) :
    Calls Tryz.prog 10 #[.string st] w fun e w' => e = .returned (.tuple #[.agg PZ, .agg #[.int .i64 90, .string ⟨#[101, 116, 104, 101, 114]⟩, .int .i64 0]]) ∧ Below w.heap.size w w' := by
  have hb1 := bel1 w (.cells #[.int .i64 0, .int .i64 0, .int .i64 0, .int .i64 0, .string ⟨#[]⟩, .int .i64 0, .int .i64 0, .int .i64 0, .int .i64 0, .int .i64 0, .int .i64 0, .int .i64 0, .int .i64 0, .int .i64 0, .int .i64 0, .int .i64 0, .bool false, .bool false, .string ⟨#[]⟩, .string ⟨#[]⟩, .int .i64 0, .int .i64 0, .int .i64 0, .int .i64 0, .string ⟨#[]⟩, .int .i64 0, .int .i64 0, .int .i64 0, .int .i64 0, .int .i64 0, .int .i64 0, .int .i64 0, .int .i64 0, .int .i64 0, .int .i64 0, .int .i64 0, .bool false, .bool false, .bool false, .slice none 0 0, .string ⟨#[]⟩] 36)
  have hb2 := bel1 (w.alloc (.cells #[.int .i64 0, .int .i64 0, .int .i64 0, .int .i64 0, .string ⟨#[]⟩, .int .i64 0, .int .i64 0, .int .i64 0, .int .i64 0, .int .i64 0, .int .i64 0, .int .i64 0, .int .i64 0, .int .i64 0, .int .i64 0, .int .i64 0, .bool false, .bool false, .string ⟨#[]⟩, .string ⟨#[]⟩, .int .i64 0, .int .i64 0, .int .i64 0, .int .i64 0, .string ⟨#[]⟩, .int .i64 0, .int .i64 0, .int .i64 0, .int .i64 0, .int .i64 0, .int .i64 0, .int .i64 0, .int .i64 0, .int .i64 0, .int .i64 0, .int .i64 0, .bool false, .bool false, .bool false, .slice none 0 0, .string ⟨#[]⟩] 36)) (.cells #[.int .i64 0, .string ⟨#[]⟩, .int .i64 0] 43)
  have hR : At ((w.alloc (.cells #[.int .i64 0, .int .i64 0, .int .i64 0, .int .i64 0, .string ⟨#[]⟩, .int .i64 0, .int .i64 0, .int .i64 0, .int .i64 0, .int .i64 0, .int .i64 0, .int .i64 0, .int .i64 0, .int .i64 0, .int .i64 0, .int .i64 0, .bool false, .bool false, .string ⟨#[]⟩, .string ⟨#[]⟩, .int .i64 0, .int .i64 0, .int .i64 0, .int .i64 0, .string ⟨#[]⟩, .int .i64 0, .int .i64 0, .int .i64 0, .int .i64 0, .int .i64 0, .int .i64 0, .int .i64 0, .int .i64 0, .int .i64 0, .int .i64 0, .int .i64 0, .bool false, .bool false, .bool false, .slice none 0 0, .string ⟨#[]⟩] 36)).alloc (.cells #[.int .i64 0, .string ⟨#[]⟩, .int .i64 0] 43)) w.heap.size PZ := (At.box w #[.int .i64 0, .int .i64 0, .int .i64 0, .int .i64 0, .string ⟨#[]⟩, .int .i64 0, .int .i64 0, .int .i64 0, .int .i64 0, .int .i64 0, .int .i64 0, .int .i64 0, .int .i64 0, .int .i64 0, .int .i64 0, .int .i64 0, .bool false, .bool false, .string ⟨#[]⟩, .string ⟨#[]⟩, .int .i64 0, .int .i64 0, .int .i64 0, .int .i64 0, .string ⟨#[]⟩, .int .i64 0, .int .i64 0, .int .i64 0, .int .i64 0, .int .i64 0, .int .i64 0, .int .i64 0, .int .i64 0, .int .i64 0, .int .i64 0, .int .i64 0, .bool false, .bool false, .bool false, .slice none 0 0, .string ⟨#[]⟩] 36).later hb2
  have hW : At ((w.alloc (.cells #[.int .i64 0, .int .i64 0, .int .i64 0, .int .i64 0, .string ⟨#[]⟩, .int .i64 0, .int .i64 0, .int .i64 0, .int .i64 0, .int .i64 0, .int .i64 0, .int .i64 0, .int .i64 0, .int .i64 0, .int .i64 0, .int .i64 0, .bool false, .bool false, .string ⟨#[]⟩, .string ⟨#[]⟩, .int .i64 0, .int .i64 0, .int .i64 0, .int .i64 0, .string ⟨#[]⟩, .int .i64 0, .int .i64 0, .int .i64 0, .int .i64 0, .int .i64 0, .int .i64 0, .int .i64 0, .int .i64 0, .int .i64 0, .int .i64 0, .int .i64 0, .bool false, .bool false, .bool false, .slice none 0 0, .string ⟨#[]⟩] 36)).alloc (.cells #[.int .i64 0, .string ⟨#[]⟩, .int .i64 0] 43)) (w.heap.size + 1) #[.int .i64 0, .string ⟨#[]⟩, .int .i64 0] := At.box2 w (.cells #[.int .i64 0, .int .i64 0, .int .i64 0, .int .i64 0, .string ⟨#[]⟩, .int .i64 0, .int .i64 0, .int .i64 0, .int .i64 0, .int .i64 0, .int .i64 0, .int .i64 0, .int .i64 0, .int .i64 0, .int .i64 0, .int .i64 0, .bool false, .bool false, .string ⟨#[]⟩, .string ⟨#[]⟩, .int .i64 0, .int .i64 0, .int .i64 0, .int .i64 0, .string ⟨#[]⟩, .int .i64 0, .int .i64 0, .int .i64 0, .int .i64 0, .int .i64 0, .int .i64 0, .int .i64 0, .int .i64 0, .int .i64 0, .int .i64 0, .int .i64 0, .bool false, .bool false, .bool false, .slice none 0 0, .string ⟨#[]⟩] 36) #[.int .i64 0, .string ⟨#[]⟩, .int .i64 0] 43
  have hl := bt hb1 hb2
  have hz := buildZ
  have hzw := buildW
  clear hb1 hb2
  go_enter Tryz.func10, Tryz.ntmps10
  go_upto_region 1 with fail
  generalize hw0 : (w.alloc (.cells #[.int .i64 0, .int .i64 0, .int .i64 0, .int .i64 0, .string ⟨#[]⟩, .int .i64 0, .int .i64 0, .int .i64 0, .int .i64 0, .int .i64 0, .int .i64 0, .int .i64 0, .int .i64 0, .int .i64 0, .int .i64 0, .int .i64 0, .bool false, .bool false, .string ⟨#[]⟩, .string ⟨#[]⟩, .int .i64 0, .int .i64 0, .int .i64 0, .int .i64 0, .string ⟨#[]⟩, .int .i64 0, .int .i64 0, .int .i64 0, .int .i64 0, .int .i64 0, .int .i64 0, .int .i64 0, .int .i64 0, .int .i64 0, .int .i64 0, .int .i64 0, .bool false, .bool false, .bool false, .slice none 0 0, .string ⟨#[]⟩] 36)).alloc (.cells #[.int .i64 0, .string ⟨#[]⟩, .int .i64 0] 43) = w0 at *
  clear hw0
  go_wp2_with fail
  refine (HED.out _).mono ?_
  rintro e w3 ⟨rfl, hb⟩
  have hbx := bel1 w3 (.cells #[.int .i64 x.a, .int .i64 x.b, .int .i64 x.k, .string x.d] 23)
  have hF4 := At.box w3 #[.int .i64 x.a, .int .i64 x.b, .int .i64 x.k, .string x.d] 23
  replace hb := bt hb hbx
  replace hl := bt hl hb
  replace hR := hR.later hb
  replace hW := hW.later hb
  clear hb HED
  go_upto_region 2 with fail
  obtain ⟨B4, hB4⟩ : ∃ B, B = w3.heap.size := ⟨_, rfl⟩
  rw [← hB4] at hF4 ⊢
  generalize w3.alloc (.cells #[.int .i64 x.a, .int .i64 x.b, .int .i64 x.k, .string x.d] 23) = w4 at *
  clear hbx hB4
  have c2 := (hF4.2 2 _ rfl).1
  have c3 := (hF4.2 3 _ rfl).1
  have hbw : ∀ W, (Instr.build 43 #[(0, .int .i64 90), (1, .string ⟨#[101, 116, 104, 101, 114]⟩), (2, .int .i64 0)]).run Tryz.prog W = .ok (.agg #[.int .i64 90, .string ⟨#[101, 116, 104, 101, 114]⟩, .int .i64 0]) W := fun W => run_build W 43 _ _ (by kernel_rfl)
  have hW2 := At.apart (b := w.heap.size) hW (by omega) 0 PZ.toList
  go_wp2_with (first | (refine wpList_store_mid (by rfl) 36 _ _ (by rfl) (w.heap.size) 0 PZ (by rfl) (by rfl) hR.there size36 PZ_one ?_; refine wpList_store_mid (by rfl) 43 _ _ (by rfl) (w.heap.size + 1) 0 #[.int .i64 90, .string ⟨#[101, 116, 104, 101, 114]⟩, .int .i64 0] (by rfl) (by rfl) hW2.there size43 (by simp [Value.oneCell']) ?_))
  go_wp2
  exact bodyPost_ret (v := .tuple #[.agg PZ, .agg #[.int .i64 90, .string ⟨#[101, 116, 104, 101, 114]⟩, .int .i64 0]]) (ret_cc (by rfl) (At.apart (At.whole (vs := PZ) hR rfl) (by omega) _ _) rfl (At.whole (vs := #[.int .i64 90, .string ⟨#[101, 116, 104, 101, 114]⟩, .int .i64 0]) hW2 rfl) rfl (by rfl) (by rfl)) (by rfl) ⟨rfl, Below.setCells (by omega) _ _ _ (Below.setCells (by omega) _ _ _ hl)⟩
set_option maxHeartbeats 8000000 in
theorem rpar_5 (st : ByteArray) (x : FrT) (y : PkT) (c : Int) (w : World)
    (HED : Hid (∀ W, Calls Tryz.prog 29 #[.string st] W fun e w' => e = .returned (.tuple #[.agg #[.int .i64 x.a, .int .i64 x.b, .int .i64 x.k, .string x.d], .int .i64 0]) ∧ Below W.heap.size W w'))
    (q : (x.k == 2054) = false) (q2 : (x.k != 2048) = false)
    (HIP : Hid (∀ W, Calls Tryz.prog 31 #[.string x.d] W fun e w' => e = .returned (.tuple #[.agg #[.int .i64 y.f, .int .i64 y.t, .int .i64 y.tl, .int .i64 y.pr, .int .i64 y.id, .int .i64 y.fg, .bool y.mo, .bool y.dn, .string y.op, .string y.da], .int .i64 c]) ∧ Below W.heap.size W w'))
    (hc : (c != 0) = true) :
    Calls Tryz.prog 10 #[.string st] w fun e w' => e = .returned (.tuple #[.agg PZ, .agg #[.int .i64 c, .string ⟨#[105, 112]⟩, .int .i64 14]]) ∧ Below w.heap.size w w' := by
  have hb1 := bel1 w (.cells #[.int .i64 0, .int .i64 0, .int .i64 0, .int .i64 0, .string ⟨#[]⟩, .int .i64 0, .int .i64 0, .int .i64 0, .int .i64 0, .int .i64 0, .int .i64 0, .int .i64 0, .int .i64 0, .int .i64 0, .int .i64 0, .int .i64 0, .bool false, .bool false, .string ⟨#[]⟩, .string ⟨#[]⟩, .int .i64 0, .int .i64 0, .int .i64 0, .int .i64 0, .string ⟨#[]⟩, .int .i64 0, .int .i64 0, .int .i64 0, .int .i64 0, .int .i64 0, .int .i64 0, .int .i64 0, .int .i64 0, .int .i64 0, .int .i64 0, .int .i64 0, .bool false, .bool false, .bool false, .slice none 0 0, .string ⟨#[]⟩] 36)
  have hb2 := bel1 (w.alloc (.cells #[.int .i64 0, .int .i64 0, .int .i64 0, .int .i64 0, .string ⟨#[]⟩, .int .i64 0, .int .i64 0, .int .i64 0, .int .i64 0, .int .i64 0, .int .i64 0, .int .i64 0, .int .i64 0, .int .i64 0, .int .i64 0, .int .i64 0, .bool false, .bool false, .string ⟨#[]⟩, .string ⟨#[]⟩, .int .i64 0, .int .i64 0, .int .i64 0, .int .i64 0, .string ⟨#[]⟩, .int .i64 0, .int .i64 0, .int .i64 0, .int .i64 0, .int .i64 0, .int .i64 0, .int .i64 0, .int .i64 0, .int .i64 0, .int .i64 0, .int .i64 0, .bool false, .bool false, .bool false, .slice none 0 0, .string ⟨#[]⟩] 36)) (.cells #[.int .i64 0, .string ⟨#[]⟩, .int .i64 0] 43)
  have hR : At ((w.alloc (.cells #[.int .i64 0, .int .i64 0, .int .i64 0, .int .i64 0, .string ⟨#[]⟩, .int .i64 0, .int .i64 0, .int .i64 0, .int .i64 0, .int .i64 0, .int .i64 0, .int .i64 0, .int .i64 0, .int .i64 0, .int .i64 0, .int .i64 0, .bool false, .bool false, .string ⟨#[]⟩, .string ⟨#[]⟩, .int .i64 0, .int .i64 0, .int .i64 0, .int .i64 0, .string ⟨#[]⟩, .int .i64 0, .int .i64 0, .int .i64 0, .int .i64 0, .int .i64 0, .int .i64 0, .int .i64 0, .int .i64 0, .int .i64 0, .int .i64 0, .int .i64 0, .bool false, .bool false, .bool false, .slice none 0 0, .string ⟨#[]⟩] 36)).alloc (.cells #[.int .i64 0, .string ⟨#[]⟩, .int .i64 0] 43)) w.heap.size PZ := (At.box w #[.int .i64 0, .int .i64 0, .int .i64 0, .int .i64 0, .string ⟨#[]⟩, .int .i64 0, .int .i64 0, .int .i64 0, .int .i64 0, .int .i64 0, .int .i64 0, .int .i64 0, .int .i64 0, .int .i64 0, .int .i64 0, .int .i64 0, .bool false, .bool false, .string ⟨#[]⟩, .string ⟨#[]⟩, .int .i64 0, .int .i64 0, .int .i64 0, .int .i64 0, .string ⟨#[]⟩, .int .i64 0, .int .i64 0, .int .i64 0, .int .i64 0, .int .i64 0, .int .i64 0, .int .i64 0, .int .i64 0, .int .i64 0, .int .i64 0, .int .i64 0, .bool false, .bool false, .bool false, .slice none 0 0, .string ⟨#[]⟩] 36).later hb2
  have hW : At ((w.alloc (.cells #[.int .i64 0, .int .i64 0, .int .i64 0, .int .i64 0, .string ⟨#[]⟩, .int .i64 0, .int .i64 0, .int .i64 0, .int .i64 0, .int .i64 0, .int .i64 0, .int .i64 0, .int .i64 0, .int .i64 0, .int .i64 0, .int .i64 0, .bool false, .bool false, .string ⟨#[]⟩, .string ⟨#[]⟩, .int .i64 0, .int .i64 0, .int .i64 0, .int .i64 0, .string ⟨#[]⟩, .int .i64 0, .int .i64 0, .int .i64 0, .int .i64 0, .int .i64 0, .int .i64 0, .int .i64 0, .int .i64 0, .int .i64 0, .int .i64 0, .int .i64 0, .bool false, .bool false, .bool false, .slice none 0 0, .string ⟨#[]⟩] 36)).alloc (.cells #[.int .i64 0, .string ⟨#[]⟩, .int .i64 0] 43)) (w.heap.size + 1) #[.int .i64 0, .string ⟨#[]⟩, .int .i64 0] := At.box2 w (.cells #[.int .i64 0, .int .i64 0, .int .i64 0, .int .i64 0, .string ⟨#[]⟩, .int .i64 0, .int .i64 0, .int .i64 0, .int .i64 0, .int .i64 0, .int .i64 0, .int .i64 0, .int .i64 0, .int .i64 0, .int .i64 0, .int .i64 0, .bool false, .bool false, .string ⟨#[]⟩, .string ⟨#[]⟩, .int .i64 0, .int .i64 0, .int .i64 0, .int .i64 0, .string ⟨#[]⟩, .int .i64 0, .int .i64 0, .int .i64 0, .int .i64 0, .int .i64 0, .int .i64 0, .int .i64 0, .int .i64 0, .int .i64 0, .int .i64 0, .int .i64 0, .bool false, .bool false, .bool false, .slice none 0 0, .string ⟨#[]⟩] 36) #[.int .i64 0, .string ⟨#[]⟩, .int .i64 0] 43
  have hl := bt hb1 hb2
  have hz := buildZ
  have hzw := buildW
  clear hb1 hb2
  go_enter Tryz.func10, Tryz.ntmps10
  go_upto_region 1 with fail
  generalize hw0 : (w.alloc (.cells #[.int .i64 0, .int .i64 0, .int .i64 0, .int .i64 0, .string ⟨#[]⟩, .int .i64 0, .int .i64 0, .int .i64 0, .int .i64 0, .int .i64 0, .int .i64 0, .int .i64 0, .int .i64 0, .int .i64 0, .int .i64 0, .int .i64 0, .bool false, .bool false, .string ⟨#[]⟩, .string ⟨#[]⟩, .int .i64 0, .int .i64 0, .int .i64 0, .int .i64 0, .string ⟨#[]⟩, .int .i64 0, .int .i64 0, .int .i64 0, .int .i64 0, .int .i64 0, .int .i64 0, .int .i64 0, .int .i64 0, .int .i64 0, .int .i64 0, .int .i64 0, .bool false, .bool false, .bool false, .slice none 0 0, .string ⟨#[]⟩] 36)).alloc (.cells #[.int .i64 0, .string ⟨#[]⟩, .int .i64 0] 43) = w0 at *
  clear hw0
  go_wp2_with fail
  refine (HED.out _).mono ?_
  rintro e w3 ⟨rfl, hb⟩
  have hbx := bel1 w3 (.cells #[.int .i64 x.a, .int .i64 x.b, .int .i64 x.k, .string x.d] 23)
  have hF4 := At.box w3 #[.int .i64 x.a, .int .i64 x.b, .int .i64 x.k, .string x.d] 23
  replace hb := bt hb hbx
  replace hl := bt hl hb
  replace hR := hR.later hb
  replace hW := hW.later hb
  clear hb HED
  go_upto_region 2 with fail
  obtain ⟨B4, hB4⟩ : ∃ B, B = w3.heap.size := ⟨_, rfl⟩
  rw [← hB4] at hF4 ⊢
  generalize w3.alloc (.cells #[.int .i64 x.a, .int .i64 x.b, .int .i64 x.k, .string x.d] 23) = w4 at *
  clear hbx hB4
  have c2 := (hF4.2 2 _ rfl).1
  have c3 := (hF4.2 3 _ rfl).1
  go_wp2_with fail
  refine (HIP.out _).mono ?_
  rintro e w5 ⟨rfl, hb⟩
  have hbx := bel1 w5 (.cells #[.int .i64 y.f, .int .i64 y.t, .int .i64 y.tl, .int .i64 y.pr, .int .i64 y.id, .int .i64 y.fg, .bool y.mo, .bool y.dn, .string y.op, .string y.da] 27)
  have hI := At.box w5 #[.int .i64 y.f, .int .i64 y.t, .int .i64 y.tl, .int .i64 y.pr, .int .i64 y.id, .int .i64 y.fg, .bool y.mo, .bool y.dn, .string y.op, .string y.da] 27
  replace hb := bt hb hbx
  replace hl := bt hl hb
  replace hF4 := hF4.later hb
  replace hR := hR.later hb
  replace hW := hW.later hb
  clear hb HIP c2 c3
  go_upto_region 12 with fail
  obtain ⟨B6, hB6⟩ : ∃ B, B = w5.heap.size := ⟨_, rfl⟩
  rw [← hB6] at hI ⊢
  generalize w5.alloc (.cells #[.int .i64 y.f, .int .i64 y.t, .int .i64 y.tl, .int .i64 y.pr, .int .i64 y.id, .int .i64 y.fg, .bool y.mo, .bool y.dn, .string y.op, .string y.da] 27) = w6 at *
  clear hbx hB6
  have hbw : ∀ W, (Instr.build 43 #[(0, .int .i64 c), (1, .string ⟨#[105, 112]⟩), (2, .int .i64 14)]).run Tryz.prog W = .ok (.agg #[.int .i64 c, .string ⟨#[105, 112]⟩, .int .i64 14]) W := fun W => run_build W 43 _ _ (by kernel_rfl)
  have hW2 := At.apart (b := w.heap.size) hW (by omega) 0 PZ.toList
  go_wp2_with (first | (refine wpList_store_mid (by rfl) 36 _ _ (by rfl) (w.heap.size) 0 PZ (by rfl) (by rfl) hR.there size36 PZ_one ?_; refine wpList_store_mid (by rfl) 43 _ _ (by rfl) (w.heap.size + 1) 0 #[.int .i64 c, .string ⟨#[105, 112]⟩, .int .i64 14] (by rfl) (by rfl) hW2.there size43 (by simp [Value.oneCell']) ?_))
  go_wp2
  exact bodyPost_ret (v := .tuple #[.agg PZ, .agg #[.int .i64 c, .string ⟨#[105, 112]⟩, .int .i64 14]]) (ret_cc (by rfl) (At.apart (At.whole (vs := PZ) hR rfl) (by omega) _ _) rfl (At.whole (vs := #[.int .i64 c, .string ⟨#[105, 112]⟩, .int .i64 14]) hW2 rfl) rfl (by rfl) (by rfl)) (by rfl) ⟨rfl, Below.setCells (by omega) _ _ _ (Below.setCells (by omega) _ _ _ hl)⟩
set_option maxHeartbeats 8000000 in
theorem rpar_6 (st : ByteArray) (x : FrT) (y : PkT) (l : ByteArray) (a c : Int) (w : World)
    (HED : Hid (∀ W, Calls Tryz.prog 29 #[.string st] W fun e w' => e = .returned (.tuple #[.agg #[.int .i64 x.a, .int .i64 x.b, .int .i64 x.k, .string x.d], .int .i64 0]) ∧ Below W.heap.size W w'))
    (q : (x.k == 2054) = false) (q2 : (x.k != 2048) = false)
    (HIP : Hid (∀ W, Calls Tryz.prog 31 #[.string x.d] W fun e w' => e = .returned (.tuple #[.agg #[.int .i64 y.f, .int .i64 y.t, .int .i64 y.tl, .int .i64 y.pr, .int .i64 y.id, .int .i64 y.fg, .bool y.mo, .bool y.dn, .string y.op, .string y.da], .int .i64 0]) ∧ Below W.heap.size W w'))
    (HIN : Hid (∀ W, Calls Tryz.prog 15 #[.agg #[.int .i64 y.f, .int .i64 y.t, .int .i64 y.tl, .int .i64 y.pr, .int .i64 y.id, .int .i64 y.fg, .bool y.mo, .bool y.dn, .string y.op, .string y.da]] W fun e w' => e = .returned (.tuple #[.agg PZ, .agg #[.int .i64 c, .string l, .int .i64 a]]) ∧ Below W.heap.size W w'))
    (hc : (c != 0) = true) (e14 : IntKind.i64.wrap (a + 14) = a + 14) :
    Calls Tryz.prog 10 #[.string st] w fun e w' => e = .returned (.tuple #[.agg PZ, .agg #[.int .i64 c, .string l, .int .i64 (a + 14)]]) ∧ Below w.heap.size w w' := by
  have hb1 := bel1 w (.cells #[.int .i64 0, .int .i64 0, .int .i64 0, .int .i64 0, .string ⟨#[]⟩, .int .i64 0, .int .i64 0, .int .i64 0, .int .i64 0, .int .i64 0, .int .i64 0, .int .i64 0, .int .i64 0, .int .i64 0, .int .i64 0, .int .i64 0, .bool false, .bool false, .string ⟨#[]⟩, .string ⟨#[]⟩, .int .i64 0, .int .i64 0, .int .i64 0, .int .i64 0, .string ⟨#[]⟩, .int .i64 0, .int .i64 0, .int .i64 0, .int .i64 0, .int .i64 0, .int .i64 0, .int .i64 0, .int .i64 0, .int .i64 0, .int .i64 0, .int .i64 0, .bool false, .bool false, .bool false, .slice none 0 0, .string ⟨#[]⟩] 36)
  have hb2 := bel1 (w.alloc (.cells #[.int .i64 0, .int .i64 0, .int .i64 0, .int .i64 0, .string ⟨#[]⟩, .int .i64 0, .int .i64 0, .int .i64 0, .int .i64 0, .int .i64 0, .int .i64 0, .int .i64 0, .int .i64 0, .int .i64 0, .int .i64 0, .int .i64 0, .bool false, .bool false, .string ⟨#[]⟩, .string ⟨#[]⟩, .int .i64 0, .int .i64 0, .int .i64 0, .int .i64 0, .string ⟨#[]⟩, .int .i64 0, .int .i64 0, .int .i64 0, .int .i64 0, .int .i64 0, .int .i64 0, .int .i64 0, .int .i64 0, .int .i64 0, .int .i64 0, .int .i64 0, .bool false, .bool false, .bool false, .slice none 0 0, .string ⟨#[]⟩] 36)) (.cells #[.int .i64 0, .string ⟨#[]⟩, .int .i64 0] 43)
  have hR : At ((w.alloc (.cells #[.int .i64 0, .int .i64 0, .int .i64 0, .int .i64 0, .string ⟨#[]⟩, .int .i64 0, .int .i64 0, .int .i64 0, .int .i64 0, .int .i64 0, .int .i64 0, .int .i64 0, .int .i64 0, .int .i64 0, .int .i64 0, .int .i64 0, .bool false, .bool false, .string ⟨#[]⟩, .string ⟨#[]⟩, .int .i64 0, .int .i64 0, .int .i64 0, .int .i64 0, .string ⟨#[]⟩, .int .i64 0, .int .i64 0, .int .i64 0, .int .i64 0, .int .i64 0, .int .i64 0, .int .i64 0, .int .i64 0, .int .i64 0, .int .i64 0, .int .i64 0, .bool false, .bool false, .bool false, .slice none 0 0, .string ⟨#[]⟩] 36)).alloc (.cells #[.int .i64 0, .string ⟨#[]⟩, .int .i64 0] 43)) w.heap.size PZ := (At.box w #[.int .i64 0, .int .i64 0, .int .i64 0, .int .i64 0, .string ⟨#[]⟩, .int .i64 0, .int .i64 0, .int .i64 0, .int .i64 0, .int .i64 0, .int .i64 0, .int .i64 0, .int .i64 0, .int .i64 0, .int .i64 0, .int .i64 0, .bool false, .bool false, .string ⟨#[]⟩, .string ⟨#[]⟩, .int .i64 0, .int .i64 0, .int .i64 0, .int .i64 0, .string ⟨#[]⟩, .int .i64 0, .int .i64 0, .int .i64 0, .int .i64 0, .int .i64 0, .int .i64 0, .int .i64 0, .int .i64 0, .int .i64 0, .int .i64 0, .int .i64 0, .bool false, .bool false, .bool false, .slice none 0 0, .string ⟨#[]⟩] 36).later hb2
  have hW : At ((w.alloc (.cells #[.int .i64 0, .int .i64 0, .int .i64 0, .int .i64 0, .string ⟨#[]⟩, .int .i64 0, .int .i64 0, .int .i64 0, .int .i64 0, .int .i64 0, .int .i64 0, .int .i64 0, .int .i64 0, .int .i64 0, .int .i64 0, .int .i64 0, .bool false, .bool false, .string ⟨#[]⟩, .string ⟨#[]⟩, .int .i64 0, .int .i64 0, .int .i64 0, .int .i64 0, .string ⟨#[]⟩, .int .i64 0, .int .i64 0, .int .i64 0, .int .i64 0, .int .i64 0, .int .i64 0, .int .i64 0, .int .i64 0, .int .i64 0, .int .i64 0, .int .i64 0, .bool false, .bool false, .bool false, .slice none 0 0, .string ⟨#[]⟩] 36)).alloc (.cells #[.int .i64 0, .string ⟨#[]⟩, .int .i64 0] 43)) (w.heap.size + 1) #[.int .i64 0, .string ⟨#[]⟩, .int .i64 0] := At.box2 w (.cells #[.int .i64 0, .int .i64 0, .int .i64 0, .int .i64 0, .string ⟨#[]⟩, .int .i64 0, .int .i64 0, .int .i64 0, .int .i64 0, .int .i64 0, .int .i64 0, .int .i64 0, .int .i64 0, .int .i64 0, .int .i64 0, .int .i64 0, .bool false, .bool false, .string ⟨#[]⟩, .string ⟨#[]⟩, .int .i64 0, .int .i64 0, .int .i64 0, .int .i64 0, .string ⟨#[]⟩, .int .i64 0, .int .i64 0, .int .i64 0, .int .i64 0, .int .i64 0, .int .i64 0, .int .i64 0, .int .i64 0, .int .i64 0, .int .i64 0, .int .i64 0, .bool false, .bool false, .bool false, .slice none 0 0, .string ⟨#[]⟩] 36) #[.int .i64 0, .string ⟨#[]⟩, .int .i64 0] 43
  have hl := bt hb1 hb2
  have hz := buildZ
  have hzw := buildW
  clear hb1 hb2
  go_enter Tryz.func10, Tryz.ntmps10
  go_upto_region 1 with fail
  generalize hw0 : (w.alloc (.cells #[.int .i64 0, .int .i64 0, .int .i64 0, .int .i64 0, .string ⟨#[]⟩, .int .i64 0, .int .i64 0, .int .i64 0, .int .i64 0, .int .i64 0, .int .i64 0, .int .i64 0, .int .i64 0, .int .i64 0, .int .i64 0, .int .i64 0, .bool false, .bool false, .string ⟨#[]⟩, .string ⟨#[]⟩, .int .i64 0, .int .i64 0, .int .i64 0, .int .i64 0, .string ⟨#[]⟩, .int .i64 0, .int .i64 0, .int .i64 0, .int .i64 0, .int .i64 0, .int .i64 0, .int .i64 0, .int .i64 0, .int .i64 0, .int .i64 0, .int .i64 0, .bool false, .bool false, .bool false, .slice none 0 0, .string ⟨#[]⟩] 36)).alloc (.cells #[.int .i64 0, .string ⟨#[]⟩, .int .i64 0] 43) = w0 at *
  clear hw0
  go_wp2_with fail
  refine (HED.out _).mono ?_
  rintro e w3 ⟨rfl, hb⟩
  have hbx := bel1 w3 (.cells #[.int .i64 x.a, .int .i64 x.b, .int .i64 x.k, .string x.d] 23)
  have hF4 := At.box w3 #[.int .i64 x.a, .int .i64 x.b, .int .i64 x.k, .string x.d] 23
  replace hb := bt hb hbx
  replace hl := bt hl hb
  replace hR := hR.later hb
  replace hW := hW.later hb
  clear hb HED
  go_upto_region 2 with fail
  obtain ⟨B4, hB4⟩ : ∃ B, B = w3.heap.size := ⟨_, rfl⟩
  rw [← hB4] at hF4 ⊢
  generalize w3.alloc (.cells #[.int .i64 x.a, .int .i64 x.b, .int .i64 x.k, .string x.d] 23) = w4 at *
  clear hbx hB4
  have c2 := (hF4.2 2 _ rfl).1
  have c3 := (hF4.2 3 _ rfl).1
  go_wp2_with fail
  refine (HIP.out _).mono ?_
  rintro e w5 ⟨rfl, hb⟩
  have hbx := bel1 w5 (.cells #[.int .i64 y.f, .int .i64 y.t, .int .i64 y.tl, .int .i64 y.pr, .int .i64 y.id, .int .i64 y.fg, .bool y.mo, .bool y.dn, .string y.op, .string y.da] 27)
  have hI := At.box w5 #[.int .i64 y.f, .int .i64 y.t, .int .i64 y.tl, .int .i64 y.pr, .int .i64 y.id, .int .i64 y.fg, .bool y.mo, .bool y.dn, .string y.op, .string y.da] 27
  replace hb := bt hb hbx
  replace hl := bt hl hb
  replace hF4 := hF4.later hb
  replace hR := hR.later hb
  replace hW := hW.later hb
  clear hb HIP c2 c3
  go_upto_region 12 with fail
  obtain ⟨B6, hB6⟩ : ∃ B, B = w5.heap.size := ⟨_, rfl⟩
  rw [← hB6] at hI ⊢
  generalize w5.alloc (.cells #[.int .i64 y.f, .int .i64 y.t, .int .i64 y.tl, .int .i64 y.pr, .int .i64 y.id, .int .i64 y.fg, .bool y.mo, .bool y.dn, .string y.op, .string y.da] 27) = w6 at *
  clear hbx hB6
  have hlt0 : w.heap.size + 1 < w6.heap.size := hW.1
  go_upto_region 14 with fail
  go_cut [9, 10] from 11 (fun q y2 W => ∃ (w7 : World), q = .pointer (some ⟨w7.heap.size, 0, none⟩) ∧ y2 = .pointer (some ⟨w7.heap.size + 1, 0, none⟩) ∧ Below w.heap.size w w7 ∧ At w7 w.heap.size PZ ∧ At w7 (w.heap.size + 1) #[.int .i64 0, .string ⟨#[]⟩, .int .i64 0] ∧ At w7 B4 #[.int .i64 x.a, .int .i64 x.b, .int .i64 x.k, .string x.d] ∧ Below w7.heap.size w7 W ∧ At W w7.heap.size PZ ∧ At W (w7.heap.size + 1) #[.int .i64 c, .string l, .int .i64 a])
  case first =>
    go_wp2_with (refine wpList_loadG 27 _ (by rfl) (by rfl) B6 0 (by rfl) _ _ hI.range Tryz.underlying27 rfl size27 ?_)
    refine (HIN.out _).mono ?_
    rintro e w7 ⟨rfl, hb⟩
    replace hl := bt hl hb
    replace hF4 := hF4.later hb
    replace hR := hR.later hb
    replace hW := hW.later hb
    clear hb HIN hI
    have hbA := bel1 w7 (.cells #[.int .i64 0, .int .i64 0, .int .i64 0, .int .i64 0, .string ⟨#[]⟩, .int .i64 0, .int .i64 0, .int .i64 0, .int .i64 0, .int .i64 0, .int .i64 0, .int .i64 0, .int .i64 0, .int .i64 0, .int .i64 0, .int .i64 0, .bool false, .bool false, .string ⟨#[]⟩, .string ⟨#[]⟩, .int .i64 0, .int .i64 0, .int .i64 0, .int .i64 0, .string ⟨#[]⟩, .int .i64 0, .int .i64 0, .int .i64 0, .int .i64 0, .int .i64 0, .int .i64 0, .int .i64 0, .int .i64 0, .int .i64 0, .int .i64 0, .int .i64 0, .bool false, .bool false, .bool false, .slice none 0 0, .string ⟨#[]⟩] 36)
    have hbB := bel1 (w7.alloc (.cells #[.int .i64 0, .int .i64 0, .int .i64 0, .int .i64 0, .string ⟨#[]⟩, .int .i64 0, .int .i64 0, .int .i64 0, .int .i64 0, .int .i64 0, .int .i64 0, .int .i64 0, .int .i64 0, .int .i64 0, .int .i64 0, .int .i64 0, .bool false, .bool false, .string ⟨#[]⟩, .string ⟨#[]⟩, .int .i64 0, .int .i64 0, .int .i64 0, .int .i64 0, .string ⟨#[]⟩, .int .i64 0, .int .i64 0, .int .i64 0, .int .i64 0, .int .i64 0, .int .i64 0, .int .i64 0, .int .i64 0, .int .i64 0, .int .i64 0, .int .i64 0, .bool false, .bool false, .bool false, .slice none 0 0, .string ⟨#[]⟩] 36)) (.cells #[.int .i64 0, .string ⟨#[]⟩, .int .i64 0] 43)
    have hX0 : At ((w7.alloc (.cells #[.int .i64 0, .int .i64 0, .int .i64 0, .int .i64 0, .string ⟨#[]⟩, .int .i64 0, .int .i64 0, .int .i64 0, .int .i64 0, .int .i64 0, .int .i64 0, .int .i64 0, .int .i64 0, .int .i64 0, .int .i64 0, .int .i64 0, .bool false, .bool false, .string ⟨#[]⟩, .string ⟨#[]⟩, .int .i64 0, .int .i64 0, .int .i64 0, .int .i64 0, .string ⟨#[]⟩, .int .i64 0, .int .i64 0, .int .i64 0, .int .i64 0, .int .i64 0, .int .i64 0, .int .i64 0, .int .i64 0, .int .i64 0, .int .i64 0, .int .i64 0, .bool false, .bool false, .bool false, .slice none 0 0, .string ⟨#[]⟩] 36)).alloc (.cells #[.int .i64 0, .string ⟨#[]⟩, .int .i64 0] 43)) w7.heap.size PZ := (At.box w7 #[.int .i64 0, .int .i64 0, .int .i64 0, .int .i64 0, .string ⟨#[]⟩, .int .i64 0, .int .i64 0, .int .i64 0, .int .i64 0, .int .i64 0, .int .i64 0, .int .i64 0, .int .i64 0, .int .i64 0, .int .i64 0, .int .i64 0, .bool false, .bool false, .string ⟨#[]⟩, .string ⟨#[]⟩, .int .i64 0, .int .i64 0, .int .i64 0, .int .i64 0, .string ⟨#[]⟩, .int .i64 0, .int .i64 0, .int .i64 0, .int .i64 0, .int .i64 0, .int .i64 0, .int .i64 0, .int .i64 0, .int .i64 0, .int .i64 0, .int .i64 0, .bool false, .bool false, .bool false, .slice none 0 0, .string ⟨#[]⟩] 36).later hbB
    have hY0 : At ((w7.alloc (.cells #[.int .i64 0, .int .i64 0, .int .i64 0, .int .i64 0, .string ⟨#[]⟩, .int .i64 0, .int .i64 0, .int .i64 0, .int .i64 0, .int .i64 0, .int .i64 0, .int .i64 0, .int .i64 0, .int .i64 0, .int .i64 0, .int .i64 0, .bool false, .bool false, .string ⟨#[]⟩, .string ⟨#[]⟩, .int .i64 0, .int .i64 0, .int .i64 0, .int .i64 0, .string ⟨#[]⟩, .int .i64 0, .int .i64 0, .int .i64 0, .int .i64 0, .int .i64 0, .int .i64 0, .int .i64 0, .int .i64 0, .int .i64 0, .int .i64 0, .int .i64 0, .bool false, .bool false, .bool false, .slice none 0 0, .string ⟨#[]⟩] 36)).alloc (.cells #[.int .i64 0, .string ⟨#[]⟩, .int .i64 0] 43)) (w7.heap.size + 1) #[.int .i64 0, .string ⟨#[]⟩, .int .i64 0] := At.box2 w7 (.cells #[.int .i64 0, .int .i64 0, .int .i64 0, .int .i64 0, .string ⟨#[]⟩, .int .i64 0, .int .i64 0, .int .i64 0, .int .i64 0, .int .i64 0, .int .i64 0, .int .i64 0, .int .i64 0, .int .i64 0, .int .i64 0, .int .i64 0, .bool false, .bool false, .string ⟨#[]⟩, .string ⟨#[]⟩, .int .i64 0, .int .i64 0, .int .i64 0, .int .i64 0, .string ⟨#[]⟩, .int .i64 0, .int .i64 0, .int .i64 0, .int .i64 0, .int .i64 0, .int .i64 0, .int .i64 0, .int .i64 0, .int .i64 0, .int .i64 0, .int .i64 0, .bool false, .bool false, .bool false, .slice none 0 0, .string ⟨#[]⟩] 36) #[.int .i64 0, .string ⟨#[]⟩, .int .i64 0] 43
    have hY1 := At.apart (b := w7.heap.size) hY0 (by omega) 0 PZ.toList
    have hX1 : At (((w7.alloc (.cells #[.int .i64 0, .int .i64 0, .int .i64 0, .int .i64 0, .string ⟨#[]⟩, .int .i64 0, .int .i64 0, .int .i64 0, .int .i64 0, .int .i64 0, .int .i64 0, .int .i64 0, .int .i64 0, .int .i64 0, .int .i64 0, .int .i64 0, .bool false, .bool false, .string ⟨#[]⟩, .string ⟨#[]⟩, .int .i64 0, .int .i64 0, .int .i64 0, .int .i64 0, .string ⟨#[]⟩, .int .i64 0, .int .i64 0, .int .i64 0, .int .i64 0, .int .i64 0, .int .i64 0, .int .i64 0, .int .i64 0, .int .i64 0, .int .i64 0, .int .i64 0, .bool false, .bool false, .bool false, .slice none 0 0, .string ⟨#[]⟩] 36)).alloc (.cells #[.int .i64 0, .string ⟨#[]⟩, .int .i64 0] 43)).setCells w7.heap.size 0 PZ.toList) w7.heap.size PZ := At.whole (vs := PZ) hX0 rfl
    have hX2 := At.apart (b := w7.heap.size + 1) hX1 (by omega) 0 #[.int .i64 c, .string l, .int .i64 a].toList
    have hY2 : At ((((w7.alloc (.cells #[.int .i64 0, .int .i64 0, .int .i64 0, .int .i64 0, .string ⟨#[]⟩, .int .i64 0, .int .i64 0, .int .i64 0, .int .i64 0, .int .i64 0, .int .i64 0, .int .i64 0, .int .i64 0, .int .i64 0, .int .i64 0, .int .i64 0, .bool false, .bool false, .string ⟨#[]⟩, .string ⟨#[]⟩, .int .i64 0, .int .i64 0, .int .i64 0, .int .i64 0, .string ⟨#[]⟩, .int .i64 0, .int .i64 0, .int .i64 0, .int .i64 0, .int .i64 0, .int .i64 0, .int .i64 0, .int .i64 0, .int .i64 0, .int .i64 0, .int .i64 0, .bool false, .bool false, .bool false, .slice none 0 0, .string ⟨#[]⟩] 36)).alloc (.cells #[.int .i64 0, .string ⟨#[]⟩, .int .i64 0] 43)).setCells w7.heap.size 0 PZ.toList).setCells (w7.heap.size + 1) 0 #[.int .i64 c, .string l, .int .i64 a].toList) (w7.heap.size + 1) #[.int .i64 c, .string l, .int .i64 a] := At.whole (vs := #[.int .i64 c, .string l, .int .i64 a]) hY1 rfl
    have hbx : Below w7.heap.size w7 ((((w7.alloc (.cells #[.int .i64 0, .int .i64 0, .int .i64 0, .int .i64 0, .string ⟨#[]⟩, .int .i64 0, .int .i64 0, .int .i64 0, .int .i64 0, .int .i64 0, .int .i64 0, .int .i64 0, .int .i64 0, .int .i64 0, .int .i64 0, .int .i64 0, .bool false, .bool false, .string ⟨#[]⟩, .string ⟨#[]⟩, .int .i64 0, .int .i64 0, .int .i64 0, .int .i64 0, .string ⟨#[]⟩, .int .i64 0, .int .i64 0, .int .i64 0, .int .i64 0, .int .i64 0, .int .i64 0, .int .i64 0, .int .i64 0, .int .i64 0, .int .i64 0, .int .i64 0, .bool false, .bool false, .bool false, .slice none 0 0, .string ⟨#[]⟩] 36)).alloc (.cells #[.int .i64 0, .string ⟨#[]⟩, .int .i64 0] 43)).setCells w7.heap.size 0 PZ.toList).setCells (w7.heap.size + 1) 0 #[.int .i64 c, .string l, .int .i64 a].toList) := Below.setCells (by omega) _ _ _ (Below.setCells (Nat.le_refl _) _ _ _ (bt hbA hbB))
    go_wp2_with (refine wpList_store_mid (by rfl) 36 _ _ (by rfl) (w7.heap.size) 0 PZ (by rfl) (by rfl) hX0.there size36 PZ_one ?_; refine wpList_store_mid (by rfl) 43 _ _ (by rfl) (w7.heap.size + 1) 0 #[.int .i64 c, .string l, .int .i64 a] (by rfl) (by rfl) hY1.there size43 (by simp [Value.oneCell']) ?_)
    generalize (((w7.alloc (.cells #[.int .i64 0, .int .i64 0, .int .i64 0, .int .i64 0, .string ⟨#[]⟩, .int .i64 0, .int .i64 0, .int .i64 0, .int .i64 0, .int .i64 0, .int .i64 0, .int .i64 0, .int .i64 0, .int .i64 0, .int .i64 0, .int .i64 0, .bool false, .bool false, .string ⟨#[]⟩, .string ⟨#[]⟩, .int .i64 0, .int .i64 0, .int .i64 0, .int .i64 0, .string ⟨#[]⟩, .int .i64 0, .int .i64 0, .int .i64 0, .int .i64 0, .int .i64 0, .int .i64 0, .int .i64 0, .int .i64 0, .int .i64 0, .int .i64 0, .int .i64 0, .bool false, .bool false, .bool false, .slice none 0 0, .string ⟨#[]⟩] 36)).alloc (.cells #[.int .i64 0, .string ⟨#[]⟩, .int .i64 0] 43)).setCells w7.heap.size 0 PZ.toList).setCells (w7.heap.size + 1) 0 #[.int .i64 c, .string l, .int .i64 a].toList = w8 at *
    go_meet
    case rel => exact ⟨w7, rfl, rfl, hl, hR, hW, hF4, hbx, hX2, hY2⟩
  case rest =>
  clear hl hR hW hF4 hI HIN
  obtain ⟨w7, rfl, rfl, hl, hR, hW, hF4, hb7, hX, hY⟩ := hcut
  have HX : Hid (Below w.heap.size w w7 ∧ At w7 w.heap.size PZ ∧ At w7 (w.heap.size + 1) #[.int .i64 0, .string ⟨#[]⟩, .int .i64 0] ∧ Below w7.heap.size w7 wc ∧ At wc (w7.heap.size + 1) #[.int .i64 c, .string l, .int .i64 a]) := ⟨hl, hR, hW, hb7, hY⟩
  have c0 := (hY.2 0 _ rfl).1
  clear hl hR hW hF4 hX hY hb7 hz hzw
  go_upto_region 16 with fail
  clear c0
  refine wp_region_any (by kernel_rfl) ?_
  refine region_facts_end (fun W => Below wc.heap.size wc W) (GE (fun qq => match qq with | 0 => .agg PZ | 1 => .pointer (some ⟨w7.heap.size + 1, 0, none⟩) | 2 => .int .i64 c | 3 => .pointer (some ⟨w7.heap.size + 1, 1, none⟩) | 4 => .string l | 5 => .pointer (some ⟨w7.heap.size + 1, 2, none⟩) | 6 => .int .i64 a | 7 => .int .i64 (a + 14) | 8 => .agg #[.int .i64 c, .string l, .int .i64 (a + 14)] | _ => undef) (fun _ => none)) (n := 76) 10 8 (by kernel_rfl) (by kernel_rfl) rfl (by kernel_rfl) (GE_later _ _ (fun _ _ h => by cases h)) ?_ ?_ ((Below.refl _ _).drew) (Nat.le_refl _)
  · skip
    refine ⟨?_, ?_, ?_, ?_, ?_, ?_, ?_, ?_, ?_, ?_, trivial⟩
    · intro ac w1 hS hT hB hD K hK
      rw [if_pos (by rfl)]
      clear hB hD hT
      exact wp_buildZ rfl (hK _ _ hS (Below.refl _ _) rfl)
    · intro ac w1 hS hT hB hD K hK
      rw [if_pos (by rfl)]
      have d10 : ac.tmps.getD 10 undef = .pointer (some ⟨w7.heap.size + 1, 0, none⟩) := hB 10 (by kernel_rfl)
      clear hB hD hT
      go_simp
      exact hK _ _ hS (Below.refl _ _) rfl
    · intro ac w1 hS hT hB hD K hK
      rw [if_pos (by rfl)]
      have d64 : ac.tmps.getD 64 undef = .pointer (some ⟨w7.heap.size + 1, 0, none⟩) := hD ⟨1, .data⟩ (by simp) rfl _ 64 rfl rfl
      clear hB hD hT
      have hc := ((HX.out.2.2.2.2.later hS).2 0 _ rfl).1
      go_simp
      exact hK _ _ hS (Below.refl _ _) rfl
    · intro ac w1 hS hT hB hD K hK
      rw [if_pos (by rfl)]
      have d10 : ac.tmps.getD 10 undef = .pointer (some ⟨w7.heap.size + 1, 0, none⟩) := hB 10 (by kernel_rfl)
      clear hB hD hT
      go_simp
      exact hK _ _ hS (Below.refl _ _) rfl
    · intro ac w1 hS hT hB hD K hK
      rw [if_pos (by rfl)]
      have d66 : ac.tmps.getD 66 undef = .pointer (some ⟨w7.heap.size + 1, 1, none⟩) := hD ⟨3, .data⟩ (by simp) rfl _ 66 rfl rfl
      clear hB hD hT
      have hc := ((HX.out.2.2.2.2.later hS).2 1 _ rfl).1
      go_simp
      exact hK _ _ hS (Below.refl _ _) rfl
    · intro ac w1 hS hT hB hD K hK
      rw [if_pos (by rfl)]
      have d10 : ac.tmps.getD 10 undef = .pointer (some ⟨w7.heap.size + 1, 0, none⟩) := hB 10 (by kernel_rfl)
      clear hB hD hT
      go_simp
      exact hK _ _ hS (Below.refl _ _) rfl
    · intro ac w1 hS hT hB hD K hK
      rw [if_pos (by rfl)]
      have d68 : ac.tmps.getD 68 undef = .pointer (some ⟨w7.heap.size + 1, 2, none⟩) := hD ⟨5, .data⟩ (by simp) rfl _ 68 rfl rfl
      clear hB hD hT
      have hc := ((HX.out.2.2.2.2.later hS).2 2 _ rfl).1
      go_simp
      exact hK _ _ hS (Below.refl _ _) rfl
    · intro ac w1 hS hT hB hD K hK
      rw [if_pos (by rfl)]
      have d69 : ac.tmps.getD 69 undef = .int .i64 a := hD ⟨6, .data⟩ (by simp) rfl _ 69 rfl rfl
      clear hB hD hT
      go_simp
      exact hK _ _ hS (Below.refl _ _) rfl
    · intro ac w1 hS hT hB hD K hK
      rw [if_pos (by rfl)]
      have d65 : ac.tmps.getD 65 undef = .int .i64 c := hD ⟨2, .data⟩ (by simp) rfl _ 65 rfl rfl
      have d67 : ac.tmps.getD 67 undef = .string l := hD ⟨4, .data⟩ (by simp) rfl _ 67 rfl rfl
      have d70 : ac.tmps.getD 70 undef = .int .i64 (a + 14) := hD ⟨7, .data⟩ (by simp) rfl _ 70 rfl rfl
      clear hB hD hT
      exact wp_build3 43 (.tmp 65) (.tmp 67) (.tmp 70) _ _ _ _ rfl d65 d67 d70 (by kernel_rfl) (hK _ _ hS (Below.refl _ _) rfl)
    · intro ac w1 hS hT hB hD K hK
      rw [if_pos (by rfl)]
      have d2 : ac.tmps.getD 2 undef = .pointer (some ⟨w.heap.size, 0, none⟩) := hB 2 (by kernel_rfl)
      have d63 : ac.tmps.getD 63 undef = .agg PZ := hD ⟨0, .data⟩ (by simp) rfl _ 63 rfl rfl
      clear hB hD hT
      refine wp_store_mid 36 (.tmp 2) (.tmp 63) rfl (w.heap.size) 0 PZ d2 d63 ((HX.out.2.1.later HX.out.2.2.2.1).later hS).there size36 PZ_one ?_
      rw [setCells_id _ _ _ _ ((HX.out.2.1.later HX.out.2.2.2.1).later hS).range]
      exact hK _ _ hS (Below.refl _ _) rfl
  · intro ac w9 hS hT hdf hB hF
    have hfr : ac.tmps = #[.string st, undef, .pointer (some ⟨w.heap.size, 0, none⟩), .pointer (some ⟨w.heap.size + 1, 0, none⟩), .pointer (some ⟨B4, 0, none⟩), .int .i64 0, undef, undef, .pointer (some ⟨B6, 0, none⟩), .pointer (some ⟨w7.heap.size, 0, none⟩), .pointer (some ⟨w7.heap.size + 1, 0, none⟩), u11, u12, u13, u14, u15, u16, u17, u18, u19, u20, u21, u22, u23, u24, u25, u26, u27, u28, u29, u30, u31, u32, u33, u34, u35, u36, u37, u38, u39, u40, u41, u42, u43, u44, u45, u46, u47, u48, u49, u50, u51, u52, u53, u54, u55, u56, u57, u58, u59, .pointer (some ⟨w7.heap.size + 1, 0, none⟩), .int .i64 c, .bool true, (ac.tmps.getD 63 undef), (ac.tmps.getD 64 undef), (ac.tmps.getD 65 undef), (ac.tmps.getD 66 undef), (ac.tmps.getD 67 undef), (ac.tmps.getD 68 undef), (ac.tmps.getD 69 undef), (ac.tmps.getD 70 undef), (ac.tmps.getD 71 undef), u72, u73, u74, u75] := (frame_eq hT rfl hB).trans (by kernel_rfl)
    obtain ⟨T, df⟩ := ac
    have s0 : T.getD 63 undef = .agg PZ := hF 0 _ 63 (by decide) rfl rfl
    have s8 : T.getD 71 undef = .agg #[.int .i64 c, .string l, .int .i64 (a + 14)] := hF 8 _ 71 (by decide) rfl rfl
    have sdf : df = [] := hdf
    simp only at hfr
    clear hB hF hT hdf
    generalize T.getD 63 undef = y63 at *
    generalize T.getD 64 undef = y64 at *
    generalize T.getD 65 undef = y65 at *
    generalize T.getD 66 undef = y66 at *
    generalize T.getD 67 undef = y67 at *
    generalize T.getD 68 undef = y68 at *
    generalize T.getD 69 undef = y69 at *
    generalize T.getD 70 undef = y70 at *
    generalize T.getD 71 undef = y71 at *
    subst hfr s0 s8 sdf
    have hb9 := bt HX.out.2.2.2.1 hS
    have hl := bt HX.out.1 hb9
    have hR := HX.out.2.1.later hb9
    have hW := HX.out.2.2.1.later hb9
    clear HX hS hb9
    intro Kc hKc
    rw [if_pos (by rfl)]
    refine wp_store_mid 43 (.tmp 3) (.tmp 71) (by rfl) (w.heap.size + 1) 0 #[.int .i64 c, .string l, .int .i64 (a + 14)] (by rfl) (by rfl) hW.there size43 (by simp [Value.oneCell']) ?_
    apply hKc
    clear hKc Kc
    refine TailOk_nil ?_
    go_wp2
    exact bodyPost_ret (v := .tuple #[.agg PZ, .agg #[.int .i64 c, .string l, .int .i64 (a + 14)]]) (ret_cc (by rfl) (At.apart hR (by omega) _ _) rfl (At.whole (vs := #[.int .i64 c, .string l, .int .i64 (a + 14)]) hW rfl) rfl (by rfl) (by rfl)) (by rfl) ⟨rfl, Below.setCells (by omega) _ _ _ hl⟩
set_option maxHeartbeats 8000000 in
theorem rpar_7 (st : ByteArray) (x : FrT) (y : PkT) (z z' : Pd) (w : World)
    (hz' : Hid (z' = ({ z with fr := x } : Pd)))
    (hsg : Hid (z'.sg = z.sg))
    (HED : Hid (∀ W, Calls Tryz.prog 29 #[.string st] W fun e w' => e = .returned (.tuple #[.agg #[.int .i64 x.a, .int .i64 x.b, .int .i64 x.k, .string x.d], .int .i64 0]) ∧ Below W.heap.size W w'))
    (q : (x.k == 2054) = false) (q2 : (x.k != 2048) = false)
    (HIP : Hid (∀ W, Calls Tryz.prog 31 #[.string x.d] W fun e w' => e = .returned (.tuple #[.agg #[.int .i64 y.f, .int .i64 y.t, .int .i64 y.tl, .int .i64 y.pr, .int .i64 y.id, .int .i64 y.fg, .bool y.mo, .bool y.dn, .string y.op, .string y.da], .int .i64 0]) ∧ Below W.heap.size W w'))
    (HIN : Hid (∀ W, Calls Tryz.prog 15 #[.agg #[.int .i64 y.f, .int .i64 y.t, .int .i64 y.tl, .int .i64 y.pr, .int .i64 y.id, .int .i64 y.fg, .bool y.mo, .bool y.dn, .string y.op, .string y.da]] W fun e w' => ∃ v, e = .returned (.tuple #[.agg (z.v v), .agg #[.int .i64 0, .string ⟨#[]⟩, .int .i64 0]]) ∧ RgA W.heap.size w' v z.sg.o.rs ∧ Below W.heap.size W w')) :
    Calls Tryz.prog 10 #[.string st] w fun e w' => ∃ v, e = .returned (.tuple #[.agg (Pd.v (z') v), .agg #[.int .i64 0, .string ⟨#[]⟩, .int .i64 0]]) ∧ RgA w.heap.size w' v (z').sg.o.rs ∧ Below w.heap.size w w' := by
  have hb1 := bel1 w (.cells #[.int .i64 0, .int .i64 0, .int .i64 0, .int .i64 0, .string ⟨#[]⟩, .int .i64 0, .int .i64 0, .int .i64 0, .int .i64 0, .int .i64 0, .int .i64 0, .int .i64 0, .int .i64 0, .int .i64 0, .int .i64 0, .int .i64 0, .bool false, .bool false, .string ⟨#[]⟩, .string ⟨#[]⟩, .int .i64 0, .int .i64 0, .int .i64 0, .int .i64 0, .string ⟨#[]⟩, .int .i64 0, .int .i64 0, .int .i64 0, .int .i64 0, .int .i64 0, .int .i64 0, .int .i64 0, .int .i64 0, .int .i64 0, .int .i64 0, .int .i64 0, .bool false, .bool false, .bool false, .slice none 0 0, .string ⟨#[]⟩] 36)
  have hb2 := bel1 (w.alloc (.cells #[.int .i64 0, .int .i64 0, .int .i64 0, .int .i64 0, .string ⟨#[]⟩, .int .i64 0, .int .i64 0, .int .i64 0, .int .i64 0, .int .i64 0, .int .i64 0, .int .i64 0, .int .i64 0, .int .i64 0, .int .i64 0, .int .i64 0, .bool false, .bool false, .string ⟨#[]⟩, .string ⟨#[]⟩, .int .i64 0, .int .i64 0, .int .i64 0, .int .i64 0, .string ⟨#[]⟩, .int .i64 0, .int .i64 0, .int .i64 0, .int .i64 0, .int .i64 0, .int .i64 0, .int .i64 0, .int .i64 0, .int .i64 0, .int .i64 0, .int .i64 0, .bool false, .bool false, .bool false, .slice none 0 0, .string ⟨#[]⟩] 36)) (.cells #[.int .i64 0, .string ⟨#[]⟩, .int .i64 0] 43)
  have hR : At ((w.alloc (.cells #[.int .i64 0, .int .i64 0, .int .i64 0, .int .i64 0, .string ⟨#[]⟩, .int .i64 0, .int .i64 0, .int .i64 0, .int .i64 0, .int .i64 0, .int .i64 0, .int .i64 0, .int .i64 0, .int .i64 0, .int .i64 0, .int .i64 0, .bool false, .bool false, .string ⟨#[]⟩, .string ⟨#[]⟩, .int .i64 0, .int .i64 0, .int .i64 0, .int .i64 0, .string ⟨#[]⟩, .int .i64 0, .int .i64 0, .int .i64 0, .int .i64 0, .int .i64 0, .int .i64 0, .int .i64 0, .int .i64 0, .int .i64 0, .int .i64 0, .int .i64 0, .bool false, .bool false, .bool false, .slice none 0 0, .string ⟨#[]⟩] 36)).alloc (.cells #[.int .i64 0, .string ⟨#[]⟩, .int .i64 0] 43)) w.heap.size PZ := (At.box w #[.int .i64 0, .int .i64 0, .int .i64 0, .int .i64 0, .string ⟨#[]⟩, .int .i64 0, .int .i64 0, .int .i64 0, .int .i64 0, .int .i64 0, .int .i64 0, .int .i64 0, .int .i64 0, .int .i64 0, .int .i64 0, .int .i64 0, .bool false, .bool false, .string ⟨#[]⟩, .string ⟨#[]⟩, .int .i64 0, .int .i64 0, .int .i64 0, .int .i64 0, .string ⟨#[]⟩, .int .i64 0, .int .i64 0, .int .i64 0, .int .i64 0, .int .i64 0, .int .i64 0, .int .i64 0, .int .i64 0, .int .i64 0, .int .i64 0, .int .i64 0, .bool false, .bool false, .bool false, .slice none 0 0, .string ⟨#[]⟩] 36).later hb2
  have hW : At ((w.alloc (.cells #[.int .i64 0, .int .i64 0, .int .i64 0, .int .i64 0, .string ⟨#[]⟩, .int .i64 0, .int .i64 0, .int .i64 0, .int .i64 0, .int .i64 0, .int .i64 0, .int .i64 0, .int .i64 0, .int .i64 0, .int .i64 0, .int .i64 0, .bool false, .bool false, .string ⟨#[]⟩, .string ⟨#[]⟩, .int .i64 0, .int .i64 0, .int .i64 0, .int .i64 0, .string ⟨#[]⟩, .int .i64 0, .int .i64 0, .int .i64 0, .int .i64 0, .int .i64 0, .int .i64 0, .int .i64 0, .int .i64 0, .int .i64 0, .int .i64 0, .int .i64 0, .bool false, .bool false, .bool false, .slice none 0 0, .string ⟨#[]⟩] 36)).alloc (.cells #[.int .i64 0, .string ⟨#[]⟩, .int .i64 0] 43)) (w.heap.size + 1) #[.int .i64 0, .string ⟨#[]⟩, .int .i64 0] := At.box2 w (.cells #[.int .i64 0, .int .i64 0, .int .i64 0, .int .i64 0, .string ⟨#[]⟩, .int .i64 0, .int .i64 0, .int .i64 0, .int .i64 0, .int .i64 0, .int .i64 0, .int .i64 0, .int .i64 0, .int .i64 0, .int .i64 0, .int .i64 0, .bool false, .bool false, .string ⟨#[]⟩, .string ⟨#[]⟩, .int .i64 0, .int .i64 0, .int .i64 0, .int .i64 0, .string ⟨#[]⟩, .int .i64 0, .int .i64 0, .int .i64 0, .int .i64 0, .int .i64 0, .int .i64 0, .int .i64 0, .int .i64 0, .int .i64 0, .int .i64 0, .int .i64 0, .bool false, .bool false, .bool false, .slice none 0 0, .string ⟨#[]⟩] 36) #[.int .i64 0, .string ⟨#[]⟩, .int .i64 0] 43
  have hl := bt hb1 hb2
  have hz := buildZ
  have hzw := buildW
  clear hb1 hb2
  go_enter Tryz.func10, Tryz.ntmps10
  go_upto_region 1 with fail
  generalize hw0 : (w.alloc (.cells #[.int .i64 0, .int .i64 0, .int .i64 0, .int .i64 0, .string ⟨#[]⟩, .int .i64 0, .int .i64 0, .int .i64 0, .int .i64 0, .int .i64 0, .int .i64 0, .int .i64 0, .int .i64 0, .int .i64 0, .int .i64 0, .int .i64 0, .bool false, .bool false, .string ⟨#[]⟩, .string ⟨#[]⟩, .int .i64 0, .int .i64 0, .int .i64 0, .int .i64 0, .string ⟨#[]⟩, .int .i64 0, .int .i64 0, .int .i64 0, .int .i64 0, .int .i64 0, .int .i64 0, .int .i64 0, .int .i64 0, .int .i64 0, .int .i64 0, .int .i64 0, .bool false, .bool false, .bool false, .slice none 0 0, .string ⟨#[]⟩] 36)).alloc (.cells #[.int .i64 0, .string ⟨#[]⟩, .int .i64 0] 43) = w0 at *
  clear hw0
  go_wp2_with fail
  refine (HED.out _).mono ?_
  rintro e w3 ⟨rfl, hb⟩
  have hbx := bel1 w3 (.cells #[.int .i64 x.a, .int .i64 x.b, .int .i64 x.k, .string x.d] 23)
  have hF4 := At.box w3 #[.int .i64 x.a, .int .i64 x.b, .int .i64 x.k, .string x.d] 23
  replace hb := bt hb hbx
  replace hl := bt hl hb
  replace hR := hR.later hb
  replace hW := hW.later hb
  clear hb HED
  go_upto_region 2 with fail
  obtain ⟨B4, hB4⟩ : ∃ B, B = w3.heap.size := ⟨_, rfl⟩
  rw [← hB4] at hF4 ⊢
  generalize w3.alloc (.cells #[.int .i64 x.a, .int .i64 x.b, .int .i64 x.k, .string x.d] 23) = w4 at *
  clear hbx hB4
  have c2 := (hF4.2 2 _ rfl).1
  have c3 := (hF4.2 3 _ rfl).1
  go_wp2_with fail
  refine (HIP.out _).mono ?_
  rintro e w5 ⟨rfl, hb⟩
  have hbx := bel1 w5 (.cells #[.int .i64 y.f, .int .i64 y.t, .int .i64 y.tl, .int .i64 y.pr, .int .i64 y.id, .int .i64 y.fg, .bool y.mo, .bool y.dn, .string y.op, .string y.da] 27)
  have hI := At.box w5 #[.int .i64 y.f, .int .i64 y.t, .int .i64 y.tl, .int .i64 y.pr, .int .i64 y.id, .int .i64 y.fg, .bool y.mo, .bool y.dn, .string y.op, .string y.da] 27
  replace hb := bt hb hbx
  replace hl := bt hl hb
  replace hF4 := hF4.later hb
  replace hR := hR.later hb
  replace hW := hW.later hb
  clear hb HIP c2 c3
  go_upto_region 12 with fail
  obtain ⟨B6, hB6⟩ : ∃ B, B = w5.heap.size := ⟨_, rfl⟩
  rw [← hB6] at hI ⊢
  generalize w5.alloc (.cells #[.int .i64 y.f, .int .i64 y.t, .int .i64 y.tl, .int .i64 y.pr, .int .i64 y.id, .int .i64 y.fg, .bool y.mo, .bool y.dn, .string y.op, .string y.da] 27) = w6 at *
  clear hbx hB6
  have hlt0 : w.heap.size + 1 < w6.heap.size := hW.1
  go_upto_region 14 with fail
  go_cut [9, 10] from 11 (fun q y2 W => ∃ (w7 : World) (a0 : Option Addr) (cap0 : Nat), q = .pointer (some ⟨w7.heap.size, 0, none⟩) ∧ y2 = .pointer (some ⟨w7.heap.size + 1, 0, none⟩) ∧ Below w.heap.size w w7 ∧ At w7 w.heap.size PZ ∧ At w7 (w.heap.size + 1) #[.int .i64 0, .string ⟨#[]⟩, .int .i64 0] ∧ At w7 B4 #[.int .i64 x.a, .int .i64 x.b, .int .i64 x.k, .string x.d] ∧ Below w7.heap.size w7 W ∧ At W w7.heap.size (z.v (.slice a0 z.sg.o.rs.length cap0)) ∧ At W (w7.heap.size + 1) #[.int .i64 0, .string ⟨#[]⟩, .int .i64 0] ∧ RgA w6.heap.size w7 (.slice a0 z.sg.o.rs.length cap0) z.sg.o.rs)
  case first =>
    go_wp2_with (refine wpList_loadG 27 _ (by rfl) (by rfl) B6 0 (by rfl) _ _ hI.range Tryz.underlying27 rfl size27 ?_)
    refine (HIN.out _).mono ?_
    rintro e w7 ⟨v, rfl, hvr, hb⟩
    obtain ⟨a0, cap0, hve, -⟩ := id hvr
    subst hve
    replace hl := bt hl hb
    replace hF4 := hF4.later hb
    replace hR := hR.later hb
    replace hW := hW.later hb
    clear hb HIN hI
    have hbA := bel1 w7 (.cells #[.int .i64 0, .int .i64 0, .int .i64 0, .int .i64 0, .string ⟨#[]⟩, .int .i64 0, .int .i64 0, .int .i64 0, .int .i64 0, .int .i64 0, .int .i64 0, .int .i64 0, .int .i64 0, .int .i64 0, .int .i64 0, .int .i64 0, .bool false, .bool false, .string ⟨#[]⟩, .string ⟨#[]⟩, .int .i64 0, .int .i64 0, .int .i64 0, .int .i64 0, .string ⟨#[]⟩, .int .i64 0, .int .i64 0, .int .i64 0, .int .i64 0, .int .i64 0, .int .i64 0, .int .i64 0, .int .i64 0, .int .i64 0, .int .i64 0, .int .i64 0, .bool false, .bool false, .bool false, .slice none 0 0, .string ⟨#[]⟩] 36)
    have hbB := bel1 (w7.alloc (.cells #[.int .i64 0, .int .i64 0, .int .i64 0, .int .i64 0, .string ⟨#[]⟩, .int .i64 0, .int .i64 0, .int .i64 0, .int .i64 0, .int .i64 0, .int .i64 0, .int .i64 0, .int .i64 0, .int .i64 0, .int .i64 0, .int .i64 0, .bool false, .bool false, .string ⟨#[]⟩, .string ⟨#[]⟩, .int .i64 0, .int .i64 0, .int .i64 0, .int .i64 0, .string ⟨#[]⟩, .int .i64 0, .int .i64 0, .int .i64 0, .int .i64 0, .int .i64 0, .int .i64 0, .int .i64 0, .int .i64 0, .int .i64 0, .int .i64 0, .int .i64 0, .bool false, .bool false, .bool false, .slice none 0 0, .string ⟨#[]⟩] 36)) (.cells #[.int .i64 0, .string ⟨#[]⟩, .int .i64 0] 43)
    have hX0 : At ((w7.alloc (.cells #[.int .i64 0, .int .i64 0, .int .i64 0, .int .i64 0, .string ⟨#[]⟩, .int .i64 0, .int .i64 0, .int .i64 0, .int .i64 0, .int .i64 0, .int .i64 0, .int .i64 0, .int .i64 0, .int .i64 0, .int .i64 0, .int .i64 0, .bool false, .bool false, .string ⟨#[]⟩, .string ⟨#[]⟩, .int .i64 0, .int .i64 0, .int .i64 0, .int .i64 0, .string ⟨#[]⟩, .int .i64 0, .int .i64 0, .int .i64 0, .int .i64 0, .int .i64 0, .int .i64 0, .int .i64 0, .int .i64 0, .int .i64 0, .int .i64 0, .int .i64 0, .bool false, .bool false, .bool false, .slice none 0 0, .string ⟨#[]⟩] 36)).alloc (.cells #[.int .i64 0, .string ⟨#[]⟩, .int .i64 0] 43)) w7.heap.size PZ := (At.box w7 #[.int .i64 0, .int .i64 0, .int .i64 0, .int .i64 0, .string ⟨#[]⟩, .int .i64 0, .int .i64 0, .int .i64 0, .int .i64 0, .int .i64 0, .int .i64 0, .int .i64 0, .int .i64 0, .int .i64 0, .int .i64 0, .int .i64 0, .bool false, .bool false, .string ⟨#[]⟩, .string ⟨#[]⟩, .int .i64 0, .int .i64 0, .int .i64 0, .int .i64 0, .string ⟨#[]⟩, .int .i64 0, .int .i64 0, .int .i64 0, .int .i64 0, .int .i64 0, .int .i64 0, .int .i64 0, .int .i64 0, .int .i64 0, .int .i64 0, .int .i64 0, .bool false, .bool false, .bool false, .slice none 0 0, .string ⟨#[]⟩] 36).later hbB
    have hY0 : At ((w7.alloc (.cells #[.int .i64 0, .int .i64 0, .int .i64 0, .int .i64 0, .string ⟨#[]⟩, .int .i64 0, .int .i64 0, .int .i64 0, .int .i64 0, .int .i64 0, .int .i64 0, .int .i64 0, .int .i64 0, .int .i64 0, .int .i64 0, .int .i64 0, .bool false, .bool false, .string ⟨#[]⟩, .string ⟨#[]⟩, .int .i64 0, .int .i64 0, .int .i64 0, .int .i64 0, .string ⟨#[]⟩, .int .i64 0, .int .i64 0, .int .i64 0, .int .i64 0, .int .i64 0, .int .i64 0, .int .i64 0, .int .i64 0, .int .i64 0, .int .i64 0, .int .i64 0, .bool false, .bool false, .bool false, .slice none 0 0, .string ⟨#[]⟩] 36)).alloc (.cells #[.int .i64 0, .string ⟨#[]⟩, .int .i64 0] 43)) (w7.heap.size + 1) #[.int .i64 0, .string ⟨#[]⟩, .int .i64 0] := At.box2 w7 (.cells #[.int .i64 0, .int .i64 0, .int .i64 0, .int .i64 0, .string ⟨#[]⟩, .int .i64 0, .int .i64 0, .int .i64 0, .int .i64 0, .int .i64 0, .int .i64 0, .int .i64 0, .int .i64 0, .int .i64 0, .int .i64 0, .int .i64 0, .bool false, .bool false, .string ⟨#[]⟩, .string ⟨#[]⟩, .int .i64 0, .int .i64 0, .int .i64 0, .int .i64 0, .string ⟨#[]⟩, .int .i64 0, .int .i64 0, .int .i64 0, .int .i64 0, .int .i64 0, .int .i64 0, .int .i64 0, .int .i64 0, .int .i64 0, .int .i64 0, .int .i64 0, .bool false, .bool false, .bool false, .slice none 0 0, .string ⟨#[]⟩] 36) #[.int .i64 0, .string ⟨#[]⟩, .int .i64 0] 43
    have hY1 := At.apart (b := w7.heap.size) hY0 (by omega) 0 (z.v (.slice a0 z.sg.o.rs.length cap0)).toList
    have hX1 : At (((w7.alloc (.cells #[.int .i64 0, .int .i64 0, .int .i64 0, .int .i64 0, .string ⟨#[]⟩, .int .i64 0, .int .i64 0, .int .i64 0, .int .i64 0, .int .i64 0, .int .i64 0, .int .i64 0, .int .i64 0, .int .i64 0, .int .i64 0, .int .i64 0, .bool false, .bool false, .string ⟨#[]⟩, .string ⟨#[]⟩, .int .i64 0, .int .i64 0, .int .i64 0, .int .i64 0, .string ⟨#[]⟩, .int .i64 0, .int .i64 0, .int .i64 0, .int .i64 0, .int .i64 0, .int .i64 0, .int .i64 0, .int .i64 0, .int .i64 0, .int .i64 0, .int .i64 0, .bool false, .bool false, .bool false, .slice none 0 0, .string ⟨#[]⟩] 36)).alloc (.cells #[.int .i64 0, .string ⟨#[]⟩, .int .i64 0] 43)).setCells w7.heap.size 0 (z.v (.slice a0 z.sg.o.rs.length cap0)).toList) w7.heap.size (z.v (.slice a0 z.sg.o.rs.length cap0)) := At.whole (vs := (z.v (.slice a0 z.sg.o.rs.length cap0))) hX0 rfl
    have hX2 := At.apart (b := w7.heap.size + 1) hX1 (by omega) 0 #[.int .i64 0, .string ⟨#[]⟩, .int .i64 0].toList
    have hY2 : At ((((w7.alloc (.cells #[.int .i64 0, .int .i64 0, .int .i64 0, .int .i64 0, .string ⟨#[]⟩, .int .i64 0, .int .i64 0, .int .i64 0, .int .i64 0, .int .i64 0, .int .i64 0, .int .i64 0, .int .i64 0, .int .i64 0, .int .i64 0, .int .i64 0, .bool false, .bool false, .string ⟨#[]⟩, .string ⟨#[]⟩, .int .i64 0, .int .i64 0, .int .i64 0, .int .i64 0, .string ⟨#[]⟩, .int .i64 0, .int .i64 0, .int .i64 0, .int .i64 0, .int .i64 0, .int .i64 0, .int .i64 0, .int .i64 0, .int .i64 0, .int .i64 0, .int .i64 0, .bool false, .bool false, .bool false, .slice none 0 0, .string ⟨#[]⟩] 36)).alloc (.cells #[.int .i64 0, .string ⟨#[]⟩, .int .i64 0] 43)).setCells w7.heap.size 0 (z.v (.slice a0 z.sg.o.rs.length cap0)).toList).setCells (w7.heap.size + 1) 0 #[.int .i64 0, .string ⟨#[]⟩, .int .i64 0].toList) (w7.heap.size + 1) #[.int .i64 0, .string ⟨#[]⟩, .int .i64 0] := At.whole (vs := #[.int .i64 0, .string ⟨#[]⟩, .int .i64 0]) hY1 rfl
    have hbx : Below w7.heap.size w7 ((((w7.alloc (.cells #[.int .i64 0, .int .i64 0, .int .i64 0, .int .i64 0, .string ⟨#[]⟩, .int .i64 0, .int .i64 0, .int .i64 0, .int .i64 0, .int .i64 0, .int .i64 0, .int .i64 0, .int .i64 0, .int .i64 0, .int .i64 0, .int .i64 0, .bool false, .bool false, .string ⟨#[]⟩, .string ⟨#[]⟩, .int .i64 0, .int .i64 0, .int .i64 0, .int .i64 0, .string ⟨#[]⟩, .int .i64 0, .int .i64 0, .int .i64 0, .int .i64 0, .int .i64 0, .int .i64 0, .int .i64 0, .int .i64 0, .int .i64 0, .int .i64 0, .int .i64 0, .bool false, .bool false, .bool false, .slice none 0 0, .string ⟨#[]⟩] 36)).alloc (.cells #[.int .i64 0, .string ⟨#[]⟩, .int .i64 0] 43)).setCells w7.heap.size 0 (z.v (.slice a0 z.sg.o.rs.length cap0)).toList).setCells (w7.heap.size + 1) 0 #[.int .i64 0, .string ⟨#[]⟩, .int .i64 0].toList) := Below.setCells (by omega) _ _ _ (Below.setCells (Nat.le_refl _) _ _ _ (bt hbA hbB))
    go_wp2_with (refine wpList_store_mid (by rfl) 36 _ _ (by rfl) (w7.heap.size) 0 (z.v (.slice a0 z.sg.o.rs.length cap0)) (by rfl) (by rfl) hX0.there size36 (Pd.one _ rfl) ?_; refine wpList_store_mid (by rfl) 43 _ _ (by rfl) (w7.heap.size + 1) 0 #[.int .i64 0, .string ⟨#[]⟩, .int .i64 0] (by rfl) (by rfl) hY1.there size43 (by simp [Value.oneCell']) ?_)
    generalize (((w7.alloc (.cells #[.int .i64 0, .int .i64 0, .int .i64 0, .int .i64 0, .string ⟨#[]⟩, .int .i64 0, .int .i64 0, .int .i64 0, .int .i64 0, .int .i64 0, .int .i64 0, .int .i64 0, .int .i64 0, .int .i64 0, .int .i64 0, .int .i64 0, .bool false, .bool false, .string ⟨#[]⟩, .string ⟨#[]⟩, .int .i64 0, .int .i64 0, .int .i64 0, .int .i64 0, .string ⟨#[]⟩, .int .i64 0, .int .i64 0, .int .i64 0, .int .i64 0, .int .i64 0, .int .i64 0, .int .i64 0, .int .i64 0, .int .i64 0, .int .i64 0, .int .i64 0, .bool false, .bool false, .bool false, .slice none 0 0, .string ⟨#[]⟩] 36)).alloc (.cells #[.int .i64 0, .string ⟨#[]⟩, .int .i64 0] 43)).setCells w7.heap.size 0 (z.v (.slice a0 z.sg.o.rs.length cap0)).toList).setCells (w7.heap.size + 1) 0 #[.int .i64 0, .string ⟨#[]⟩, .int .i64 0].toList = w8 at *
    go_meet
    case rel => exact ⟨w7, a0, cap0, rfl, rfl, hl, hR, hW, hF4, hbx, hX2, hY2, hvr⟩
  case rest =>
  clear hl hR hW hF4 hI HIN
  obtain ⟨w7, a0, cap0, rfl, rfl, hl, hR, hW, hF4, hb7, hX, hY, hvr⟩ := hcut
  have hF6 := hF4.later hb7
  have hb8 : Below w7.heap.size w7 (wc.setCells w7.heap.size 1 [.int .i64 x.a, .int .i64 x.b, .int .i64 x.k, .string x.d]) := Below.setCells (Nat.le_refl _) _ _ _ hb7
  have hX2 := hX.setFr x
  rw [← hz'.out] at hX2
  rw [← hsg.out] at hX2 hX hvr
  have c0 := (hY.2 0 _ rfl).1
  go_upto_region 17 with fail
  clear c0
  go_upto_region 18 with (first | (refine wpList_loadG 23 _ (by rfl) (by rfl) B4 0 (by rfl) _ _ hF6.range Tryz.underlying23 rfl size23 ?_) | (refine wpList_store_mid (by rfl) 23 _ _ (by rfl) w7.heap.size 1 #[.int .i64 x.a, .int .i64 x.b, .int .i64 x.k, .string x.d] (by rfl) (by rfl) hX.mid4 size23 (by simp [Value.oneCell']) ?_))
  have hR6 := hR.later hb8
  have hW6 := hW.later hb8
  have hv6 := hvr.later hb8
  have hl6 := bt hl hb8
  generalize wc.setCells w7.heap.size 1 [.int .i64 x.a, .int .i64 x.b, .int .i64 x.k, .string x.d] = w9 at *
  clear hX hF6 hb7 hY hl hR hW hvr hF4 hb8
  have hW2 := At.apart (b := w.heap.size) hW6 (by omega) 0 (z'.v (.slice a0 z'.sg.o.rs.length cap0)).toList
  go_wp2_with (first | (refine wpList_loadG 36 _ (by rfl) (by rfl) w7.heap.size 0 (by rfl) _ _ hX2.range Tryz.underlying36 rfl size36 ?_) | (refine wpList_store_mid (by rfl) 36 _ _ (by rfl) (w.heap.size) 0 (z'.v (.slice a0 z'.sg.o.rs.length cap0)) (by rfl) (by rfl) hR6.there size36 (Pd.one _ rfl) ?_; refine wpList_store_mid (by rfl) 43 _ _ (by rfl) (w.heap.size + 1) 0 #[.int .i64 0, .string ⟨#[]⟩, .int .i64 0] (by rfl) (by rfl) hW2.there size43 (by simp [Value.oneCell']) ?_))
  generalize hq8 : (w9.setCells w.heap.size 0 (z'.v (.slice a0 z'.sg.o.rs.length cap0)).toList).setCells (w.heap.size + 1) 0 (#[.int .i64 0, .string ⟨#[]⟩, .int .i64 0]).toList = w8 at *
  have hRf : At w8 w.heap.size (z'.v (.slice a0 z'.sg.o.rs.length cap0)) := by rw [← hq8]; exact At.apart (At.whole (vs := z'.v (.slice a0 z'.sg.o.rs.length cap0)) hR6 rfl) (by omega) _ _
  have hWf : At w8 (w.heap.size + 1) #[.int .i64 0, .string ⟨#[]⟩, .int .i64 0] := by rw [← hq8]; exact At.whole (vs := #[.int .i64 0, .string ⟨#[]⟩, .int .i64 0]) hW2 rfl
  have hvf : RgA w.heap.size w8 (.slice a0 z'.sg.o.rs.length cap0) z'.sg.o.rs := by rw [← hq8]; exact ((hv6.setCells _ _ _ (by omega)).setCells _ _ _ (by omega)).mono (by omega)
  have hlf : Below w.heap.size w w8 := by rw [← hq8]; exact Below.setCells (by omega) _ _ _ (Below.setCells (Nat.le_refl _) _ _ _ hl6)
  clear hq8
  go_wp2
  exact bodyPost_ret (v := .tuple #[.agg (z'.v (.slice a0 z'.sg.o.rs.length cap0)), .agg #[.int .i64 0, .string ⟨#[]⟩, .int .i64 0]]) (ret_cc (by rfl) hRf rfl hWf rfl (by rfl) (by rfl)) (by rfl) ⟨_, rfl, hvf, hlf⟩
end Go.Proofs.YtkpdmgoldngdaaaGreatDoor

namespace Go.Proofs.YtkpdmgoldngdaaaGreatDoor
open Go.RowKit
set_option maxRecDepth 100000
set_option linter.unusedVariables false
theorem ip_both (s : ByteArray) (hs : s.size ≤ 1125899906842624) : ∃ (y : PkT) (c : Int), (∀ W, Calls Tryz.prog 61 #[.string s] W fun e w' => e = .returned (.tuple #[.agg #[.int .i64 y.f, .int .i64 y.t, .int .i64 y.tl, .int .i64 y.pr, .int .i64 y.id, .int .i64 y.fg, .bool y.mo, .bool y.dn, .string y.op, .string y.da], .int .i64 c]) ∧ Below W.heap.size W w') ∧ (∀ W, Calls Tryz.prog 31 #[.string s] W fun e w' => e = .returned (.tuple #[.agg #[.int .i64 y.f, .int .i64 y.t, .int .i64 y.tl, .int .i64 y.pr, .int .i64 y.id, .int .i64 y.fg, .bool y.mo, .bool y.dn, .string y.op, .string y.da], .int .i64 c]) ∧ Below W.heap.size W w') ∧ (c = 0 ∧ y.op.size ≤ 40 ∧ y.da.size ≤ s.size ∨ (c != 0) = true) := by
  have Z50 := fun (h1 : ∀ W, Calls Tryz.prog 61 #[.string s] W fun e w' => e = .returned (.tuple #[.agg #[.int .i64 0, .int .i64 0, .int .i64 0, .int .i64 0, .int .i64 0, .int .i64 0, .bool false, .bool false, .string ⟨#[]⟩, .string ⟨#[]⟩], .int .i64 50]) ∧ Below W.heap.size W w') (h2 : ∀ W, Calls Tryz.prog 31 #[.string s] W fun e w' => e = .returned (.tuple #[.agg #[.int .i64 0, .int .i64 0, .int .i64 0, .int .i64 0, .int .i64 0, .int .i64 0, .bool false, .bool false, .string ⟨#[]⟩, .string ⟨#[]⟩], .int .i64 50]) ∧ Below W.heap.size W w') => (⟨PkT.zero, 50, h1, h2, .inr rfl⟩ : ∃ (y : PkT) (c : Int), (∀ W, Calls Tryz.prog 61 #[.string s] W fun e w' => e = .returned (.tuple #[.agg #[.int .i64 y.f, .int .i64 y.t, .int .i64 y.tl, .int .i64 y.pr, .int .i64 y.id, .int .i64 y.fg, .bool y.mo, .bool y.dn, .string y.op, .string y.da], .int .i64 c]) ∧ Below W.heap.size W w') ∧ (∀ W, Calls Tryz.prog 31 #[.string s] W fun e w' => e = .returned (.tuple #[.agg #[.int .i64 y.f, .int .i64 y.t, .int .i64 y.tl, .int .i64 y.pr, .int .i64 y.id, .int .i64 y.fg, .bool y.mo, .bool y.dn, .string y.op, .string y.da], .int .i64 c]) ∧ Below W.heap.size W w') ∧ (c = 0 ∧ y.op.size ≤ 40 ∧ y.da.size ≤ s.size ∨ (c != 0) = true))
  by_cases hok : 20 ≤ (s.size : Int) ∧ (Ip.byS s 0 / 16 != 4) = false ∧ 20 ≤ Ip.dH s ∧ Ip.dH s ≤ Ip.dL s ∧ Ip.dL s ≤ (s.size : Int)
  · obtain ⟨h20, h4, hH, hL, hS⟩ := hok
    by_cases hw : sumS (Ip.headS' s) = 0
    · have L := fun v hv W => Ip.rdec_last h20 h4 hH hL hS hw v hv W hs
      cases h1 : (Ip.byS s 1 != 0)
      · by_cases hf : Ip.dFl s < 32768
        · have h6 : (Ip.byS s 6 / 128 != 0) = false := bne_eq_false_iff_eq.2 ((Ip.high_bit s h20).2 hf)
          cases hm : Ip.mayD s
          · exact Z50 (fun W => Ip.dec_4b h20 h4 hH hL hS hw h1 h6 hm W hs) (L _ (.inr ⟨h1, .inr ⟨hf, .inl ⟨rfl, hm⟩⟩⟩))
          · refine ⟨⟨Ip.dF s, Ip.dT s, Ip.dTl s, Ip.dPr s, Ip.dId s, Ip.dFr s, Ip.dMo s, Ip.dDn s, Ip.dOp s, Ip.dDa s⟩, 0, fun W => Ip.dec_5 h20 h4 hH hL hS hw h1 h6 hm W hs, L _ (.inr ⟨h1, .inr ⟨hf, .inr ⟨rfl, hm⟩⟩⟩), .inl ⟨rfl, ?_, ?_⟩⟩
            · show (Ip.dOp s).size ≤ 40
              have := Ip.dOp_size hH hL hS
              have := Ip.dH_bd s
              omega
            · show (Ip.dDa s).size ≤ s.size
              have := Ip.dDa_size hH hL hS
              omega
        · have h6 : (Ip.byS s 6 / 128 != 0) = true := by
            rw [bne_iff_ne]; exact fun e => hf ((Ip.high_bit s h20).1 e)
          exact Z50 (fun W => Ip.dec_4 h20 h4 hH hL hS hw (.inr ⟨h1, h6⟩) W hs) (L _ (.inr ⟨h1, .inl ⟨rfl, by omega⟩⟩))
      · exact Z50 (fun W => Ip.dec_4 h20 h4 hH hL hS hw (.inl h1) W hs) (L _ (.inl ⟨rfl, h1⟩))
    · exact ⟨PkT.zero, 20, fun W => Ip.dec_3 h20 h4 hH hL hS hw W hs, fun W => Ip.rdec_3 h20 h4 hH hL hS hw W hs, .inr rfl⟩
  · exact Z50 (fun W => (Ip.rdec_n1 hok W hs).1) (fun W => (Ip.rdec_n1 hok W hs).2 W)
theorem par_both (st : ByteArray) (hs : st.size ≤ 140737488351232) (HN : ShNil) (HF : ShFail 14) : ∃ r, (∀ W, OrE W → Calls Tryz.prog 9 #[.string st] W fun e w' => InnP r W e w') ∧ (∀ W, Calls Tryz.prog 10 #[.string st] W fun e w' => RInn r W e w') ∧ okR r := by
  have hsm : st.size ≤ maxLen := by unfold maxLen; omega
  have E1 := fun W => Eth.dec_any st W hsm
  have E2 := fun W => Eth.rdec_any st W hsm
  have hdz : (Eth.deD st).size ≤ st.size := by
    unfold Eth.deD
    split
    · rw [Eth.dD_size]; omega
    · exact Nat.zero_le _
  obtain ⟨x, hx⟩ : ∃ x : FrT, x = ⟨Eth.deT st, Eth.deF st, Eth.deK st, Eth.deD st⟩ := ⟨_, rfl⟩
  have E1' : ∀ W, Calls Tryz.prog 26 #[.string st] W fun e w' => e = .returned (.tuple #[.agg #[.int .i64 x.a, .int .i64 x.b, .int .i64 x.k, .string x.d], .int .i64 (Eth.codeE (Eth.decB st))]) ∧ Below W.heap.size W w' := by rw [hx]; exact E1
  have E2' : ∀ W, Calls Tryz.prog 29 #[.string st] W fun e w' => e = .returned (.tuple #[.agg #[.int .i64 x.a, .int .i64 x.b, .int .i64 x.k, .string x.d], .int .i64 (Eth.codeE (Eth.decB st))]) ∧ Below W.heap.size W w' := by rw [hx]; exact E2
  have hxd : x.d.size ≤ 140737488351232 := by rw [hx]; show (Eth.deD st).size ≤ _; omega
  clear E1 E2 hx
  rcases Bool.eq_false_or_eq_true (Eth.decB st) with hb | hb
  case inr =>
    rw [hb] at E1' E2'
    exact ⟨.error (⟨#[101, 116, 104, 101, 114]⟩, 0, 30), fun W hW => par_1 st x 30 W E1' rfl, fun W => rpar_1 st x 30 W E2' rfl, by show (0 : Int) ≤ 0; omega, by show (0 : Int) ≤ _; omega, rfl⟩
  rw [hb] at E1' E2'
  rcases Bool.eq_false_or_eq_true (x.k == 2054) with q | q
  · rcases Bool.eq_false_or_eq_true (Eth.Arp.decA x.d) with ha | ha
    · refine ⟨.ok (⟨1, x, ⟨Eth.Arp.aO x.d, Eth.Arp.aFm x.d, Eth.Arp.aFi x.d, Eth.Arp.aTm x.d, Eth.Arp.aTi x.d⟩, PkT.zero, IcT.zero, Sg.zero⟩ : Pd), fun W hW => ?_, fun W => rpar_3 st x ⟨Eth.Arp.aO x.d, Eth.Arp.aFm x.d, Eth.Arp.aFi x.d, Eth.Arp.aTm x.d, Eth.Arp.aTi x.d⟩ W E2' q (fun W => Eth.Arp.rdec_y ha W), Nat.zero_le _⟩
      exact par_3 st x (⟨1, FrT.zero, ⟨Eth.Arp.aO x.d, Eth.Arp.aFm x.d, Eth.Arp.aFi x.d, Eth.Arp.aTm x.d, Eth.Arp.aTi x.d⟩, PkT.zero, IcT.zero, Sg.zero⟩ : Pd) (⟨1, x, ⟨Eth.Arp.aO x.d, Eth.Arp.aFm x.d, Eth.Arp.aFi x.d, Eth.Arp.aTm x.d, Eth.Arp.aTi x.d⟩, PkT.zero, IcT.zero, Sg.zero⟩ : Pd) W rfl rfl hW E1' (fun W hW => con_2 x ⟨Eth.Arp.aO x.d, Eth.Arp.aFm x.d, Eth.Arp.aFi x.d, Eth.Arp.aTm x.d, Eth.Arp.aTi x.d⟩ W q (fun W => Eth.Arp.dec_y ha W))
    · have hm : x.d.size ≤ maxLen := by unfold maxLen; omega
      refine ⟨.error (⟨#[97, 114, 112]⟩, 14, 40), fun W hW => ?_, fun W => rpar_2 st x ArT.zero 40 W E2' q (fun W => Eth.Arp.rdec_n ha W hm) rfl, by show (0 : Int) ≤ 14; omega, by show (14 : Int) ≤ _; omega, rfl⟩
      exact par_2 st x ⟨#[97, 114, 112]⟩ 14 40 W hW E1' (fun W hW => con_1 x ArT.zero 40 W q (fun W => Eth.Arp.dec_n ha W hm) rfl)
  · rcases Bool.eq_false_or_eq_true (x.k == 2048) with q2 | q2
    case inr =>
      have q3 : (x.k != 2048) = true := by rw [bne, q2]; rfl
      refine ⟨.error (⟨#[101, 116, 104, 101, 114]⟩, 0, 90), fun W hW => ?_, fun W => rpar_4 st x W E2' q q3, by show (0 : Int) ≤ 0; omega, by show (0 : Int) ≤ _; omega, rfl⟩
      exact par_2 st x ⟨#[101, 116, 104, 101, 114]⟩ 0 90 W hW E1' (fun W hW => con_6 x W q q2)
    have q3 : (x.k != 2048) = false := by rw [bne, q2]; rfl
    obtain ⟨y, c, I1, I2, hy⟩ := ip_both x.d (by omega)
    rcases hy with ⟨rfl, hop, hda⟩ | hc
    · obtain ⟨r, N1, N2, hr, hsm2⟩ := inn_both y (by omega) (by omega)
      cases r with
      | error t =>
        obtain ⟨l, a, c⟩ := t
        obtain ⟨ha0, ha1, hc⟩ : 0 ≤ a ∧ a ≤ 140737488355362 ∧ (c != 0) = true := hr
        have ha3 : a ≤ 20 + (y.op.size : Int) := hsm2 _ rfl
        refine ⟨.error (l, a + 14, c), fun W hW => ?_, fun W => rpar_6 st x y l a c W E2' q q3 I2 N2 hc (by rw [IntKind.wrap_i64]; omega), by show 0 ≤ a + 14; omega, by show a + 14 ≤ _; omega, hc⟩
        exact par_2 st x l (a + 14) c W hW E1' (fun W hW => con_4 x y l a c W hW HF q q2 I1 N1 ha0 (by omega))
      | ok z =>
        refine ⟨.ok ({ z with fr := x } : Pd), fun W hW => ?_, fun W => rpar_7 st x y z ({ z with fr := x } : Pd) W rfl rfl E2' q q3 I2 N2, hr⟩
        exact par_3 st x z ({ z with fr := x } : Pd) W rfl rfl hW E1' (fun W hW => con_5 x y z W hW HN q q2 I1 N1)
    · refine ⟨.error (⟨#[105, 112]⟩, 14, c), fun W hW => ?_, fun W => rpar_5 st x y c W E2' q q3 I2 hc, by show (0 : Int) ≤ 14; omega, by show (14 : Int) ≤ _; omega, hc⟩
      exact par_2 st x ⟨#[105, 112]⟩ 14 c W hW E1' (fun W hW => con_3 x y c W q q2 I1 hc)
end Go.Proofs.YtkpdmgoldngdaaaGreatDoor
