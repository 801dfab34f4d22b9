/- the texts Vc, in part, merged by program -/
import Derived.Test.YtkpdmgoldngdaaaGreatDoorProg
import Derived.Test.YtkpdmgoldngdaaaGreatDoorRows
import Derived.Deep.MidRow
import Derived.Deep.Cut
import Derived.WalkKit
import Derived.WalkSpells
import Derived.RegionTactic
import Derived.Below
import Derived.Laws.Tables
import Derived.Great.BuildSlice
import Derived.Laws.OwnMore
import Derived.Laws.AppendOwn
import Derived.Laws.AppendOwnNone
import Derived.Deep.LoopGhost
import Derived.Deep.RegionHeld3
import Derived.Deep.QuietTactic
import Derived.BigQuiet
import Derived.WalkSmall
import Derived.Laws.StructEq
import Derived.BigRegion
import Derived.Deep.Light
import Derived.Shelf.Strings.Repeat
import Derived.Deep.RegionWith
import Derived.LoopN
import Derived.Test.YtkpdmgoldngdaaaGreatDoorMA01
import Derived.Test.YtkpdmgoldngdaaaGreatDoorMA04
import Derived.Test.YtkpdmgoldngdaaaGreatDoorMA05
import Derived.Test.YtkpdmgoldngdaaaGreatDoorMA06
import Derived.Test.YtkpdmgoldngdaaaGreatDoorMA07
import Derived.Test.YtkpdmgoldngdaaaGreatDoorMB02
import Derived.Test.YtkpdmgoldngdaaaGreatDoorMD01
import Derived.Test.YtkpdmgoldngdaaaGreatDoorMD02
import Derived.Test.YtkpdmgoldngdaaaGreatDoorMD03
import Derived.Test.YtkpdmgoldngdaaaGreatDoorMD04
import Derived.Test.YtkpdmgoldngdaaaGreatDoorMD05
import Derived.Test.YtkpdmgoldngdaaaGreatDoorME02
import Derived.Test.YtkpdmgoldngdaaaGreatDoorMG01
import Derived.Test.YtkpdmgoldngdaaaGreatDoorMG03
import Derived.Test.YtkpdmgoldngdaaaGreatDoorMG05
import Derived.Test.YtkpdmgoldngdaaaGreatDoorMG06
import Derived.Test.YtkpdmgoldngdaaaGreatDoorMH01
import Derived.Test.YtkpdmgoldngdaaaGreatDoorMH02
import Derived.Test.YtkpdmgoldngdaaaGreatDoorMH03
import Derived.Test.YtkpdmgoldngdaaaGreatDoorMI01
namespace Go.Proofs.YtkpdmgoldngdaaaGreatDoor
open Go.RowKit
set_option maxRecDepth 100000
set_option linter.unusedVariables false
set_option maxHeartbeats 8000000 in
theorem con_2 (x : FrT) (y : ArT) (w : World)
    (q : (x.k == 2054) = true)
    (HAR : Hid (∀ W, Calls Tryz.prog 60 #[.string x.d] W fun e w' => e = .returned (.tuple #[.agg #[.int .i64 y.o, .int .i64 y.fm, .int .i64 y.fi, .int .i64 y.tm, .int .i64 y.ti], .int .i64 0]) ∧ Below W.heap.size W w')) :
    Calls Tryz.prog 28 #[.agg #[.int .i64 x.a, .int .i64 x.b, .int .i64 x.k, .string x.d]] w fun e w' => ∃ v, e = .returned (.tuple #[.agg (Pd.v ((⟨1, FrT.zero, y, PkT.zero, IcT.zero, Sg.zero⟩ : Pd)) v), .nilIface]) ∧ RgA w.heap.size w' v ((⟨1, FrT.zero, y, PkT.zero, IcT.zero, Sg.zero⟩ : Pd)).sg.o.rs ∧ Below w.heap.size w w' := by
  have hb1 := bel1 w (.cells #[.int .i64 x.a, .int .i64 x.b, .int .i64 x.k, .string x.d] 23)
  have hb2 := bel1 (w.alloc (.cells #[.int .i64 x.a, .int .i64 x.b, .int .i64 x.k, .string x.d] 23)) (.cells #[.int .i64 0, .int .i64 0, .int .i64 0, .int .i64 0, .string ⟨#[]⟩, .int .i64 0, .int .i64 0, .int .i64 0, .int .i64 0, .int .i64 0, .int .i64 0, .int .i64 0, .int .i64 0, .int .i64 0, .int .i64 0, .int .i64 0, .bool false, .bool false, .string ⟨#[]⟩, .string ⟨#[]⟩, .int .i64 0, .int .i64 0, .int .i64 0, .int .i64 0, .string ⟨#[]⟩, .int .i64 0, .int .i64 0, .int .i64 0, .int .i64 0, .int .i64 0, .int .i64 0, .int .i64 0, .int .i64 0, .int .i64 0, .int .i64 0, .int .i64 0, .bool false, .bool false, .bool false, .slice none 0 0, .string ⟨#[]⟩] 36)
  have hA := (At.box w #[.int .i64 x.a, .int .i64 x.b, .int .i64 x.k, .string x.d] 23).later hb2
  have hR : At ((w.alloc (.cells #[.int .i64 x.a, .int .i64 x.b, .int .i64 x.k, .string x.d] 23)).alloc (.cells #[.int .i64 0, .int .i64 0, .int .i64 0, .int .i64 0, .string ⟨#[]⟩, .int .i64 0, .int .i64 0, .int .i64 0, .int .i64 0, .int .i64 0, .int .i64 0, .int .i64 0, .int .i64 0, .int .i64 0, .int .i64 0, .int .i64 0, .bool false, .bool false, .string ⟨#[]⟩, .string ⟨#[]⟩, .int .i64 0, .int .i64 0, .int .i64 0, .int .i64 0, .string ⟨#[]⟩, .int .i64 0, .int .i64 0, .int .i64 0, .int .i64 0, .int .i64 0, .int .i64 0, .int .i64 0, .int .i64 0, .int .i64 0, .int .i64 0, .int .i64 0, .bool false, .bool false, .bool false, .slice none 0 0, .string ⟨#[]⟩] 36)) (w.heap.size + 1) PZ := At.box2 w (.cells #[.int .i64 x.a, .int .i64 x.b, .int .i64 x.k, .string x.d] 23) #[.int .i64 0, .int .i64 0, .int .i64 0, .int .i64 0, .string ⟨#[]⟩, .int .i64 0, .int .i64 0, .int .i64 0, .int .i64 0, .int .i64 0, .int .i64 0, .int .i64 0, .int .i64 0, .int .i64 0, .int .i64 0, .int .i64 0, .bool false, .bool false, .string ⟨#[]⟩, .string ⟨#[]⟩, .int .i64 0, .int .i64 0, .int .i64 0, .int .i64 0, .string ⟨#[]⟩, .int .i64 0, .int .i64 0, .int .i64 0, .int .i64 0, .int .i64 0, .int .i64 0, .int .i64 0, .int .i64 0, .int .i64 0, .int .i64 0, .int .i64 0, .bool false, .bool false, .bool false, .slice none 0 0, .string ⟨#[]⟩] 36
  have hl := bt hb1 hb2
  have hz := buildZ
  clear hb1 hb2
  go_enter Tryz.func28, Tryz.ntmps28
  go_upto_region 1 with fail
  generalize hw0 : (w.alloc (.cells #[.int .i64 x.a, .int .i64 x.b, .int .i64 x.k, .string x.d] 23)).alloc (.cells #[.int .i64 0, .int .i64 0, .int .i64 0, .int .i64 0, .string ⟨#[]⟩, .int .i64 0, .int .i64 0, .int .i64 0, .int .i64 0, .int .i64 0, .int .i64 0, .int .i64 0, .int .i64 0, .int .i64 0, .int .i64 0, .int .i64 0, .bool false, .bool false, .string ⟨#[]⟩, .string ⟨#[]⟩, .int .i64 0, .int .i64 0, .int .i64 0, .int .i64 0, .string ⟨#[]⟩, .int .i64 0, .int .i64 0, .int .i64 0, .int .i64 0, .int .i64 0, .int .i64 0, .int .i64 0, .int .i64 0, .int .i64 0, .int .i64 0, .int .i64 0, .bool false, .bool false, .bool false, .slice none 0 0, .string ⟨#[]⟩] 36) = w0 at *
  clear hw0
  have c2 := (hA.2 2 _ rfl).1
  have c3 := (hA.2 3 _ rfl).1
  go_wp2_with fail
  refine (HAR.out _).mono ?_
  rintro e w3 ⟨rfl, hb⟩
  have hbx := bel1 w3 (.cells #[.int .i64 y.o, .int .i64 y.fm, .int .i64 y.fi, .int .i64 y.tm, .int .i64 y.ti] 25)
  have hI := At.box w3 #[.int .i64 y.o, .int .i64 y.fm, .int .i64 y.fi, .int .i64 y.tm, .int .i64 y.ti] 25
  replace hb := bt hb hbx
  replace hl := bt hl hb
  replace hA := hA.later hb
  replace hR := hR.later hb
  clear hb HAR c2 c3
  go_upto_region 4 with fail
  obtain ⟨B6, hB6⟩ : ∃ B, B = w3.heap.size := ⟨_, rfl⟩
  rw [← hB6] at hI ⊢
  generalize w3.alloc (.cells #[.int .i64 y.o, .int .i64 y.fm, .int .i64 y.fi, .int .i64 y.tm, .int .i64 y.ti] 25) = w4 at *
  clear hbx hB6
  have hb5 : ∀ W, (Instr.build 36 #[(0, .int .i64 1), (2, .agg #[.int .i64 y.o, .int .i64 y.fm, .int .i64 y.fi, .int .i64 y.tm, .int .i64 y.ti])]).run Tryz.prog W = .ok (.agg ((⟨1, FrT.zero, y, PkT.zero, IcT.zero, Sg.zero⟩ : Pd).v (.slice none 0 0))) W := fun W => run_build W 36 _ _ (by kernel_rfl)
  go_wp2_with (first | (refine wpList_loadG 25 _ (by rfl) (by rfl) B6 0 (by rfl) _ _ hI.range Tryz.underlying25 rfl size25 ?_) | (refine wpList_store_mid (by rfl) 36 _ _ (by rfl) (w.heap.size + 1) 0 ((⟨1, FrT.zero, y, PkT.zero, IcT.zero, Sg.zero⟩ : Pd).v (.slice none 0 0)) (by rfl) (by rfl) hR.there size36 (Pd.one _ rfl) ?_))
  go_wp2
  exact bodyPost_ret (v := .tuple #[.agg ((⟨1, FrT.zero, y, PkT.zero, IcT.zero, Sg.zero⟩ : Pd).v (.slice none 0 0)), .nilIface]) (ret_cell41 (by rfl) (At.whole (vs := (⟨1, FrT.zero, y, PkT.zero, IcT.zero, Sg.zero⟩ : Pd).v (.slice none 0 0)) hR rfl) rfl (by rfl) (by rfl)) (by rfl) ⟨_, rfl, RgA.nil _ _, Below.setCells (by omega) _ _ _ hl⟩
end Go.Proofs.YtkpdmgoldngdaaaGreatDoor
