/- the texts Vr, in part, merged by program -/
import Derived.Test.YtkpdmgoldngdaaaGreatDoorProg
import Derived.Test.YtkpdmgoldngdaaaGreatDoorRows
import Derived.Deep.RegionHeld3
import Derived.Deep.QuietTactic
import Derived.BigQuiet
import Derived.WalkSmall
import Derived.WalkKit
import Derived.WalkSpells
import Derived.RegionTactic
import Derived.Below
import Derived.Laws.Tables
import Derived.Great.BuildSlice
import Derived.Deep.RegionWith
import Derived.Laws.OwnMore
import Derived.Laws.AppendOwn
import Derived.Laws.AppendOwnNone
import Derived.Deep.LoopGhost
import Derived.Laws.StructEq
import Derived.BigRegion
import Derived.Deep.Light
import Derived.Deep.Cut
import Derived.Deep.CutRange
import Derived.Shelf.Strings.Repeat
import Derived.Deep.MidRow
import Derived.LoopN
import Derived.Test.YtkpdmgoldngdaaaGreatDoorMA01
import Derived.Test.YtkpdmgoldngdaaaGreatDoorMA02
import Derived.Test.YtkpdmgoldngdaaaGreatDoorMA03
import Derived.Test.YtkpdmgoldngdaaaGreatDoorMA04
import Derived.Test.YtkpdmgoldngdaaaGreatDoorMA05
import Derived.Test.YtkpdmgoldngdaaaGreatDoorMA06
import Derived.Test.YtkpdmgoldngdaaaGreatDoorMA07
import Derived.Test.YtkpdmgoldngdaaaGreatDoorMB01
import Derived.Test.YtkpdmgoldngdaaaGreatDoorMB02
import Derived.Test.YtkpdmgoldngdaaaGreatDoorMC01
import Derived.Test.YtkpdmgoldngdaaaGreatDoorMD01
import Derived.Test.YtkpdmgoldngdaaaGreatDoorMD02
import Derived.Test.YtkpdmgoldngdaaaGreatDoorMD03
import Derived.Test.YtkpdmgoldngdaaaGreatDoorMD04
import Derived.Test.YtkpdmgoldngdaaaGreatDoorMD05
import Derived.Test.YtkpdmgoldngdaaaGreatDoorME01
import Derived.Test.YtkpdmgoldngdaaaGreatDoorME02
import Derived.Test.YtkpdmgoldngdaaaGreatDoorMF01
import Derived.Test.YtkpdmgoldngdaaaGreatDoorMG01
import Derived.Test.YtkpdmgoldngdaaaGreatDoorMG02
import Derived.Test.YtkpdmgoldngdaaaGreatDoorMG03
import Derived.Test.YtkpdmgoldngdaaaGreatDoorMG04
import Derived.Test.YtkpdmgoldngdaaaGreatDoorMG05
import Derived.Test.YtkpdmgoldngdaaaGreatDoorMG06
import Derived.Test.YtkpdmgoldngdaaaGreatDoorMH01
import Derived.Test.YtkpdmgoldngdaaaGreatDoorMH02
import Derived.Test.YtkpdmgoldngdaaaGreatDoorMH03
import Derived.Test.YtkpdmgoldngdaaaGreatDoorMH04
import Derived.Test.YtkpdmgoldngdaaaGreatDoorMI01
import Derived.Test.YtkpdmgoldngdaaaGreatDoorMK01
import Derived.Test.YtkpdmgoldngdaaaGreatDoorML01
import Derived.Test.YtkpdmgoldngdaaaGreatDoorMM01
import Derived.Test.YtkpdmgoldngdaaaGreatDoorMN01
import Derived.Test.YtkpdmgoldngdaaaGreatDoorMN02
import Derived.Test.YtkpdmgoldngdaaaGreatDoorMO01
import Derived.Test.YtkpdmgoldngdaaaGreatDoorMO02
import Derived.Test.YtkpdmgoldngdaaaGreatDoorMO03
import Derived.Test.YtkpdmgoldngdaaaGreatDoorMO04
import Derived.Test.YtkpdmgoldngdaaaGreatDoorMP01
import Derived.Test.YtkpdmgoldngdaaaGreatDoorMP02
import Derived.Test.YtkpdmgoldngdaaaGreatDoorMP04
import Derived.Test.YtkpdmgoldngdaaaGreatDoorMQ01
import Derived.Test.YtkpdmgoldngdaaaGreatDoorMQ02
import Derived.Test.YtkpdmgoldngdaaaGreatDoorMQ03
import Derived.Test.YtkpdmgoldngdaaaGreatDoorMR01
import Derived.Test.YtkpdmgoldngdaaaGreatDoorMS01
import Derived.Test.YtkpdmgoldngdaaaGreatDoorMS02
namespace Go.Proofs.YtkpdmgoldngdaaaGreatDoor
open Go.RowKit
set_option maxRecDepth 100000
set_option linter.unusedVariables false

theorem frm_all (x : FrT) (y : PkT) (ho : y.op.size ≤ 140737488355328) (hd : y.da.size ≤ 140737488351232) : ∃ (B E : ByteArray) (k : Bool), (∀ W, Calls Tryz.prog 20 #[.agg #[.int .i64 x.a, .int .i64 x.b, .int .i64 x.k, .string x.d], .agg #[.int .i64 y.f, .int .i64 y.t, .int .i64 y.tl, .int .i64 y.pr, .int .i64 y.id, .int .i64 y.fg, .bool y.mo, .bool y.dn, .string y.op, .string y.da]] W fun e w' => e = .returned (.tuple #[.string E, .agg #[.int .i64 x.a, .int .i64 x.b, .int .i64 2048, .string B], .bool k]) ∧ Below W.heap.size W w') ∧
    (k = true → B = (Ip.encP y.f y.t y.tl y.pr y.id y.fg y.mo y.dn y.op y.da) ∧ E = (Eth.encS x.a x.b 2048 (Ip.encP y.f y.t y.tl y.pr y.id y.fg y.mo y.dn y.op y.da)) ∧ Ip.mayP y.f y.t y.tl y.pr y.id y.fg y.mo y.op.size y.da.size = true ∧ Eth.mayB x.a x.b 2048 (Ip.encP y.f y.t y.tl y.pr y.id y.fg y.mo y.dn y.op y.da).size = true) := by
  rcases Bool.eq_false_or_eq_true (Ip.mayP y.f y.t y.tl y.pr y.id y.fg y.mo y.op.size y.da.size) with hm | hm
  case inr =>
    have HI := fun W => Ip.enc_n (dn := y.dn) hm W (by omega) (by omega)
    have HE := fun W => Eth.enc_any x.a x.b 2048 ⟨#[]⟩ W (Nat.zero_le _)
    exact ⟨_, _, false, fun W => frm_n x y _ _ _ _ W rfl HI HE, fun h => by cases h⟩
  have HI := fun W => Ip.enc_y (dn := y.dn) hm W
  have hz : (Ip.encP y.f y.t y.tl y.pr y.id y.fg y.mo y.dn y.op y.da).size ≤ 65535 := Ip.encP_le hm
  have HE := fun W => Eth.enc_any x.a x.b 2048 (Ip.encP y.f y.t y.tl y.pr y.id y.fg y.mo y.dn y.op y.da) W (by unfold maxLen; omega)
  rcases Bool.eq_false_or_eq_true (Eth.mayB x.a x.b 2048 (Ip.encP y.f y.t y.tl y.pr y.id y.fg y.mo y.dn y.op y.da).size) with hk | hk
  case inr =>
    rw [hk] at HE
    exact ⟨_, _, false, fun W => frm_y x y _ _ _ _ W rfl false rfl HI HE, fun h => by cases h⟩
  rw [hk, show Eth.encV x.a x.b 2048 (Ip.encP y.f y.t y.tl y.pr y.id y.fg y.mo y.dn y.op y.da) = (Eth.encS x.a x.b 2048 (Ip.encP y.f y.t y.tl y.pr y.id y.fg y.mo y.dn y.op y.da)) by unfold Eth.encV; rw [if_pos hk]] at HE
  exact ⟨_, _, true, fun W => frm_y x y _ _ _ _ W rfl true rfl HI HE, fun _ => ⟨rfl, rfl, hm, hk⟩⟩
end Go.Proofs.YtkpdmgoldngdaaaGreatDoor
