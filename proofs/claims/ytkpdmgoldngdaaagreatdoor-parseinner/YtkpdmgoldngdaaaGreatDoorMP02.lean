/- the texts Sh, in part, merged by program -/
import Derived.Test.YtkpdmgoldngdaaaGreatDoorProg
import Derived.Test.YtkpdmgoldngdaaaGreatDoorRows
import Derived.WalkKit
import Derived.WalkSpells
import Derived.RegionTactic
import Derived.Below
import Derived.Laws.Tables
import Derived.Great.BuildSlice
import Derived.Laws.OwnMore
import Derived.Laws.AppendOwn
import Derived.Laws.AppendOwnNone
import Derived.Deep.LoopGhost
import Derived.Deep.RegionHeld3
import Derived.Deep.QuietTactic
import Derived.BigQuiet
import Derived.WalkSmall
import Derived.Laws.StructEq
import Derived.Shelf.Strings.Repeat
import Derived.Deep.MidRow
import Derived.Deep.Cut
import Derived.Deep.RegionWith
import Derived.LoopN
import Derived.Test.YtkpdmgoldngdaaaGreatDoorMA01
import Derived.Test.YtkpdmgoldngdaaaGreatDoorMA04
import Derived.Test.YtkpdmgoldngdaaaGreatDoorMA05
import Derived.Test.YtkpdmgoldngdaaaGreatDoorMD01
import Derived.Test.YtkpdmgoldngdaaaGreatDoorMD02
import Derived.Test.YtkpdmgoldngdaaaGreatDoorMD04
import Derived.Test.YtkpdmgoldngdaaaGreatDoorMG01
import Derived.Test.YtkpdmgoldngdaaaGreatDoorMG03
import Derived.Test.YtkpdmgoldngdaaaGreatDoorMG05
import Derived.Test.YtkpdmgoldngdaaaGreatDoorMH01
import Derived.Test.YtkpdmgoldngdaaaGreatDoorMH02
import Derived.Test.YtkpdmgoldngdaaaGreatDoorMH03
import Derived.Test.YtkpdmgoldngdaaaGreatDoorMO01
import Derived.Test.YtkpdmgoldngdaaaGreatDoorMP01
namespace Go.Proofs.YtkpdmgoldngdaaaGreatDoor
open Go.RowKit
set_option maxRecDepth 100000
set_option linter.unusedVariables false

set_option maxHeartbeats 4000000 in
theorem rsame_s (a b : Sg) (va vb : Value) (w : World) (hv : Rgs w va a.o.rs) (hv' : Rgs w vb b.o.rs) (hn : a.o.rs.length ≤ 17592186044416) (hn' : b.o.rs.length ≤ 17592186044416) :
    Calls Tryz.prog 32 #[.agg #[.int .i64 a.fr, .int .i64 a.dt, .int .i64 a.sq, .int .i64 a.ak, .int .i64 a.fl, .int .i64 a.wi, .int .i64 a.ur, .int .i64 a.o.m, .int .i64 a.o.c, .int .i64 a.o.t, .int .i64 a.o.ec, .bool a.o.sd, .bool a.o.ok, .bool a.o.sp, va, .string a.da], .agg #[.int .i64 b.fr, .int .i64 b.dt, .int .i64 b.sq, .int .i64 b.ak, .int .i64 b.fl, .int .i64 b.wi, .int .i64 b.ur, .int .i64 b.o.m, .int .i64 b.o.c, .int .i64 b.o.t, .int .i64 b.o.ec, .bool b.o.sd, .bool b.o.ok, .bool b.o.sp, vb, .string b.da]] w fun e w' => e = .returned (.bool (sameG a b)) ∧ Below w.heap.size w w' := by
  have hb1 := bel1 w (.cells #[.int .i64 a.fr, .int .i64 a.dt, .int .i64 a.sq, .int .i64 a.ak, .int .i64 a.fl, .int .i64 a.wi, .int .i64 a.ur, .int .i64 a.o.m, .int .i64 a.o.c, .int .i64 a.o.t, .int .i64 a.o.ec, .bool a.o.sd, .bool a.o.ok, .bool a.o.sp, va, .string a.da] 34)
  have hb2 := bel1 (w.alloc (.cells #[.int .i64 a.fr, .int .i64 a.dt, .int .i64 a.sq, .int .i64 a.ak, .int .i64 a.fl, .int .i64 a.wi, .int .i64 a.ur, .int .i64 a.o.m, .int .i64 a.o.c, .int .i64 a.o.t, .int .i64 a.o.ec, .bool a.o.sd, .bool a.o.ok, .bool a.o.sp, va, .string a.da] 34)) (.cells #[.int .i64 b.fr, .int .i64 b.dt, .int .i64 b.sq, .int .i64 b.ak, .int .i64 b.fl, .int .i64 b.wi, .int .i64 b.ur, .int .i64 b.o.m, .int .i64 b.o.c, .int .i64 b.o.t, .int .i64 b.o.ec, .bool b.o.sd, .bool b.o.ok, .bool b.o.sp, vb, .string b.da] 34)
  have hA := (At.box w #[.int .i64 a.fr, .int .i64 a.dt, .int .i64 a.sq, .int .i64 a.ak, .int .i64 a.fl, .int .i64 a.wi, .int .i64 a.ur, .int .i64 a.o.m, .int .i64 a.o.c, .int .i64 a.o.t, .int .i64 a.o.ec, .bool a.o.sd, .bool a.o.ok, .bool a.o.sp, va, .string a.da] 34).later hb2
  have hB := At.box2 w (.cells #[.int .i64 a.fr, .int .i64 a.dt, .int .i64 a.sq, .int .i64 a.ak, .int .i64 a.fl, .int .i64 a.wi, .int .i64 a.ur, .int .i64 a.o.m, .int .i64 a.o.c, .int .i64 a.o.t, .int .i64 a.o.ec, .bool a.o.sd, .bool a.o.ok, .bool a.o.sp, va, .string a.da] 34) #[.int .i64 b.fr, .int .i64 b.dt, .int .i64 b.sq, .int .i64 b.ak, .int .i64 b.fl, .int .i64 b.wi, .int .i64 b.ur, .int .i64 b.o.m, .int .i64 b.o.c, .int .i64 b.o.t, .int .i64 b.o.ec, .bool b.o.sd, .bool b.o.ok, .bool b.o.sp, vb, .string b.da] 34
  have hl := bt hb1 hb2
  have hra := (hv.later hb1).later hb2
  have hrb := (hv'.later hb1).later hb2
  clear hv hv' hb1 hb2
  go_enter Tryz.func32, Tryz.ntmps32
  go_upto_region 1 with fail
  generalize hw0 : (w.alloc (.cells #[.int .i64 a.fr, .int .i64 a.dt, .int .i64 a.sq, .int .i64 a.ak, .int .i64 a.fl, .int .i64 a.wi, .int .i64 a.ur, .int .i64 a.o.m, .int .i64 a.o.c, .int .i64 a.o.t, .int .i64 a.o.ec, .bool a.o.sd, .bool a.o.ok, .bool a.o.sp, va, .string a.da] 34)).alloc (.cells #[.int .i64 b.fr, .int .i64 b.dt, .int .i64 b.sq, .int .i64 b.ak, .int .i64 b.fl, .int .i64 b.wi, .int .i64 b.ur, .int .i64 b.o.m, .int .i64 b.o.c, .int .i64 b.o.t, .int .i64 b.o.ec, .bool b.o.sd, .bool b.o.ok, .bool b.o.sp, vb, .string b.da] 34) = w0 at *
  clear hw0
  obtain ⟨⟨c0, c1, c2, c3, c4, c5, c6, c7, c8, c9, c10, c11, c12, c13, c14, c15⟩, -, -⟩ := hA.sixteen
  obtain ⟨⟨r0, r1, r2, r3, r4, r5, r6, r7, r8, r9, r10, r11, r12, r13, r14, r15⟩, -, -⟩ := hB.sixteen
  rcases (Bool.eq_false_or_eq_true (a.fr == b.fr)).symm with e_fr | e_fr
  · have hne : ¬ a.fr = b.fr := by simpa using e_fr
    have HM : Hid (sameG a b = false) := by show _ = _; simp [sameG, sameNG, hne]
    clear hne
    go_wp2
    go_ret
    exact ⟨by rw [HM.out]; rfl, hl⟩
  rcases (Bool.eq_false_or_eq_true (a.dt == b.dt)).symm with e_dt | e_dt
  · have hne : ¬ a.dt = b.dt := by simpa using e_dt
    have HM : Hid (sameG a b = false) := by show _ = _; simp [sameG, sameNG, hne]
    clear hne
    go_wp2
    go_ret
    exact ⟨by rw [HM.out]; rfl, hl⟩
  rcases (Bool.eq_false_or_eq_true (a.sq == b.sq)).symm with e_sq | e_sq
  · have hne : ¬ a.sq = b.sq := by simpa using e_sq
    have HM : Hid (sameG a b = false) := by show _ = _; simp [sameG, sameNG, hne]
    clear hne
    go_wp2
    go_ret
    exact ⟨by rw [HM.out]; rfl, hl⟩
  rcases (Bool.eq_false_or_eq_true (a.ak == b.ak)).symm with e_ak | e_ak
  · have hne : ¬ a.ak = b.ak := by simpa using e_ak
    have HM : Hid (sameG a b = false) := by show _ = _; simp [sameG, sameNG, hne]
    clear hne
    go_wp2
    go_ret
    exact ⟨by rw [HM.out]; rfl, hl⟩
  rcases (Bool.eq_false_or_eq_true (a.fl == b.fl)).symm with e_fl | e_fl
  · have hne : ¬ a.fl = b.fl := by simpa using e_fl
    have HM : Hid (sameG a b = false) := by show _ = _; simp [sameG, sameNG, hne]
    clear hne
    go_wp2
    go_ret
    exact ⟨by rw [HM.out]; rfl, hl⟩
  rcases (Bool.eq_false_or_eq_true (a.wi == b.wi)).symm with e_wi | e_wi
  · have hne : ¬ a.wi = b.wi := by simpa using e_wi
    have HM : Hid (sameG a b = false) := by show _ = _; simp [sameG, sameNG, hne]
    clear hne
    go_wp2
    go_ret
    exact ⟨by rw [HM.out]; rfl, hl⟩
  rcases (Bool.eq_false_or_eq_true (a.ur == b.ur)).symm with e_ur | e_ur
  · have hne : ¬ a.ur = b.ur := by simpa using e_ur
    have HM : Hid (sameG a b = false) := by show _ = _; simp [sameG, sameNG, hne]
    clear hne
    go_wp2
    go_ret
    exact ⟨by rw [HM.out]; rfl, hl⟩
  rcases (Bool.eq_false_or_eq_true (a.da.toList == b.da.toList)).symm with e_da | e_da
  · have hne : decide (a.da = b.da) = false := by rw [← tl_eq]; exact e_da
    have HM : Hid (sameG a b = false) := by show _ = _; unfold sameG; rw [hne, Bool.and_false]
    clear hne
    go_wp2
    go_ret
    exact ⟨by rw [HM.out]; rfl, hl⟩
  have HM : Hid (sameG a b = sameOO a.o b.o) := by
    show _ = _
    unfold sameG
    rw [← tl_eq, e_da, Bool.and_true, show sameNG a b = true from decide_eq_true ⟨by simpa using e_fr, by simpa using e_dt, by simpa using e_sq, by simpa using e_ak, by simpa using e_fl, by simpa using e_wi, by simpa using e_ur⟩, Bool.true_and]
  have hsm := rsame_any a.o.m a.o.c a.o.t a.o.ec a.o.sd a.o.ok a.o.sp va a.o.rs b.o.m b.o.c b.o.t b.o.ec b.o.sd b.o.ok b.o.sp vb b.o.rs _ hra hrb hn hn'
  go_wp2_with (first | (refine wpList_loadG 32 _ (by rfl) (by rfl) w.heap.size 7 (by rfl) _ _ hA.opts Tryz.underlying32 rfl size32 ?_) | (refine wpList_loadG 32 _ (by rfl) (by rfl) (w.heap.size + 1) 7 (by rfl) _ _ hB.opts Tryz.underlying32 rfl size32 ?_))
  refine hsm.mono ?_
  rintro e w1 ⟨rfl, hb⟩
  go_wp2
  go_ret
  exact ⟨by rw [HM.out]; rfl, bt hl hb⟩
end Go.Proofs.YtkpdmgoldngdaaaGreatDoor
