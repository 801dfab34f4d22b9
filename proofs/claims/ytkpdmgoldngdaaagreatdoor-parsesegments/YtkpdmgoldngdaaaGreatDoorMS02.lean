/- the texts Se, in part, merged by program -/
import Derived.Test.YtkpdmgoldngdaaaGreatDoorProg
import Derived.Test.YtkpdmgoldngdaaaGreatDoorRows
import Derived.WalkKit
import Derived.WalkSpells
import Derived.RegionTactic
import Derived.Below
import Derived.Laws.Tables
import Derived.Great.BuildSlice
import Derived.Laws.OwnMore
import Derived.Laws.AppendOwn
import Derived.Laws.AppendOwnNone
import Derived.Deep.LoopGhost
import Derived.Deep.RegionHeld3
import Derived.Deep.QuietTactic
import Derived.BigQuiet
import Derived.WalkSmall
import Derived.Laws.StructEq
import Derived.Shelf.Strings.Repeat
import Derived.Deep.MidRow
import Derived.Deep.Cut
import Derived.Deep.RegionWith
import Derived.LoopN
import Derived.Test.YtkpdmgoldngdaaaGreatDoorMA01
import Derived.Test.YtkpdmgoldngdaaaGreatDoorMA04
import Derived.Test.YtkpdmgoldngdaaaGreatDoorMA05
import Derived.Test.YtkpdmgoldngdaaaGreatDoorMD01
import Derived.Test.YtkpdmgoldngdaaaGreatDoorMD02
import Derived.Test.YtkpdmgoldngdaaaGreatDoorMD04
import Derived.Test.YtkpdmgoldngdaaaGreatDoorMG01
import Derived.Test.YtkpdmgoldngdaaaGreatDoorMG03
import Derived.Test.YtkpdmgoldngdaaaGreatDoorMG05
import Derived.Test.YtkpdmgoldngdaaaGreatDoorMH01
import Derived.Test.YtkpdmgoldngdaaaGreatDoorMH02
import Derived.Test.YtkpdmgoldngdaaaGreatDoorMH03
import Derived.Test.YtkpdmgoldngdaaaGreatDoorMO01
import Derived.Test.YtkpdmgoldngdaaaGreatDoorMP01
import Derived.Test.YtkpdmgoldngdaaaGreatDoorMS01
namespace Go.Proofs.YtkpdmgoldngdaaaGreatDoor
open Go.RowKit
set_option maxRecDepth 100000
set_option linter.unusedVariables false

theorem numbers_s (s : Sg) (v : Value) (w : World) : Calls Tryz.prog 51 #[.agg #[.int .i64 s.fr, .int .i64 s.dt, .int .i64 s.sq, .int .i64 s.ak, .int .i64 s.fl, .int .i64 s.wi, .int .i64 s.ur, .int .i64 s.o.m, .int .i64 s.o.c, .int .i64 s.o.t, .int .i64 s.o.ec, .bool s.o.sd, .bool s.o.ok, .bool s.o.sp, v, .string s.da]] w fun e w' => e = .returned (.agg #[.int .i64 s.fr, .int .i64 s.dt, .int .i64 s.sq, .int .i64 s.ak, .int .i64 s.fl, .int .i64 s.wi, .int .i64 s.ur]) ∧ Below w.heap.size w w' := by
  obtain ⟨⟨c0, c1, c2, c3, c4, c5, c6, c7, c8, c9, c10, c11, c12, c13, c14, c15⟩, -, -⟩ := (At.box w #[.int .i64 s.fr, .int .i64 s.dt, .int .i64 s.sq, .int .i64 s.ak, .int .i64 s.fl, .int .i64 s.wi, .int .i64 s.ur, .int .i64 s.o.m, .int .i64 s.o.c, .int .i64 s.o.t, .int .i64 s.o.ec, .bool s.o.sd, .bool s.o.ok, .bool s.o.sp, v, .string s.da] 34).sixteen
  go_enter Tryz.func51, Tryz.ntmps51
  go_wp2
  exact bodyPost_ret (v := .agg #[.int .i64 s.fr, .int .i64 s.dt, .int .i64 s.sq, .int .i64 s.ak, .int .i64 s.fl, .int .i64 s.wi, .int .i64 s.ur]) (by simp [results, Tryz.results51, go_sem]) rfl ⟨rfl, bt (bel1 _ _) (bel1 _ _)⟩
theorem eq7 (x0 x1 x2 x3 x4 x5 x6 y0 y1 y2 y3 y4 y5 y6 : Int) (w : World) : (Op.equalIn 10000 102 (.agg #[.int .i64 x0, .int .i64 x1, .int .i64 x2, .int .i64 x3, .int .i64 x4, .int .i64 x5, .int .i64 x6]) (.agg #[.int .i64 y0, .int .i64 y1, .int .i64 y2, .int .i64 y3, .int .i64 y4, .int .i64 y5, .int .i64 y6])).run Tryz.prog w = .ok (decide (x0 = y0 ∧ x1 = y1 ∧ x2 = y2 ∧ x3 = y3 ∧ x4 = y4 ∧ x5 = y5 ∧ x6 = y6)) w := by
  have u3 := Tryz.underlying3
  have a3 := Tryz.isAgg3
  have z3 := Tryz.sizeOf3
  rw [show (10000 : Nat) = 9999 + 1 from rfl, Op.equalIn]
  simp only [Sem.run_bind, run_underlying Tryz.underlying102, Result.andThen_ok]
  simp only [Std.Legacy.Range.forIn_eq_forIn_range', Std.Legacy.Range.size, Nat.sub_zero, Nat.add_sub_cancel, Nat.div_one, List.range'_succ, List.range'_zero, List.forIn_cons, List.forIn_nil]
  go_simp
  by_cases h0 : x0 = y0
  case neg => simp [h0]
  subst h0
  by_cases h1 : x1 = y1
  case neg => simp [h1]
  subst h1
  by_cases h2 : x2 = y2
  case neg => simp [h2]
  subst h2
  by_cases h3 : x3 = y3
  case neg => simp [h3]
  subst h3
  by_cases h4 : x4 = y4
  case neg => simp [h4]
  subst h4
  by_cases h5 : x5 = y5
  case neg => simp [h5]
  subst h5
  by_cases h6 : x6 = y6
  case neg => simp [h6]
  subst h6
  simp
theorem run_eq7 (x0 x1 x2 x3 x4 x5 x6 y0 y1 y2 y3 y4 y5 y6 : Int) (W : World) : (binOp .eql 102 (.agg #[.int .i64 x0, .int .i64 x1, .int .i64 x2, .int .i64 x3, .int .i64 x4, .int .i64 x5, .int .i64 x6]) (.agg #[.int .i64 y0, .int .i64 y1, .int .i64 y2, .int .i64 y3, .int .i64 y4, .int .i64 y5, .int .i64 y6])).run Tryz.prog W = .ok (.bool (decide (x0 = y0 ∧ x1 = y1 ∧ x2 = y2 ∧ x3 = y3 ∧ x4 = y4 ∧ x5 = y5 ∧ x6 = y6))) W := by
  rw [run_eql_struct, eq7]; rfl
set_option maxHeartbeats 4000000 in
theorem ssame_yy (a b : Sg) (va vb : Value) (w : World) (hv : Rgs w va a.o.rs) (hv' : Rgs w vb b.o.rs) (hn : a.o.rs.length ≤ 17592186044416) (hn' : b.o.rs.length ≤ 17592186044416) (h1 : sameNG a b = true) (h2 : sameOO a.o b.o = true) :
    Calls Tryz.prog 21 #[.agg #[.int .i64 a.fr, .int .i64 a.dt, .int .i64 a.sq, .int .i64 a.ak, .int .i64 a.fl, .int .i64 a.wi, .int .i64 a.ur, .int .i64 a.o.m, .int .i64 a.o.c, .int .i64 a.o.t, .int .i64 a.o.ec, .bool a.o.sd, .bool a.o.ok, .bool a.o.sp, va, .string a.da], .agg #[.int .i64 b.fr, .int .i64 b.dt, .int .i64 b.sq, .int .i64 b.ak, .int .i64 b.fl, .int .i64 b.wi, .int .i64 b.ur, .int .i64 b.o.m, .int .i64 b.o.c, .int .i64 b.o.t, .int .i64 b.o.ec, .bool b.o.sd, .bool b.o.ok, .bool b.o.sp, vb, .string b.da]] w fun e w' => e = .returned (.bool (decide (a.da = b.da))) ∧ Below w.heap.size w w' := by
  have hb1 := bel1 w (.cells #[.int .i64 a.fr, .int .i64 a.dt, .int .i64 a.sq, .int .i64 a.ak, .int .i64 a.fl, .int .i64 a.wi, .int .i64 a.ur, .int .i64 a.o.m, .int .i64 a.o.c, .int .i64 a.o.t, .int .i64 a.o.ec, .bool a.o.sd, .bool a.o.ok, .bool a.o.sp, va, .string a.da] 34)
  have hb2 := bel1 (w.alloc (.cells #[.int .i64 a.fr, .int .i64 a.dt, .int .i64 a.sq, .int .i64 a.ak, .int .i64 a.fl, .int .i64 a.wi, .int .i64 a.ur, .int .i64 a.o.m, .int .i64 a.o.c, .int .i64 a.o.t, .int .i64 a.o.ec, .bool a.o.sd, .bool a.o.ok, .bool a.o.sp, va, .string a.da] 34)) (.cells #[.int .i64 b.fr, .int .i64 b.dt, .int .i64 b.sq, .int .i64 b.ak, .int .i64 b.fl, .int .i64 b.wi, .int .i64 b.ur, .int .i64 b.o.m, .int .i64 b.o.c, .int .i64 b.o.t, .int .i64 b.o.ec, .bool b.o.sd, .bool b.o.ok, .bool b.o.sp, vb, .string b.da] 34)
  have hd : Below ((w.alloc (.cells #[.int .i64 a.fr, .int .i64 a.dt, .int .i64 a.sq, .int .i64 a.ak, .int .i64 a.fl, .int .i64 a.wi, .int .i64 a.ur, .int .i64 a.o.m, .int .i64 a.o.c, .int .i64 a.o.t, .int .i64 a.o.ec, .bool a.o.sd, .bool a.o.ok, .bool a.o.sp, va, .string a.da] 34)).alloc (.cells #[.int .i64 b.fr, .int .i64 b.dt, .int .i64 b.sq, .int .i64 b.ak, .int .i64 b.fl, .int .i64 b.wi, .int .i64 b.ur, .int .i64 b.o.m, .int .i64 b.o.c, .int .i64 b.o.t, .int .i64 b.o.ec, .bool b.o.sd, .bool b.o.ok, .bool b.o.sp, vb, .string b.da] 34)).heap.size ((w.alloc (.cells #[.int .i64 a.fr, .int .i64 a.dt, .int .i64 a.sq, .int .i64 a.ak, .int .i64 a.fl, .int .i64 a.wi, .int .i64 a.ur, .int .i64 a.o.m, .int .i64 a.o.c, .int .i64 a.o.t, .int .i64 a.o.ec, .bool a.o.sd, .bool a.o.ok, .bool a.o.sp, va, .string a.da] 34)).alloc (.cells #[.int .i64 b.fr, .int .i64 b.dt, .int .i64 b.sq, .int .i64 b.ak, .int .i64 b.fl, .int .i64 b.wi, .int .i64 b.ur, .int .i64 b.o.m, .int .i64 b.o.c, .int .i64 b.o.t, .int .i64 b.o.ec, .bool b.o.sd, .bool b.o.ok, .bool b.o.sp, vb, .string b.da] 34)) ((w.alloc (.cells #[.int .i64 a.fr, .int .i64 a.dt, .int .i64 a.sq, .int .i64 a.ak, .int .i64 a.fl, .int .i64 a.wi, .int .i64 a.ur, .int .i64 a.o.m, .int .i64 a.o.c, .int .i64 a.o.t, .int .i64 a.o.ec, .bool a.o.sd, .bool a.o.ok, .bool a.o.sp, va, .string a.da] 34)).alloc (.cells #[.int .i64 b.fr, .int .i64 b.dt, .int .i64 b.sq, .int .i64 b.ak, .int .i64 b.fl, .int .i64 b.wi, .int .i64 b.ur, .int .i64 b.o.m, .int .i64 b.o.c, .int .i64 b.o.t, .int .i64 b.o.ec, .bool b.o.sd, .bool b.o.ok, .bool b.o.sp, vb, .string b.da] 34)).drew := (Below.refl _ _).drew
  have HS0 : Hid (Below w.heap.size w ((w.alloc (.cells #[.int .i64 a.fr, .int .i64 a.dt, .int .i64 a.sq, .int .i64 a.ak, .int .i64 a.fl, .int .i64 a.wi, .int .i64 a.ur, .int .i64 a.o.m, .int .i64 a.o.c, .int .i64 a.o.t, .int .i64 a.o.ec, .bool a.o.sd, .bool a.o.ok, .bool a.o.sp, va, .string a.da] 34)).alloc (.cells #[.int .i64 b.fr, .int .i64 b.dt, .int .i64 b.sq, .int .i64 b.ak, .int .i64 b.fl, .int .i64 b.wi, .int .i64 b.ur, .int .i64 b.o.m, .int .i64 b.o.c, .int .i64 b.o.t, .int .i64 b.o.ec, .bool b.o.sd, .bool b.o.ok, .bool b.o.sp, vb, .string b.da] 34)).drew ∧ At ((w.alloc (.cells #[.int .i64 a.fr, .int .i64 a.dt, .int .i64 a.sq, .int .i64 a.ak, .int .i64 a.fl, .int .i64 a.wi, .int .i64 a.ur, .int .i64 a.o.m, .int .i64 a.o.c, .int .i64 a.o.t, .int .i64 a.o.ec, .bool a.o.sd, .bool a.o.ok, .bool a.o.sp, va, .string a.da] 34)).alloc (.cells #[.int .i64 b.fr, .int .i64 b.dt, .int .i64 b.sq, .int .i64 b.ak, .int .i64 b.fl, .int .i64 b.wi, .int .i64 b.ur, .int .i64 b.o.m, .int .i64 b.o.c, .int .i64 b.o.t, .int .i64 b.o.ec, .bool b.o.sd, .bool b.o.ok, .bool b.o.sp, vb, .string b.da] 34)).drew w.heap.size #[.int .i64 a.fr, .int .i64 a.dt, .int .i64 a.sq, .int .i64 a.ak, .int .i64 a.fl, .int .i64 a.wi, .int .i64 a.ur, .int .i64 a.o.m, .int .i64 a.o.c, .int .i64 a.o.t, .int .i64 a.o.ec, .bool a.o.sd, .bool a.o.ok, .bool a.o.sp, va, .string a.da] ∧ At ((w.alloc (.cells #[.int .i64 a.fr, .int .i64 a.dt, .int .i64 a.sq, .int .i64 a.ak, .int .i64 a.fl, .int .i64 a.wi, .int .i64 a.ur, .int .i64 a.o.m, .int .i64 a.o.c, .int .i64 a.o.t, .int .i64 a.o.ec, .bool a.o.sd, .bool a.o.ok, .bool a.o.sp, va, .string a.da] 34)).alloc (.cells #[.int .i64 b.fr, .int .i64 b.dt, .int .i64 b.sq, .int .i64 b.ak, .int .i64 b.fl, .int .i64 b.wi, .int .i64 b.ur, .int .i64 b.o.m, .int .i64 b.o.c, .int .i64 b.o.t, .int .i64 b.o.ec, .bool b.o.sd, .bool b.o.ok, .bool b.o.sp, vb, .string b.da] 34)).drew (w.heap.size + 1) #[.int .i64 b.fr, .int .i64 b.dt, .int .i64 b.sq, .int .i64 b.ak, .int .i64 b.fl, .int .i64 b.wi, .int .i64 b.ur, .int .i64 b.o.m, .int .i64 b.o.c, .int .i64 b.o.t, .int .i64 b.o.ec, .bool b.o.sd, .bool b.o.ok, .bool b.o.sp, vb, .string b.da] ∧ Rgs ((w.alloc (.cells #[.int .i64 a.fr, .int .i64 a.dt, .int .i64 a.sq, .int .i64 a.ak, .int .i64 a.fl, .int .i64 a.wi, .int .i64 a.ur, .int .i64 a.o.m, .int .i64 a.o.c, .int .i64 a.o.t, .int .i64 a.o.ec, .bool a.o.sd, .bool a.o.ok, .bool a.o.sp, va, .string a.da] 34)).alloc (.cells #[.int .i64 b.fr, .int .i64 b.dt, .int .i64 b.sq, .int .i64 b.ak, .int .i64 b.fl, .int .i64 b.wi, .int .i64 b.ur, .int .i64 b.o.m, .int .i64 b.o.c, .int .i64 b.o.t, .int .i64 b.o.ec, .bool b.o.sd, .bool b.o.ok, .bool b.o.sp, vb, .string b.da] 34)).drew va a.o.rs ∧ Rgs ((w.alloc (.cells #[.int .i64 a.fr, .int .i64 a.dt, .int .i64 a.sq, .int .i64 a.ak, .int .i64 a.fl, .int .i64 a.wi, .int .i64 a.ur, .int .i64 a.o.m, .int .i64 a.o.c, .int .i64 a.o.t, .int .i64 a.o.ec, .bool a.o.sd, .bool a.o.ok, .bool a.o.sp, va, .string a.da] 34)).alloc (.cells #[.int .i64 b.fr, .int .i64 b.dt, .int .i64 b.sq, .int .i64 b.ak, .int .i64 b.fl, .int .i64 b.wi, .int .i64 b.ur, .int .i64 b.o.m, .int .i64 b.o.c, .int .i64 b.o.t, .int .i64 b.o.ec, .bool b.o.sd, .bool b.o.ok, .bool b.o.sp, vb, .string b.da] 34)).drew vb b.o.rs) := ⟨bt (bt hb1 hb2) hd, ((At.box w _ 34).later hb2).later hd, (At.box2 w _ _ 34).later hd, ((hv.later hb1).later hb2).later hd, ((hv'.later hb1).later hb2).later hd⟩
  have HN : Hid (a.o.rs.length ≤ 17592186044416) := hn
  have HN' : Hid (b.o.rs.length ≤ 17592186044416) := hn'
  have heq := fun W => run_eq7 a.fr a.dt a.sq a.ak a.fl a.wi a.ur b.fr b.dt b.sq b.ak b.fl b.wi b.ur W
  rw [show decide (a.fr = b.fr ∧ a.dt = b.dt ∧ a.sq = b.sq ∧ a.ak = b.ak ∧ a.fl = b.fl ∧ a.wi = b.wi ∧ a.ur = b.ur) = true from h1] at heq
  have HEQ : Hid (∀ W, (binOp .eql 102 (.agg #[.int .i64 a.fr, .int .i64 a.dt, .int .i64 a.sq, .int .i64 a.ak, .int .i64 a.fl, .int .i64 a.wi, .int .i64 a.ur]) (.agg #[.int .i64 b.fr, .int .i64 b.dt, .int .i64 b.sq, .int .i64 b.ak, .int .i64 b.fl, .int .i64 b.wi, .int .i64 b.ur])).run Tryz.prog W = .ok (.bool true) W) := heq
  have HOO : Hid (sameO a.o.m a.o.c a.o.t a.o.ec a.o.sd a.o.ok a.o.sp a.o.rs b.o.m b.o.c b.o.t b.o.ec b.o.sd b.o.ok b.o.sp b.o.rs = true) := h2
  clear hb1 hb2 hd hv hv' hn hn' h1 heq
  go_enter Tryz.func21, Tryz.ntmps21
  go_wp2
  refine wp_region_any (by kernel_rfl) ?_
  refine region_facts (fun W => Below w.heap.size w W ∧ At W w.heap.size #[.int .i64 a.fr, .int .i64 a.dt, .int .i64 a.sq, .int .i64 a.ak, .int .i64 a.fl, .int .i64 a.wi, .int .i64 a.ur, .int .i64 a.o.m, .int .i64 a.o.c, .int .i64 a.o.t, .int .i64 a.o.ec, .bool a.o.sd, .bool a.o.ok, .bool a.o.sp, va, .string a.da] ∧ At W (w.heap.size + 1) #[.int .i64 b.fr, .int .i64 b.dt, .int .i64 b.sq, .int .i64 b.ak, .int .i64 b.fl, .int .i64 b.wi, .int .i64 b.ur, .int .i64 b.o.m, .int .i64 b.o.c, .int .i64 b.o.t, .int .i64 b.o.ec, .bool b.o.sd, .bool b.o.ok, .bool b.o.sp, vb, .string b.da] ∧ Rgs W va a.o.rs ∧ Rgs W vb b.o.rs) (GE (fun qq => match qq with | 0 => .agg #[.int .i64 a.fr, .int .i64 a.dt, .int .i64 a.sq, .int .i64 a.ak, .int .i64 a.fl, .int .i64 a.wi, .int .i64 a.ur, .int .i64 a.o.m, .int .i64 a.o.c, .int .i64 a.o.t, .int .i64 a.o.ec, .bool a.o.sd, .bool a.o.ok, .bool a.o.sp, va, .string a.da] | 1 => .agg #[.int .i64 a.fr, .int .i64 a.dt, .int .i64 a.sq, .int .i64 a.ak, .int .i64 a.fl, .int .i64 a.wi, .int .i64 a.ur] | 2 => .agg #[.int .i64 b.fr, .int .i64 b.dt, .int .i64 b.sq, .int .i64 b.ak, .int .i64 b.fl, .int .i64 b.wi, .int .i64 b.ur, .int .i64 b.o.m, .int .i64 b.o.c, .int .i64 b.o.t, .int .i64 b.o.ec, .bool b.o.sd, .bool b.o.ok, .bool b.o.sp, vb, .string b.da] | 3 => .agg #[.int .i64 b.fr, .int .i64 b.dt, .int .i64 b.sq, .int .i64 b.ak, .int .i64 b.fl, .int .i64 b.wi, .int .i64 b.ur] | 4 => .bool true | 5 => .bool true | 6 => .pointer (some ⟨w.heap.size, 7, none⟩) | 7 => .agg #[.int .i64 a.o.m, .int .i64 a.o.c, .int .i64 a.o.t, .int .i64 a.o.ec, .bool a.o.sd, .bool a.o.ok, .bool a.o.sp, va] | 8 => .pointer (some ⟨w.heap.size + 1, 7, none⟩) | 9 => .agg #[.int .i64 b.o.m, .int .i64 b.o.c, .int .i64 b.o.t, .int .i64 b.o.ec, .bool b.o.sd, .bool b.o.ok, .bool b.o.sp, vb] | 10 => .bool true | 11 => .bool true | 12 => .bool true | 13 => .pointer (some ⟨w.heap.size, 15, none⟩) | 14 => .string a.da | 15 => .pointer (some ⟨w.heap.size + 1, 15, none⟩) | 16 => .string b.da | 17 => .bool (decide (a.da = b.da)) | 18 => .bool (decide (a.da = b.da)) | 19 => .bool (decide (a.da = b.da)) | _ => undef) (fun _ => none)) (n := 24) (by kernel_rfl) rfl (by kernel_rfl) (GE_later _ _ (fun _ _ h => by cases h)) ?_ ?_ HS0.out (Nat.le_refl _)
  · clear HS0
    refine ⟨?_, ?_, ?_, ?_, ?_, ?_, ?_, ?_, ?_, ?_, ?_, ?_, ?_, ?_, ?_, ?_, ?_, ?_, ?_, ?_, trivial⟩
    · intro ac w1 hS hT hB hD K hK
      rw [if_pos (by rfl)]
      have d2 : ac.tmps.getD 2 undef = .pointer (some ⟨w.heap.size, 0, none⟩) := hB 2 (by kernel_rfl)
      clear hB hD hT
      exact wp_load_mid 34 (.tmp 2) rfl (w.heap.size) 0 d2 _ _ hS.2.1.range Tryz.underlying34 rfl size34 (hK _ _ hS (Below.refl _ _) rfl)
    · intro ac w1 hS hT hB hD K hK
      rw [if_pos (by rfl)]
      have d5 : ac.tmps.getD 5 undef = .agg #[.int .i64 a.fr, .int .i64 a.dt, .int .i64 a.sq, .int .i64 a.ak, .int .i64 a.fl, .int .i64 a.wi, .int .i64 a.ur, .int .i64 a.o.m, .int .i64 a.o.c, .int .i64 a.o.t, .int .i64 a.o.ec, .bool a.o.sd, .bool a.o.ok, .bool a.o.sp, va, .string a.da] := hD ⟨0, .data⟩ (by simp) rfl _ 5 rfl rfl
      clear hB hD hT
      go_simp
      refine (numbers_s a va _).mono ?_
      rintro e w' ⟨rfl, hb⟩
      exact hK _ _ (keepS hb hS) hb rfl
    · intro ac w1 hS hT hB hD K hK
      rw [if_pos (by rfl)]
      have d3 : ac.tmps.getD 3 undef = .pointer (some ⟨w.heap.size + 1, 0, none⟩) := hB 3 (by kernel_rfl)
      clear hB hD hT
      exact wp_load_mid 34 (.tmp 3) rfl (w.heap.size + 1) 0 d3 _ _ hS.2.2.1.range Tryz.underlying34 rfl size34 (hK _ _ hS (Below.refl _ _) rfl)
    · intro ac w1 hS hT hB hD K hK
      rw [if_pos (by rfl)]
      have d7 : ac.tmps.getD 7 undef = .agg #[.int .i64 b.fr, .int .i64 b.dt, .int .i64 b.sq, .int .i64 b.ak, .int .i64 b.fl, .int .i64 b.wi, .int .i64 b.ur, .int .i64 b.o.m, .int .i64 b.o.c, .int .i64 b.o.t, .int .i64 b.o.ec, .bool b.o.sd, .bool b.o.ok, .bool b.o.sp, vb, .string b.da] := hD ⟨2, .data⟩ (by simp) rfl _ 7 rfl rfl
      clear hB hD hT
      go_simp
      refine (numbers_s b vb _).mono ?_
      rintro e w' ⟨rfl, hb⟩
      exact hK _ _ (keepS hb hS) hb rfl
    · intro ac w1 hS hT hB hD K hK
      rw [if_pos (by rfl)]
      have d6 : ac.tmps.getD 6 undef = .agg #[.int .i64 a.fr, .int .i64 a.dt, .int .i64 a.sq, .int .i64 a.ak, .int .i64 a.fl, .int .i64 a.wi, .int .i64 a.ur] := hD ⟨1, .data⟩ (by simp) rfl _ 6 rfl rfl
      have d8 : ac.tmps.getD 8 undef = .agg #[.int .i64 b.fr, .int .i64 b.dt, .int .i64 b.sq, .int .i64 b.ak, .int .i64 b.fl, .int .i64 b.wi, .int .i64 b.ur] := hD ⟨3, .data⟩ (by simp) rfl _ 8 rfl rfl
      clear hB hD hT
      have hq := HEQ.out
      go_simp
      exact hK _ _ hS (Below.refl _ _) rfl
    · intro ac w1 hS hT hB hD K hK
      rw [if_pos (by rfl)]
      have d9 : ac.tmps.getD 9 undef = .bool true := hD ⟨4, .data⟩ (by simp) rfl _ 9 rfl rfl
      clear hB hD hT
      go_simp
      exact hK _ _ hS (Below.refl _ _) rfl
    · intro ac w1 hS hT hB hD K hK
      have g10 : ac.tmps.getD 10 undef = .bool true := hD ⟨5, .guard⟩ (by simp) rfl _ 10 rfl rfl
      rw [if_pos (want_t (j := 5) (d := 10) rfl rfl g10)]
      clear g10
      have d2 : ac.tmps.getD 2 undef = .pointer (some ⟨w.heap.size, 0, none⟩) := hB 2 (by kernel_rfl)
      clear hB hD hT
      go_simp
      exact hK _ _ hS (Below.refl _ _) rfl
    · intro ac w1 hS hT hB hD K hK
      have g10 : ac.tmps.getD 10 undef = .bool true := hD ⟨5, .guard⟩ (by simp) rfl _ 10 rfl rfl
      rw [if_pos (want_t (j := 5) (d := 10) rfl rfl g10)]
      clear g10
      have d11 : ac.tmps.getD 11 undef = .pointer (some ⟨w.heap.size, 7, none⟩) := hD ⟨6, .data⟩ (by simp) rfl _ 11 rfl rfl
      clear hB hD hT
      exact wp_load_mid 32 (.tmp 11) rfl (w.heap.size) 7 d11 _ _ hS.2.1.opts Tryz.underlying32 rfl size32 (hK _ _ hS (Below.refl _ _) rfl)
    · intro ac w1 hS hT hB hD K hK
      have g10 : ac.tmps.getD 10 undef = .bool true := hD ⟨5, .guard⟩ (by simp) rfl _ 10 rfl rfl
      rw [if_pos (want_t (j := 5) (d := 10) rfl rfl g10)]
      clear g10
      have d3 : ac.tmps.getD 3 undef = .pointer (some ⟨w.heap.size + 1, 0, none⟩) := hB 3 (by kernel_rfl)
      clear hB hD hT
      go_simp
      exact hK _ _ hS (Below.refl _ _) rfl
    · intro ac w1 hS hT hB hD K hK
      have g10 : ac.tmps.getD 10 undef = .bool true := hD ⟨5, .guard⟩ (by simp) rfl _ 10 rfl rfl
      rw [if_pos (want_t (j := 5) (d := 10) rfl rfl g10)]
      clear g10
      have d13 : ac.tmps.getD 13 undef = .pointer (some ⟨w.heap.size + 1, 7, none⟩) := hD ⟨8, .data⟩ (by simp) rfl _ 13 rfl rfl
      clear hB hD hT
      exact wp_load_mid 32 (.tmp 13) rfl (w.heap.size + 1) 7 d13 _ _ hS.2.2.1.opts Tryz.underlying32 rfl size32 (hK _ _ hS (Below.refl _ _) rfl)
    · intro ac w1 hS hT hB hD K hK
      have g10 : ac.tmps.getD 10 undef = .bool true := hD ⟨5, .guard⟩ (by simp) rfl _ 10 rfl rfl
      rw [if_pos (want_t (j := 5) (d := 10) rfl rfl g10)]
      clear g10
      have d12 : ac.tmps.getD 12 undef = .agg #[.int .i64 a.o.m, .int .i64 a.o.c, .int .i64 a.o.t, .int .i64 a.o.ec, .bool a.o.sd, .bool a.o.ok, .bool a.o.sp, va] := hD ⟨7, .data⟩ (by simp) rfl _ 12 rfl rfl
      have d14 : ac.tmps.getD 14 undef = .agg #[.int .i64 b.o.m, .int .i64 b.o.c, .int .i64 b.o.t, .int .i64 b.o.ec, .bool b.o.sd, .bool b.o.ok, .bool b.o.sp, vb] := hD ⟨9, .data⟩ (by simp) rfl _ 14 rfl rfl
      clear hB hD hT
      go_simp
      have hq := same_any a.o.m a.o.c a.o.t a.o.ec a.o.sd a.o.ok a.o.sp va a.o.rs b.o.m b.o.c b.o.t b.o.ec b.o.sd b.o.ok b.o.sp vb b.o.rs _ hS.2.2.2.1 hS.2.2.2.2 HN.out HN'.out
      rw [HOO.out] at hq
      refine hq.mono ?_
      rintro e w' ⟨rfl, hb⟩
      exact hK _ _ (keepS hb hS) hb rfl
    · intro ac w1 hS hT hB hD K hK
      rw [if_pos (by rfl)]
      have d10 : ac.tmps.getD 10 undef = .bool true := hD ⟨5, .data⟩ (by simp) rfl _ 10 rfl rfl
      have d15 : ac.tmps.getD 15 undef = .bool true := hD ⟨10, .data⟩ (by simp) rfl _ 15 rfl rfl
      clear hB hD hT
      go_simp
      exact hK _ _ hS (Below.refl _ _) rfl
    · intro ac w1 hS hT hB hD K hK
      rw [if_pos (by rfl)]
      have d16 : ac.tmps.getD 16 undef = .bool true := hD ⟨11, .data⟩ (by simp) rfl _ 16 rfl rfl
      clear hB hD hT
      go_simp
      exact hK _ _ hS (Below.refl _ _) rfl
    · intro ac w1 hS hT hB hD K hK
      have g17 : ac.tmps.getD 17 undef = .bool true := hD ⟨12, .guard⟩ (by simp) rfl _ 17 rfl rfl
      rw [if_pos (want_t (j := 12) (d := 17) rfl rfl g17)]
      clear g17
      have d2 : ac.tmps.getD 2 undef = .pointer (some ⟨w.heap.size, 0, none⟩) := hB 2 (by kernel_rfl)
      clear hB hD hT
      go_simp
      exact hK _ _ hS (Below.refl _ _) rfl
    · intro ac w1 hS hT hB hD K hK
      have g17 : ac.tmps.getD 17 undef = .bool true := hD ⟨12, .guard⟩ (by simp) rfl _ 17 rfl rfl
      rw [if_pos (want_t (j := 12) (d := 17) rfl rfl g17)]
      clear g17
      have d18 : ac.tmps.getD 18 undef = .pointer (some ⟨w.heap.size, 15, none⟩) := hD ⟨13, .data⟩ (by simp) rfl _ 18 rfl rfl
      clear hB hD hT
      have hc := hS.2.1.sixteen.1
      go_simp
      exact hK _ _ hS (Below.refl _ _) rfl
    · intro ac w1 hS hT hB hD K hK
      have g17 : ac.tmps.getD 17 undef = .bool true := hD ⟨12, .guard⟩ (by simp) rfl _ 17 rfl rfl
      rw [if_pos (want_t (j := 12) (d := 17) rfl rfl g17)]
      clear g17
      have d3 : ac.tmps.getD 3 undef = .pointer (some ⟨w.heap.size + 1, 0, none⟩) := hB 3 (by kernel_rfl)
      clear hB hD hT
      go_simp
      exact hK _ _ hS (Below.refl _ _) rfl
    · intro ac w1 hS hT hB hD K hK
      have g17 : ac.tmps.getD 17 undef = .bool true := hD ⟨12, .guard⟩ (by simp) rfl _ 17 rfl rfl
      rw [if_pos (want_t (j := 12) (d := 17) rfl rfl g17)]
      clear g17
      have d20 : ac.tmps.getD 20 undef = .pointer (some ⟨w.heap.size + 1, 15, none⟩) := hD ⟨15, .data⟩ (by simp) rfl _ 20 rfl rfl
      clear hB hD hT
      have hc := hS.2.2.1.sixteen.1
      go_simp
      exact hK _ _ hS (Below.refl _ _) rfl
    · intro ac w1 hS hT hB hD K hK
      have g17 : ac.tmps.getD 17 undef = .bool true := hD ⟨12, .guard⟩ (by simp) rfl _ 17 rfl rfl
      rw [if_pos (want_t (j := 12) (d := 17) rfl rfl g17)]
      clear g17
      have d19 : ac.tmps.getD 19 undef = .string a.da := hD ⟨14, .data⟩ (by simp) rfl _ 19 rfl rfl
      have d21 : ac.tmps.getD 21 undef = .string b.da := hD ⟨16, .data⟩ (by simp) rfl _ 21 rfl rfl
      clear hB hD hT
      go_simp
      exact hK _ _ hS (Below.refl _ _) (congrArg Value.bool (tl_eq _ _))
    · intro ac w1 hS hT hB hD K hK
      rw [if_pos (by rfl)]
      have d17 : ac.tmps.getD 17 undef = .bool true := hD ⟨12, .data⟩ (by simp) rfl _ 17 rfl rfl
      have d22 : ac.tmps.getD 22 undef = .bool (decide (a.da = b.da)) := hD ⟨17, .data⟩ (by simp) rfl _ 22 rfl rfl
      clear hB hD hT
      go_simp
      exact hK _ _ hS (Below.refl _ _) rfl
    · intro ac w1 hS hT hB hD K hK
      rw [if_pos (by rfl)]
      have d23 : ac.tmps.getD 23 undef = .bool (decide (a.da = b.da)) := hD ⟨18, .data⟩ (by simp) rfl _ 23 rfl rfl
      clear hB hD hT
      go_simp
      exact hK _ _ hS (Below.refl _ _) rfl
  · intro ac w1 hS hT hdf hB hF
    clear HS0
    have hfr : ac.tmps = #[.agg #[.int .i64 a.fr, .int .i64 a.dt, .int .i64 a.sq, .int .i64 a.ak, .int .i64 a.fl, .int .i64 a.wi, .int .i64 a.ur, .int .i64 a.o.m, .int .i64 a.o.c, .int .i64 a.o.t, .int .i64 a.o.ec, .bool a.o.sd, .bool a.o.ok, .bool a.o.sp, va, .string a.da], .agg #[.int .i64 b.fr, .int .i64 b.dt, .int .i64 b.sq, .int .i64 b.ak, .int .i64 b.fl, .int .i64 b.wi, .int .i64 b.ur, .int .i64 b.o.m, .int .i64 b.o.c, .int .i64 b.o.t, .int .i64 b.o.ec, .bool b.o.sd, .bool b.o.ok, .bool b.o.sp, vb, .string b.da], .pointer (some ⟨w.heap.size, 0, none⟩), .pointer (some ⟨w.heap.size + 1, 0, none⟩), (ac.tmps.getD 4 undef), (ac.tmps.getD 5 undef), (ac.tmps.getD 6 undef), (ac.tmps.getD 7 undef), (ac.tmps.getD 8 undef), (ac.tmps.getD 9 undef), (ac.tmps.getD 10 undef), (ac.tmps.getD 11 undef), (ac.tmps.getD 12 undef), (ac.tmps.getD 13 undef), (ac.tmps.getD 14 undef), (ac.tmps.getD 15 undef), (ac.tmps.getD 16 undef), (ac.tmps.getD 17 undef), (ac.tmps.getD 18 undef), (ac.tmps.getD 19 undef), (ac.tmps.getD 20 undef), (ac.tmps.getD 21 undef), (ac.tmps.getD 22 undef), (ac.tmps.getD 23 undef)] := (frame_eq hT rfl hB).trans (by kernel_rfl)
    obtain ⟨T, df⟩ := ac
    have s4 : T.getD 4 undef = .bool (decide (a.da = b.da)) := hF 19 _ 4 rfl rfl
    have sdf : df = [] := hdf
    simp only at hfr
    clear hB hF hT hdf
    generalize T.getD 5 undef = y5 at *
    generalize T.getD 6 undef = y6 at *
    generalize T.getD 7 undef = y7 at *
    generalize T.getD 8 undef = y8 at *
    generalize T.getD 9 undef = y9 at *
    generalize T.getD 10 undef = y10 at *
    generalize T.getD 11 undef = y11 at *
    generalize T.getD 12 undef = y12 at *
    generalize T.getD 13 undef = y13 at *
    generalize T.getD 14 undef = y14 at *
    generalize T.getD 15 undef = y15 at *
    generalize T.getD 16 undef = y16 at *
    generalize T.getD 17 undef = y17 at *
    generalize T.getD 18 undef = y18 at *
    generalize T.getD 19 undef = y19 at *
    generalize T.getD 20 undef = y20 at *
    generalize T.getD 21 undef = y21 at *
    generalize T.getD 22 undef = y22 at *
    generalize T.getD 23 undef = y23 at *
    generalize T.getD 4 undef = y4 at *
    subst hfr s4 sdf
    go_wp2
    go_ret
    exact ⟨rfl, hS.1⟩
set_option maxHeartbeats 4000000 in
theorem ssame_yn (a b : Sg) (va vb : Value) (w : World) (hv : Rgs w va a.o.rs) (hv' : Rgs w vb b.o.rs) (hn : a.o.rs.length ≤ 17592186044416) (hn' : b.o.rs.length ≤ 17592186044416) (h1 : sameNG a b = true) (h2 : sameOO a.o b.o = false) :
    Calls Tryz.prog 21 #[.agg #[.int .i64 a.fr, .int .i64 a.dt, .int .i64 a.sq, .int .i64 a.ak, .int .i64 a.fl, .int .i64 a.wi, .int .i64 a.ur, .int .i64 a.o.m, .int .i64 a.o.c, .int .i64 a.o.t, .int .i64 a.o.ec, .bool a.o.sd, .bool a.o.ok, .bool a.o.sp, va, .string a.da], .agg #[.int .i64 b.fr, .int .i64 b.dt, .int .i64 b.sq, .int .i64 b.ak, .int .i64 b.fl, .int .i64 b.wi, .int .i64 b.ur, .int .i64 b.o.m, .int .i64 b.o.c, .int .i64 b.o.t, .int .i64 b.o.ec, .bool b.o.sd, .bool b.o.ok, .bool b.o.sp, vb, .string b.da]] w fun e w' => e = .returned (.bool false) ∧ Below w.heap.size w w' := by
  have hb1 := bel1 w (.cells #[.int .i64 a.fr, .int .i64 a.dt, .int .i64 a.sq, .int .i64 a.ak, .int .i64 a.fl, .int .i64 a.wi, .int .i64 a.ur, .int .i64 a.o.m, .int .i64 a.o.c, .int .i64 a.o.t, .int .i64 a.o.ec, .bool a.o.sd, .bool a.o.ok, .bool a.o.sp, va, .string a.da] 34)
  have hb2 := bel1 (w.alloc (.cells #[.int .i64 a.fr, .int .i64 a.dt, .int .i64 a.sq, .int .i64 a.ak, .int .i64 a.fl, .int .i64 a.wi, .int .i64 a.ur, .int .i64 a.o.m, .int .i64 a.o.c, .int .i64 a.o.t, .int .i64 a.o.ec, .bool a.o.sd, .bool a.o.ok, .bool a.o.sp, va, .string a.da] 34)) (.cells #[.int .i64 b.fr, .int .i64 b.dt, .int .i64 b.sq, .int .i64 b.ak, .int .i64 b.fl, .int .i64 b.wi, .int .i64 b.ur, .int .i64 b.o.m, .int .i64 b.o.c, .int .i64 b.o.t, .int .i64 b.o.ec, .bool b.o.sd, .bool b.o.ok, .bool b.o.sp, vb, .string b.da] 34)
  have hd : Below ((w.alloc (.cells #[.int .i64 a.fr, .int .i64 a.dt, .int .i64 a.sq, .int .i64 a.ak, .int .i64 a.fl, .int .i64 a.wi, .int .i64 a.ur, .int .i64 a.o.m, .int .i64 a.o.c, .int .i64 a.o.t, .int .i64 a.o.ec, .bool a.o.sd, .bool a.o.ok, .bool a.o.sp, va, .string a.da] 34)).alloc (.cells #[.int .i64 b.fr, .int .i64 b.dt, .int .i64 b.sq, .int .i64 b.ak, .int .i64 b.fl, .int .i64 b.wi, .int .i64 b.ur, .int .i64 b.o.m, .int .i64 b.o.c, .int .i64 b.o.t, .int .i64 b.o.ec, .bool b.o.sd, .bool b.o.ok, .bool b.o.sp, vb, .string b.da] 34)).heap.size ((w.alloc (.cells #[.int .i64 a.fr, .int .i64 a.dt, .int .i64 a.sq, .int .i64 a.ak, .int .i64 a.fl, .int .i64 a.wi, .int .i64 a.ur, .int .i64 a.o.m, .int .i64 a.o.c, .int .i64 a.o.t, .int .i64 a.o.ec, .bool a.o.sd, .bool a.o.ok, .bool a.o.sp, va, .string a.da] 34)).alloc (.cells #[.int .i64 b.fr, .int .i64 b.dt, .int .i64 b.sq, .int .i64 b.ak, .int .i64 b.fl, .int .i64 b.wi, .int .i64 b.ur, .int .i64 b.o.m, .int .i64 b.o.c, .int .i64 b.o.t, .int .i64 b.o.ec, .bool b.o.sd, .bool b.o.ok, .bool b.o.sp, vb, .string b.da] 34)) ((w.alloc (.cells #[.int .i64 a.fr, .int .i64 a.dt, .int .i64 a.sq, .int .i64 a.ak, .int .i64 a.fl, .int .i64 a.wi, .int .i64 a.ur, .int .i64 a.o.m, .int .i64 a.o.c, .int .i64 a.o.t, .int .i64 a.o.ec, .bool a.o.sd, .bool a.o.ok, .bool a.o.sp, va, .string a.da] 34)).alloc (.cells #[.int .i64 b.fr, .int .i64 b.dt, .int .i64 b.sq, .int .i64 b.ak, .int .i64 b.fl, .int .i64 b.wi, .int .i64 b.ur, .int .i64 b.o.m, .int .i64 b.o.c, .int .i64 b.o.t, .int .i64 b.o.ec, .bool b.o.sd, .bool b.o.ok, .bool b.o.sp, vb, .string b.da] 34)).drew := (Below.refl _ _).drew
  have HS0 : Hid (Below w.heap.size w ((w.alloc (.cells #[.int .i64 a.fr, .int .i64 a.dt, .int .i64 a.sq, .int .i64 a.ak, .int .i64 a.fl, .int .i64 a.wi, .int .i64 a.ur, .int .i64 a.o.m, .int .i64 a.o.c, .int .i64 a.o.t, .int .i64 a.o.ec, .bool a.o.sd, .bool a.o.ok, .bool a.o.sp, va, .string a.da] 34)).alloc (.cells #[.int .i64 b.fr, .int .i64 b.dt, .int .i64 b.sq, .int .i64 b.ak, .int .i64 b.fl, .int .i64 b.wi, .int .i64 b.ur, .int .i64 b.o.m, .int .i64 b.o.c, .int .i64 b.o.t, .int .i64 b.o.ec, .bool b.o.sd, .bool b.o.ok, .bool b.o.sp, vb, .string b.da] 34)).drew ∧ At ((w.alloc (.cells #[.int .i64 a.fr, .int .i64 a.dt, .int .i64 a.sq, .int .i64 a.ak, .int .i64 a.fl, .int .i64 a.wi, .int .i64 a.ur, .int .i64 a.o.m, .int .i64 a.o.c, .int .i64 a.o.t, .int .i64 a.o.ec, .bool a.o.sd, .bool a.o.ok, .bool a.o.sp, va, .string a.da] 34)).alloc (.cells #[.int .i64 b.fr, .int .i64 b.dt, .int .i64 b.sq, .int .i64 b.ak, .int .i64 b.fl, .int .i64 b.wi, .int .i64 b.ur, .int .i64 b.o.m, .int .i64 b.o.c, .int .i64 b.o.t, .int .i64 b.o.ec, .bool b.o.sd, .bool b.o.ok, .bool b.o.sp, vb, .string b.da] 34)).drew w.heap.size #[.int .i64 a.fr, .int .i64 a.dt, .int .i64 a.sq, .int .i64 a.ak, .int .i64 a.fl, .int .i64 a.wi, .int .i64 a.ur, .int .i64 a.o.m, .int .i64 a.o.c, .int .i64 a.o.t, .int .i64 a.o.ec, .bool a.o.sd, .bool a.o.ok, .bool a.o.sp, va, .string a.da] ∧ At ((w.alloc (.cells #[.int .i64 a.fr, .int .i64 a.dt, .int .i64 a.sq, .int .i64 a.ak, .int .i64 a.fl, .int .i64 a.wi, .int .i64 a.ur, .int .i64 a.o.m, .int .i64 a.o.c, .int .i64 a.o.t, .int .i64 a.o.ec, .bool a.o.sd, .bool a.o.ok, .bool a.o.sp, va, .string a.da] 34)).alloc (.cells #[.int .i64 b.fr, .int .i64 b.dt, .int .i64 b.sq, .int .i64 b.ak, .int .i64 b.fl, .int .i64 b.wi, .int .i64 b.ur, .int .i64 b.o.m, .int .i64 b.o.c, .int .i64 b.o.t, .int .i64 b.o.ec, .bool b.o.sd, .bool b.o.ok, .bool b.o.sp, vb, .string b.da] 34)).drew (w.heap.size + 1) #[.int .i64 b.fr, .int .i64 b.dt, .int .i64 b.sq, .int .i64 b.ak, .int .i64 b.fl, .int .i64 b.wi, .int .i64 b.ur, .int .i64 b.o.m, .int .i64 b.o.c, .int .i64 b.o.t, .int .i64 b.o.ec, .bool b.o.sd, .bool b.o.ok, .bool b.o.sp, vb, .string b.da] ∧ Rgs ((w.alloc (.cells #[.int .i64 a.fr, .int .i64 a.dt, .int .i64 a.sq, .int .i64 a.ak, .int .i64 a.fl, .int .i64 a.wi, .int .i64 a.ur, .int .i64 a.o.m, .int .i64 a.o.c, .int .i64 a.o.t, .int .i64 a.o.ec, .bool a.o.sd, .bool a.o.ok, .bool a.o.sp, va, .string a.da] 34)).alloc (.cells #[.int .i64 b.fr, .int .i64 b.dt, .int .i64 b.sq, .int .i64 b.ak, .int .i64 b.fl, .int .i64 b.wi, .int .i64 b.ur, .int .i64 b.o.m, .int .i64 b.o.c, .int .i64 b.o.t, .int .i64 b.o.ec, .bool b.o.sd, .bool b.o.ok, .bool b.o.sp, vb, .string b.da] 34)).drew va a.o.rs ∧ Rgs ((w.alloc (.cells #[.int .i64 a.fr, .int .i64 a.dt, .int .i64 a.sq, .int .i64 a.ak, .int .i64 a.fl, .int .i64 a.wi, .int .i64 a.ur, .int .i64 a.o.m, .int .i64 a.o.c, .int .i64 a.o.t, .int .i64 a.o.ec, .bool a.o.sd, .bool a.o.ok, .bool a.o.sp, va, .string a.da] 34)).alloc (.cells #[.int .i64 b.fr, .int .i64 b.dt, .int .i64 b.sq, .int .i64 b.ak, .int .i64 b.fl, .int .i64 b.wi, .int .i64 b.ur, .int .i64 b.o.m, .int .i64 b.o.c, .int .i64 b.o.t, .int .i64 b.o.ec, .bool b.o.sd, .bool b.o.ok, .bool b.o.sp, vb, .string b.da] 34)).drew vb b.o.rs) := ⟨bt (bt hb1 hb2) hd, ((At.box w _ 34).later hb2).later hd, (At.box2 w _ _ 34).later hd, ((hv.later hb1).later hb2).later hd, ((hv'.later hb1).later hb2).later hd⟩
  have HN : Hid (a.o.rs.length ≤ 17592186044416) := hn
  have HN' : Hid (b.o.rs.length ≤ 17592186044416) := hn'
  have heq := fun W => run_eq7 a.fr a.dt a.sq a.ak a.fl a.wi a.ur b.fr b.dt b.sq b.ak b.fl b.wi b.ur W
  rw [show decide (a.fr = b.fr ∧ a.dt = b.dt ∧ a.sq = b.sq ∧ a.ak = b.ak ∧ a.fl = b.fl ∧ a.wi = b.wi ∧ a.ur = b.ur) = true from h1] at heq
  have HEQ : Hid (∀ W, (binOp .eql 102 (.agg #[.int .i64 a.fr, .int .i64 a.dt, .int .i64 a.sq, .int .i64 a.ak, .int .i64 a.fl, .int .i64 a.wi, .int .i64 a.ur]) (.agg #[.int .i64 b.fr, .int .i64 b.dt, .int .i64 b.sq, .int .i64 b.ak, .int .i64 b.fl, .int .i64 b.wi, .int .i64 b.ur])).run Tryz.prog W = .ok (.bool true) W) := heq
  have HOO : Hid (sameO a.o.m a.o.c a.o.t a.o.ec a.o.sd a.o.ok a.o.sp a.o.rs b.o.m b.o.c b.o.t b.o.ec b.o.sd b.o.ok b.o.sp b.o.rs = false) := h2
  clear hb1 hb2 hd hv hv' hn hn' h1 heq
  go_enter Tryz.func21, Tryz.ntmps21
  go_wp2
  refine wp_region_any (by kernel_rfl) ?_
  refine region_facts (fun W => Below w.heap.size w W ∧ At W w.heap.size #[.int .i64 a.fr, .int .i64 a.dt, .int .i64 a.sq, .int .i64 a.ak, .int .i64 a.fl, .int .i64 a.wi, .int .i64 a.ur, .int .i64 a.o.m, .int .i64 a.o.c, .int .i64 a.o.t, .int .i64 a.o.ec, .bool a.o.sd, .bool a.o.ok, .bool a.o.sp, va, .string a.da] ∧ At W (w.heap.size + 1) #[.int .i64 b.fr, .int .i64 b.dt, .int .i64 b.sq, .int .i64 b.ak, .int .i64 b.fl, .int .i64 b.wi, .int .i64 b.ur, .int .i64 b.o.m, .int .i64 b.o.c, .int .i64 b.o.t, .int .i64 b.o.ec, .bool b.o.sd, .bool b.o.ok, .bool b.o.sp, vb, .string b.da] ∧ Rgs W va a.o.rs ∧ Rgs W vb b.o.rs) (GE (fun qq => match qq with | 0 => .agg #[.int .i64 a.fr, .int .i64 a.dt, .int .i64 a.sq, .int .i64 a.ak, .int .i64 a.fl, .int .i64 a.wi, .int .i64 a.ur, .int .i64 a.o.m, .int .i64 a.o.c, .int .i64 a.o.t, .int .i64 a.o.ec, .bool a.o.sd, .bool a.o.ok, .bool a.o.sp, va, .string a.da] | 1 => .agg #[.int .i64 a.fr, .int .i64 a.dt, .int .i64 a.sq, .int .i64 a.ak, .int .i64 a.fl, .int .i64 a.wi, .int .i64 a.ur] | 2 => .agg #[.int .i64 b.fr, .int .i64 b.dt, .int .i64 b.sq, .int .i64 b.ak, .int .i64 b.fl, .int .i64 b.wi, .int .i64 b.ur, .int .i64 b.o.m, .int .i64 b.o.c, .int .i64 b.o.t, .int .i64 b.o.ec, .bool b.o.sd, .bool b.o.ok, .bool b.o.sp, vb, .string b.da] | 3 => .agg #[.int .i64 b.fr, .int .i64 b.dt, .int .i64 b.sq, .int .i64 b.ak, .int .i64 b.fl, .int .i64 b.wi, .int .i64 b.ur] | 4 => .bool true | 5 => .bool true | 6 => .pointer (some ⟨w.heap.size, 7, none⟩) | 7 => .agg #[.int .i64 a.o.m, .int .i64 a.o.c, .int .i64 a.o.t, .int .i64 a.o.ec, .bool a.o.sd, .bool a.o.ok, .bool a.o.sp, va] | 8 => .pointer (some ⟨w.heap.size + 1, 7, none⟩) | 9 => .agg #[.int .i64 b.o.m, .int .i64 b.o.c, .int .i64 b.o.t, .int .i64 b.o.ec, .bool b.o.sd, .bool b.o.ok, .bool b.o.sp, vb] | 10 => .bool false | 11 => .bool false | 12 => .bool false | 18 => .bool false | 19 => .bool false | _ => undef) (fun _ => none)) (n := 24) (by kernel_rfl) rfl (by kernel_rfl) (GE_later _ _ (fun _ _ h => by cases h)) ?_ ?_ HS0.out (Nat.le_refl _)
  · clear HS0
    refine ⟨?_, ?_, ?_, ?_, ?_, ?_, ?_, ?_, ?_, ?_, ?_, ?_, ?_, ?_, ?_, ?_, ?_, ?_, ?_, ?_, trivial⟩
    · intro ac w1 hS hT hB hD K hK
      rw [if_pos (by rfl)]
      have d2 : ac.tmps.getD 2 undef = .pointer (some ⟨w.heap.size, 0, none⟩) := hB 2 (by kernel_rfl)
      clear hB hD hT
      exact wp_load_mid 34 (.tmp 2) rfl (w.heap.size) 0 d2 _ _ hS.2.1.range Tryz.underlying34 rfl size34 (hK _ _ hS (Below.refl _ _) rfl)
    · intro ac w1 hS hT hB hD K hK
      rw [if_pos (by rfl)]
      have d5 : ac.tmps.getD 5 undef = .agg #[.int .i64 a.fr, .int .i64 a.dt, .int .i64 a.sq, .int .i64 a.ak, .int .i64 a.fl, .int .i64 a.wi, .int .i64 a.ur, .int .i64 a.o.m, .int .i64 a.o.c, .int .i64 a.o.t, .int .i64 a.o.ec, .bool a.o.sd, .bool a.o.ok, .bool a.o.sp, va, .string a.da] := hD ⟨0, .data⟩ (by simp) rfl _ 5 rfl rfl
      clear hB hD hT
      go_simp
      refine (numbers_s a va _).mono ?_
      rintro e w' ⟨rfl, hb⟩
      exact hK _ _ (keepS hb hS) hb rfl
    · intro ac w1 hS hT hB hD K hK
      rw [if_pos (by rfl)]
      have d3 : ac.tmps.getD 3 undef = .pointer (some ⟨w.heap.size + 1, 0, none⟩) := hB 3 (by kernel_rfl)
      clear hB hD hT
      exact wp_load_mid 34 (.tmp 3) rfl (w.heap.size + 1) 0 d3 _ _ hS.2.2.1.range Tryz.underlying34 rfl size34 (hK _ _ hS (Below.refl _ _) rfl)
    · intro ac w1 hS hT hB hD K hK
      rw [if_pos (by rfl)]
      have d7 : ac.tmps.getD 7 undef = .agg #[.int .i64 b.fr, .int .i64 b.dt, .int .i64 b.sq, .int .i64 b.ak, .int .i64 b.fl, .int .i64 b.wi, .int .i64 b.ur, .int .i64 b.o.m, .int .i64 b.o.c, .int .i64 b.o.t, .int .i64 b.o.ec, .bool b.o.sd, .bool b.o.ok, .bool b.o.sp, vb, .string b.da] := hD ⟨2, .data⟩ (by simp) rfl _ 7 rfl rfl
      clear hB hD hT
      go_simp
      refine (numbers_s b vb _).mono ?_
      rintro e w' ⟨rfl, hb⟩
      exact hK _ _ (keepS hb hS) hb rfl
    · intro ac w1 hS hT hB hD K hK
      rw [if_pos (by rfl)]
      have d6 : ac.tmps.getD 6 undef = .agg #[.int .i64 a.fr, .int .i64 a.dt, .int .i64 a.sq, .int .i64 a.ak, .int .i64 a.fl, .int .i64 a.wi, .int .i64 a.ur] := hD ⟨1, .data⟩ (by simp) rfl _ 6 rfl rfl
      have d8 : ac.tmps.getD 8 undef = .agg #[.int .i64 b.fr, .int .i64 b.dt, .int .i64 b.sq, .int .i64 b.ak, .int .i64 b.fl, .int .i64 b.wi, .int .i64 b.ur] := hD ⟨3, .data⟩ (by simp) rfl _ 8 rfl rfl
      clear hB hD hT
      have hq := HEQ.out
      go_simp
      exact hK _ _ hS (Below.refl _ _) rfl
    · intro ac w1 hS hT hB hD K hK
      rw [if_pos (by rfl)]
      have d9 : ac.tmps.getD 9 undef = .bool true := hD ⟨4, .data⟩ (by simp) rfl _ 9 rfl rfl
      clear hB hD hT
      go_simp
      exact hK _ _ hS (Below.refl _ _) rfl
    · intro ac w1 hS hT hB hD K hK
      have g10 : ac.tmps.getD 10 undef = .bool true := hD ⟨5, .guard⟩ (by simp) rfl _ 10 rfl rfl
      rw [if_pos (want_t (j := 5) (d := 10) rfl rfl g10)]
      clear g10
      have d2 : ac.tmps.getD 2 undef = .pointer (some ⟨w.heap.size, 0, none⟩) := hB 2 (by kernel_rfl)
      clear hB hD hT
      go_simp
      exact hK _ _ hS (Below.refl _ _) rfl
    · intro ac w1 hS hT hB hD K hK
      have g10 : ac.tmps.getD 10 undef = .bool true := hD ⟨5, .guard⟩ (by simp) rfl _ 10 rfl rfl
      rw [if_pos (want_t (j := 5) (d := 10) rfl rfl g10)]
      clear g10
      have d11 : ac.tmps.getD 11 undef = .pointer (some ⟨w.heap.size, 7, none⟩) := hD ⟨6, .data⟩ (by simp) rfl _ 11 rfl rfl
      clear hB hD hT
      exact wp_load_mid 32 (.tmp 11) rfl (w.heap.size) 7 d11 _ _ hS.2.1.opts Tryz.underlying32 rfl size32 (hK _ _ hS (Below.refl _ _) rfl)
    · intro ac w1 hS hT hB hD K hK
      have g10 : ac.tmps.getD 10 undef = .bool true := hD ⟨5, .guard⟩ (by simp) rfl _ 10 rfl rfl
      rw [if_pos (want_t (j := 5) (d := 10) rfl rfl g10)]
      clear g10
      have d3 : ac.tmps.getD 3 undef = .pointer (some ⟨w.heap.size + 1, 0, none⟩) := hB 3 (by kernel_rfl)
      clear hB hD hT
      go_simp
      exact hK _ _ hS (Below.refl _ _) rfl
    · intro ac w1 hS hT hB hD K hK
      have g10 : ac.tmps.getD 10 undef = .bool true := hD ⟨5, .guard⟩ (by simp) rfl _ 10 rfl rfl
      rw [if_pos (want_t (j := 5) (d := 10) rfl rfl g10)]
      clear g10
      have d13 : ac.tmps.getD 13 undef = .pointer (some ⟨w.heap.size + 1, 7, none⟩) := hD ⟨8, .data⟩ (by simp) rfl _ 13 rfl rfl
      clear hB hD hT
      exact wp_load_mid 32 (.tmp 13) rfl (w.heap.size + 1) 7 d13 _ _ hS.2.2.1.opts Tryz.underlying32 rfl size32 (hK _ _ hS (Below.refl _ _) rfl)
    · intro ac w1 hS hT hB hD K hK
      have g10 : ac.tmps.getD 10 undef = .bool true := hD ⟨5, .guard⟩ (by simp) rfl _ 10 rfl rfl
      rw [if_pos (want_t (j := 5) (d := 10) rfl rfl g10)]
      clear g10
      have d12 : ac.tmps.getD 12 undef = .agg #[.int .i64 a.o.m, .int .i64 a.o.c, .int .i64 a.o.t, .int .i64 a.o.ec, .bool a.o.sd, .bool a.o.ok, .bool a.o.sp, va] := hD ⟨7, .data⟩ (by simp) rfl _ 12 rfl rfl
      have d14 : ac.tmps.getD 14 undef = .agg #[.int .i64 b.o.m, .int .i64 b.o.c, .int .i64 b.o.t, .int .i64 b.o.ec, .bool b.o.sd, .bool b.o.ok, .bool b.o.sp, vb] := hD ⟨9, .data⟩ (by simp) rfl _ 14 rfl rfl
      clear hB hD hT
      go_simp
      have hq := same_any a.o.m a.o.c a.o.t a.o.ec a.o.sd a.o.ok a.o.sp va a.o.rs b.o.m b.o.c b.o.t b.o.ec b.o.sd b.o.ok b.o.sp vb b.o.rs _ hS.2.2.2.1 hS.2.2.2.2 HN.out HN'.out
      rw [HOO.out] at hq
      refine hq.mono ?_
      rintro e w' ⟨rfl, hb⟩
      exact hK _ _ (keepS hb hS) hb rfl
    · intro ac w1 hS hT hB hD K hK
      rw [if_pos (by rfl)]
      have d10 : ac.tmps.getD 10 undef = .bool true := hD ⟨5, .data⟩ (by simp) rfl _ 10 rfl rfl
      have d15 : ac.tmps.getD 15 undef = .bool false := hD ⟨10, .data⟩ (by simp) rfl _ 15 rfl rfl
      clear hB hD hT
      go_simp
      exact hK _ _ hS (Below.refl _ _) rfl
    · intro ac w1 hS hT hB hD K hK
      rw [if_pos (by rfl)]
      have d16 : ac.tmps.getD 16 undef = .bool false := hD ⟨11, .data⟩ (by simp) rfl _ 16 rfl rfl
      clear hB hD hT
      go_simp
      exact hK _ _ hS (Below.refl _ _) rfl
    · intro ac w1 hS hT hB hD K hK
      have g17 : ac.tmps.getD 17 undef = .bool false := hD ⟨12, .guard⟩ (by simp) rfl _ 17 rfl rfl
      rw [if_neg (by rw [want_f (j := 12) (d := 17) rfl rfl g17 (by decide)]; simp)]
      exact hK _ _ hS (Below.refl _ _) rfl
    · intro ac w1 hS hT hB hD K hK
      have g17 : ac.tmps.getD 17 undef = .bool false := hD ⟨12, .guard⟩ (by simp) rfl _ 17 rfl rfl
      rw [if_neg (by rw [want_f (j := 12) (d := 17) rfl rfl g17 (by decide)]; simp)]
      exact hK _ _ hS (Below.refl _ _) rfl
    · intro ac w1 hS hT hB hD K hK
      have g17 : ac.tmps.getD 17 undef = .bool false := hD ⟨12, .guard⟩ (by simp) rfl _ 17 rfl rfl
      rw [if_neg (by rw [want_f (j := 12) (d := 17) rfl rfl g17 (by decide)]; simp)]
      exact hK _ _ hS (Below.refl _ _) rfl
    · intro ac w1 hS hT hB hD K hK
      have g17 : ac.tmps.getD 17 undef = .bool false := hD ⟨12, .guard⟩ (by simp) rfl _ 17 rfl rfl
      rw [if_neg (by rw [want_f (j := 12) (d := 17) rfl rfl g17 (by decide)]; simp)]
      exact hK _ _ hS (Below.refl _ _) rfl
    · intro ac w1 hS hT hB hD K hK
      have g17 : ac.tmps.getD 17 undef = .bool false := hD ⟨12, .guard⟩ (by simp) rfl _ 17 rfl rfl
      rw [if_neg (by rw [want_f (j := 12) (d := 17) rfl rfl g17 (by decide)]; simp)]
      exact hK _ _ hS (Below.refl _ _) rfl
    · intro ac w1 hS hT hB hD K hK
      rw [if_pos (by rfl)]
      have d17 : ac.tmps.getD 17 undef = .bool false := hD ⟨12, .data⟩ (by simp) rfl _ 17 rfl rfl
      have d22 : ac.tmps.getD 22 undef = undef := hD ⟨17, .data⟩ (by simp) rfl _ 22 rfl rfl
      clear hB hD hT
      go_simp
      exact hK _ _ hS (Below.refl _ _) rfl
    · intro ac w1 hS hT hB hD K hK
      rw [if_pos (by rfl)]
      have d23 : ac.tmps.getD 23 undef = .bool false := hD ⟨18, .data⟩ (by simp) rfl _ 23 rfl rfl
      clear hB hD hT
      go_simp
      exact hK _ _ hS (Below.refl _ _) rfl
  · intro ac w1 hS hT hdf hB hF
    clear HS0
    have hfr : ac.tmps = #[.agg #[.int .i64 a.fr, .int .i64 a.dt, .int .i64 a.sq, .int .i64 a.ak, .int .i64 a.fl, .int .i64 a.wi, .int .i64 a.ur, .int .i64 a.o.m, .int .i64 a.o.c, .int .i64 a.o.t, .int .i64 a.o.ec, .bool a.o.sd, .bool a.o.ok, .bool a.o.sp, va, .string a.da], .agg #[.int .i64 b.fr, .int .i64 b.dt, .int .i64 b.sq, .int .i64 b.ak, .int .i64 b.fl, .int .i64 b.wi, .int .i64 b.ur, .int .i64 b.o.m, .int .i64 b.o.c, .int .i64 b.o.t, .int .i64 b.o.ec, .bool b.o.sd, .bool b.o.ok, .bool b.o.sp, vb, .string b.da], .pointer (some ⟨w.heap.size, 0, none⟩), .pointer (some ⟨w.heap.size + 1, 0, none⟩), (ac.tmps.getD 4 undef), (ac.tmps.getD 5 undef), (ac.tmps.getD 6 undef), (ac.tmps.getD 7 undef), (ac.tmps.getD 8 undef), (ac.tmps.getD 9 undef), (ac.tmps.getD 10 undef), (ac.tmps.getD 11 undef), (ac.tmps.getD 12 undef), (ac.tmps.getD 13 undef), (ac.tmps.getD 14 undef), (ac.tmps.getD 15 undef), (ac.tmps.getD 16 undef), (ac.tmps.getD 17 undef), (ac.tmps.getD 18 undef), (ac.tmps.getD 19 undef), (ac.tmps.getD 20 undef), (ac.tmps.getD 21 undef), (ac.tmps.getD 22 undef), (ac.tmps.getD 23 undef)] := (frame_eq hT rfl hB).trans (by kernel_rfl)
    obtain ⟨T, df⟩ := ac
    have s4 : T.getD 4 undef = .bool false := hF 19 _ 4 rfl rfl
    have sdf : df = [] := hdf
    simp only at hfr
    clear hB hF hT hdf
    generalize T.getD 5 undef = y5 at *
    generalize T.getD 6 undef = y6 at *
    generalize T.getD 7 undef = y7 at *
    generalize T.getD 8 undef = y8 at *
    generalize T.getD 9 undef = y9 at *
    generalize T.getD 10 undef = y10 at *
    generalize T.getD 11 undef = y11 at *
    generalize T.getD 12 undef = y12 at *
    generalize T.getD 13 undef = y13 at *
    generalize T.getD 14 undef = y14 at *
    generalize T.getD 15 undef = y15 at *
    generalize T.getD 16 undef = y16 at *
    generalize T.getD 17 undef = y17 at *
    generalize T.getD 18 undef = y18 at *
    generalize T.getD 19 undef = y19 at *
    generalize T.getD 20 undef = y20 at *
    generalize T.getD 21 undef = y21 at *
    generalize T.getD 22 undef = y22 at *
    generalize T.getD 23 undef = y23 at *
    generalize T.getD 4 undef = y4 at *
    subst hfr s4 sdf
    go_wp2
    go_ret
    exact ⟨rfl, hS.1⟩
set_option maxHeartbeats 4000000 in
theorem ssame_nn (a b : Sg) (va vb : Value) (w : World) (hv : Rgs w va a.o.rs) (hv' : Rgs w vb b.o.rs) (hn : a.o.rs.length ≤ 17592186044416) (hn' : b.o.rs.length ≤ 17592186044416) (h1 : sameNG a b = false) :
    Calls Tryz.prog 21 #[.agg #[.int .i64 a.fr, .int .i64 a.dt, .int .i64 a.sq, .int .i64 a.ak, .int .i64 a.fl, .int .i64 a.wi, .int .i64 a.ur, .int .i64 a.o.m, .int .i64 a.o.c, .int .i64 a.o.t, .int .i64 a.o.ec, .bool a.o.sd, .bool a.o.ok, .bool a.o.sp, va, .string a.da], .agg #[.int .i64 b.fr, .int .i64 b.dt, .int .i64 b.sq, .int .i64 b.ak, .int .i64 b.fl, .int .i64 b.wi, .int .i64 b.ur, .int .i64 b.o.m, .int .i64 b.o.c, .int .i64 b.o.t, .int .i64 b.o.ec, .bool b.o.sd, .bool b.o.ok, .bool b.o.sp, vb, .string b.da]] w fun e w' => e = .returned (.bool false) ∧ Below w.heap.size w w' := by
  have hb1 := bel1 w (.cells #[.int .i64 a.fr, .int .i64 a.dt, .int .i64 a.sq, .int .i64 a.ak, .int .i64 a.fl, .int .i64 a.wi, .int .i64 a.ur, .int .i64 a.o.m, .int .i64 a.o.c, .int .i64 a.o.t, .int .i64 a.o.ec, .bool a.o.sd, .bool a.o.ok, .bool a.o.sp, va, .string a.da] 34)
  have hb2 := bel1 (w.alloc (.cells #[.int .i64 a.fr, .int .i64 a.dt, .int .i64 a.sq, .int .i64 a.ak, .int .i64 a.fl, .int .i64 a.wi, .int .i64 a.ur, .int .i64 a.o.m, .int .i64 a.o.c, .int .i64 a.o.t, .int .i64 a.o.ec, .bool a.o.sd, .bool a.o.ok, .bool a.o.sp, va, .string a.da] 34)) (.cells #[.int .i64 b.fr, .int .i64 b.dt, .int .i64 b.sq, .int .i64 b.ak, .int .i64 b.fl, .int .i64 b.wi, .int .i64 b.ur, .int .i64 b.o.m, .int .i64 b.o.c, .int .i64 b.o.t, .int .i64 b.o.ec, .bool b.o.sd, .bool b.o.ok, .bool b.o.sp, vb, .string b.da] 34)
  have hd : Below ((w.alloc (.cells #[.int .i64 a.fr, .int .i64 a.dt, .int .i64 a.sq, .int .i64 a.ak, .int .i64 a.fl, .int .i64 a.wi, .int .i64 a.ur, .int .i64 a.o.m, .int .i64 a.o.c, .int .i64 a.o.t, .int .i64 a.o.ec, .bool a.o.sd, .bool a.o.ok, .bool a.o.sp, va, .string a.da] 34)).alloc (.cells #[.int .i64 b.fr, .int .i64 b.dt, .int .i64 b.sq, .int .i64 b.ak, .int .i64 b.fl, .int .i64 b.wi, .int .i64 b.ur, .int .i64 b.o.m, .int .i64 b.o.c, .int .i64 b.o.t, .int .i64 b.o.ec, .bool b.o.sd, .bool b.o.ok, .bool b.o.sp, vb, .string b.da] 34)).heap.size ((w.alloc (.cells #[.int .i64 a.fr, .int .i64 a.dt, .int .i64 a.sq, .int .i64 a.ak, .int .i64 a.fl, .int .i64 a.wi, .int .i64 a.ur, .int .i64 a.o.m, .int .i64 a.o.c, .int .i64 a.o.t, .int .i64 a.o.ec, .bool a.o.sd, .bool a.o.ok, .bool a.o.sp, va, .string a.da] 34)).alloc (.cells #[.int .i64 b.fr, .int .i64 b.dt, .int .i64 b.sq, .int .i64 b.ak, .int .i64 b.fl, .int .i64 b.wi, .int .i64 b.ur, .int .i64 b.o.m, .int .i64 b.o.c, .int .i64 b.o.t, .int .i64 b.o.ec, .bool b.o.sd, .bool b.o.ok, .bool b.o.sp, vb, .string b.da] 34)) ((w.alloc (.cells #[.int .i64 a.fr, .int .i64 a.dt, .int .i64 a.sq, .int .i64 a.ak, .int .i64 a.fl, .int .i64 a.wi, .int .i64 a.ur, .int .i64 a.o.m, .int .i64 a.o.c, .int .i64 a.o.t, .int .i64 a.o.ec, .bool a.o.sd, .bool a.o.ok, .bool a.o.sp, va, .string a.da] 34)).alloc (.cells #[.int .i64 b.fr, .int .i64 b.dt, .int .i64 b.sq, .int .i64 b.ak, .int .i64 b.fl, .int .i64 b.wi, .int .i64 b.ur, .int .i64 b.o.m, .int .i64 b.o.c, .int .i64 b.o.t, .int .i64 b.o.ec, .bool b.o.sd, .bool b.o.ok, .bool b.o.sp, vb, .string b.da] 34)).drew := (Below.refl _ _).drew
  have HS0 : Hid (Below w.heap.size w ((w.alloc (.cells #[.int .i64 a.fr, .int .i64 a.dt, .int .i64 a.sq, .int .i64 a.ak, .int .i64 a.fl, .int .i64 a.wi, .int .i64 a.ur, .int .i64 a.o.m, .int .i64 a.o.c, .int .i64 a.o.t, .int .i64 a.o.ec, .bool a.o.sd, .bool a.o.ok, .bool a.o.sp, va, .string a.da] 34)).alloc (.cells #[.int .i64 b.fr, .int .i64 b.dt, .int .i64 b.sq, .int .i64 b.ak, .int .i64 b.fl, .int .i64 b.wi, .int .i64 b.ur, .int .i64 b.o.m, .int .i64 b.o.c, .int .i64 b.o.t, .int .i64 b.o.ec, .bool b.o.sd, .bool b.o.ok, .bool b.o.sp, vb, .string b.da] 34)).drew ∧ At ((w.alloc (.cells #[.int .i64 a.fr, .int .i64 a.dt, .int .i64 a.sq, .int .i64 a.ak, .int .i64 a.fl, .int .i64 a.wi, .int .i64 a.ur, .int .i64 a.o.m, .int .i64 a.o.c, .int .i64 a.o.t, .int .i64 a.o.ec, .bool a.o.sd, .bool a.o.ok, .bool a.o.sp, va, .string a.da] 34)).alloc (.cells #[.int .i64 b.fr, .int .i64 b.dt, .int .i64 b.sq, .int .i64 b.ak, .int .i64 b.fl, .int .i64 b.wi, .int .i64 b.ur, .int .i64 b.o.m, .int .i64 b.o.c, .int .i64 b.o.t, .int .i64 b.o.ec, .bool b.o.sd, .bool b.o.ok, .bool b.o.sp, vb, .string b.da] 34)).drew w.heap.size #[.int .i64 a.fr, .int .i64 a.dt, .int .i64 a.sq, .int .i64 a.ak, .int .i64 a.fl, .int .i64 a.wi, .int .i64 a.ur, .int .i64 a.o.m, .int .i64 a.o.c, .int .i64 a.o.t, .int .i64 a.o.ec, .bool a.o.sd, .bool a.o.ok, .bool a.o.sp, va, .string a.da] ∧ At ((w.alloc (.cells #[.int .i64 a.fr, .int .i64 a.dt, .int .i64 a.sq, .int .i64 a.ak, .int .i64 a.fl, .int .i64 a.wi, .int .i64 a.ur, .int .i64 a.o.m, .int .i64 a.o.c, .int .i64 a.o.t, .int .i64 a.o.ec, .bool a.o.sd, .bool a.o.ok, .bool a.o.sp, va, .string a.da] 34)).alloc (.cells #[.int .i64 b.fr, .int .i64 b.dt, .int .i64 b.sq, .int .i64 b.ak, .int .i64 b.fl, .int .i64 b.wi, .int .i64 b.ur, .int .i64 b.o.m, .int .i64 b.o.c, .int .i64 b.o.t, .int .i64 b.o.ec, .bool b.o.sd, .bool b.o.ok, .bool b.o.sp, vb, .string b.da] 34)).drew (w.heap.size + 1) #[.int .i64 b.fr, .int .i64 b.dt, .int .i64 b.sq, .int .i64 b.ak, .int .i64 b.fl, .int .i64 b.wi, .int .i64 b.ur, .int .i64 b.o.m, .int .i64 b.o.c, .int .i64 b.o.t, .int .i64 b.o.ec, .bool b.o.sd, .bool b.o.ok, .bool b.o.sp, vb, .string b.da] ∧ Rgs ((w.alloc (.cells #[.int .i64 a.fr, .int .i64 a.dt, .int .i64 a.sq, .int .i64 a.ak, .int .i64 a.fl, .int .i64 a.wi, .int .i64 a.ur, .int .i64 a.o.m, .int .i64 a.o.c, .int .i64 a.o.t, .int .i64 a.o.ec, .bool a.o.sd, .bool a.o.ok, .bool a.o.sp, va, .string a.da] 34)).alloc (.cells #[.int .i64 b.fr, .int .i64 b.dt, .int .i64 b.sq, .int .i64 b.ak, .int .i64 b.fl, .int .i64 b.wi, .int .i64 b.ur, .int .i64 b.o.m, .int .i64 b.o.c, .int .i64 b.o.t, .int .i64 b.o.ec, .bool b.o.sd, .bool b.o.ok, .bool b.o.sp, vb, .string b.da] 34)).drew va a.o.rs ∧ Rgs ((w.alloc (.cells #[.int .i64 a.fr, .int .i64 a.dt, .int .i64 a.sq, .int .i64 a.ak, .int .i64 a.fl, .int .i64 a.wi, .int .i64 a.ur, .int .i64 a.o.m, .int .i64 a.o.c, .int .i64 a.o.t, .int .i64 a.o.ec, .bool a.o.sd, .bool a.o.ok, .bool a.o.sp, va, .string a.da] 34)).alloc (.cells #[.int .i64 b.fr, .int .i64 b.dt, .int .i64 b.sq, .int .i64 b.ak, .int .i64 b.fl, .int .i64 b.wi, .int .i64 b.ur, .int .i64 b.o.m, .int .i64 b.o.c, .int .i64 b.o.t, .int .i64 b.o.ec, .bool b.o.sd, .bool b.o.ok, .bool b.o.sp, vb, .string b.da] 34)).drew vb b.o.rs) := ⟨bt (bt hb1 hb2) hd, ((At.box w _ 34).later hb2).later hd, (At.box2 w _ _ 34).later hd, ((hv.later hb1).later hb2).later hd, ((hv'.later hb1).later hb2).later hd⟩
  have HN : Hid (a.o.rs.length ≤ 17592186044416) := hn
  have HN' : Hid (b.o.rs.length ≤ 17592186044416) := hn'
  have heq := fun W => run_eq7 a.fr a.dt a.sq a.ak a.fl a.wi a.ur b.fr b.dt b.sq b.ak b.fl b.wi b.ur W
  rw [show decide (a.fr = b.fr ∧ a.dt = b.dt ∧ a.sq = b.sq ∧ a.ak = b.ak ∧ a.fl = b.fl ∧ a.wi = b.wi ∧ a.ur = b.ur) = false from h1] at heq
  have HEQ : Hid (∀ W, (binOp .eql 102 (.agg #[.int .i64 a.fr, .int .i64 a.dt, .int .i64 a.sq, .int .i64 a.ak, .int .i64 a.fl, .int .i64 a.wi, .int .i64 a.ur]) (.agg #[.int .i64 b.fr, .int .i64 b.dt, .int .i64 b.sq, .int .i64 b.ak, .int .i64 b.fl, .int .i64 b.wi, .int .i64 b.ur])).run Tryz.prog W = .ok (.bool false) W) := heq
  clear hb1 hb2 hd hv hv' hn hn' h1 heq
  go_enter Tryz.func21, Tryz.ntmps21
  go_wp2
  refine wp_region_any (by kernel_rfl) ?_
  refine region_facts (fun W => Below w.heap.size w W ∧ At W w.heap.size #[.int .i64 a.fr, .int .i64 a.dt, .int .i64 a.sq, .int .i64 a.ak, .int .i64 a.fl, .int .i64 a.wi, .int .i64 a.ur, .int .i64 a.o.m, .int .i64 a.o.c, .int .i64 a.o.t, .int .i64 a.o.ec, .bool a.o.sd, .bool a.o.ok, .bool a.o.sp, va, .string a.da] ∧ At W (w.heap.size + 1) #[.int .i64 b.fr, .int .i64 b.dt, .int .i64 b.sq, .int .i64 b.ak, .int .i64 b.fl, .int .i64 b.wi, .int .i64 b.ur, .int .i64 b.o.m, .int .i64 b.o.c, .int .i64 b.o.t, .int .i64 b.o.ec, .bool b.o.sd, .bool b.o.ok, .bool b.o.sp, vb, .string b.da] ∧ Rgs W va a.o.rs ∧ Rgs W vb b.o.rs) (GE (fun qq => match qq with | 0 => .agg #[.int .i64 a.fr, .int .i64 a.dt, .int .i64 a.sq, .int .i64 a.ak, .int .i64 a.fl, .int .i64 a.wi, .int .i64 a.ur, .int .i64 a.o.m, .int .i64 a.o.c, .int .i64 a.o.t, .int .i64 a.o.ec, .bool a.o.sd, .bool a.o.ok, .bool a.o.sp, va, .string a.da] | 1 => .agg #[.int .i64 a.fr, .int .i64 a.dt, .int .i64 a.sq, .int .i64 a.ak, .int .i64 a.fl, .int .i64 a.wi, .int .i64 a.ur] | 2 => .agg #[.int .i64 b.fr, .int .i64 b.dt, .int .i64 b.sq, .int .i64 b.ak, .int .i64 b.fl, .int .i64 b.wi, .int .i64 b.ur, .int .i64 b.o.m, .int .i64 b.o.c, .int .i64 b.o.t, .int .i64 b.o.ec, .bool b.o.sd, .bool b.o.ok, .bool b.o.sp, vb, .string b.da] | 3 => .agg #[.int .i64 b.fr, .int .i64 b.dt, .int .i64 b.sq, .int .i64 b.ak, .int .i64 b.fl, .int .i64 b.wi, .int .i64 b.ur] | 4 => .bool false | 5 => .bool false | 11 => .bool false | 12 => .bool false | 18 => .bool false | 19 => .bool false | _ => undef) (fun _ => none)) (n := 24) (by kernel_rfl) rfl (by kernel_rfl) (GE_later _ _ (fun _ _ h => by cases h)) ?_ ?_ HS0.out (Nat.le_refl _)
  · clear HS0
    refine ⟨?_, ?_, ?_, ?_, ?_, ?_, ?_, ?_, ?_, ?_, ?_, ?_, ?_, ?_, ?_, ?_, ?_, ?_, ?_, ?_, trivial⟩
    · intro ac w1 hS hT hB hD K hK
      rw [if_pos (by rfl)]
      have d2 : ac.tmps.getD 2 undef = .pointer (some ⟨w.heap.size, 0, none⟩) := hB 2 (by kernel_rfl)
      clear hB hD hT
      exact wp_load_mid 34 (.tmp 2) rfl (w.heap.size) 0 d2 _ _ hS.2.1.range Tryz.underlying34 rfl size34 (hK _ _ hS (Below.refl _ _) rfl)
    · intro ac w1 hS hT hB hD K hK
      rw [if_pos (by rfl)]
      have d5 : ac.tmps.getD 5 undef = .agg #[.int .i64 a.fr, .int .i64 a.dt, .int .i64 a.sq, .int .i64 a.ak, .int .i64 a.fl, .int .i64 a.wi, .int .i64 a.ur, .int .i64 a.o.m, .int .i64 a.o.c, .int .i64 a.o.t, .int .i64 a.o.ec, .bool a.o.sd, .bool a.o.ok, .bool a.o.sp, va, .string a.da] := hD ⟨0, .data⟩ (by simp) rfl _ 5 rfl rfl
      clear hB hD hT
      go_simp
      refine (numbers_s a va _).mono ?_
      rintro e w' ⟨rfl, hb⟩
      exact hK _ _ (keepS hb hS) hb rfl
    · intro ac w1 hS hT hB hD K hK
      rw [if_pos (by rfl)]
      have d3 : ac.tmps.getD 3 undef = .pointer (some ⟨w.heap.size + 1, 0, none⟩) := hB 3 (by kernel_rfl)
      clear hB hD hT
      exact wp_load_mid 34 (.tmp 3) rfl (w.heap.size + 1) 0 d3 _ _ hS.2.2.1.range Tryz.underlying34 rfl size34 (hK _ _ hS (Below.refl _ _) rfl)
    · intro ac w1 hS hT hB hD K hK
      rw [if_pos (by rfl)]
      have d7 : ac.tmps.getD 7 undef = .agg #[.int .i64 b.fr, .int .i64 b.dt, .int .i64 b.sq, .int .i64 b.ak, .int .i64 b.fl, .int .i64 b.wi, .int .i64 b.ur, .int .i64 b.o.m, .int .i64 b.o.c, .int .i64 b.o.t, .int .i64 b.o.ec, .bool b.o.sd, .bool b.o.ok, .bool b.o.sp, vb, .string b.da] := hD ⟨2, .data⟩ (by simp) rfl _ 7 rfl rfl
      clear hB hD hT
      go_simp
      refine (numbers_s b vb _).mono ?_
      rintro e w' ⟨rfl, hb⟩
      exact hK _ _ (keepS hb hS) hb rfl
    · intro ac w1 hS hT hB hD K hK
      rw [if_pos (by rfl)]
      have d6 : ac.tmps.getD 6 undef = .agg #[.int .i64 a.fr, .int .i64 a.dt, .int .i64 a.sq, .int .i64 a.ak, .int .i64 a.fl, .int .i64 a.wi, .int .i64 a.ur] := hD ⟨1, .data⟩ (by simp) rfl _ 6 rfl rfl
      have d8 : ac.tmps.getD 8 undef = .agg #[.int .i64 b.fr, .int .i64 b.dt, .int .i64 b.sq, .int .i64 b.ak, .int .i64 b.fl, .int .i64 b.wi, .int .i64 b.ur] := hD ⟨3, .data⟩ (by simp) rfl _ 8 rfl rfl
      clear hB hD hT
      have hq := HEQ.out
      go_simp
      exact hK _ _ hS (Below.refl _ _) rfl
    · intro ac w1 hS hT hB hD K hK
      rw [if_pos (by rfl)]
      have d9 : ac.tmps.getD 9 undef = .bool false := hD ⟨4, .data⟩ (by simp) rfl _ 9 rfl rfl
      clear hB hD hT
      go_simp
      exact hK _ _ hS (Below.refl _ _) rfl
    · intro ac w1 hS hT hB hD K hK
      have g10 : ac.tmps.getD 10 undef = .bool false := hD ⟨5, .guard⟩ (by simp) rfl _ 10 rfl rfl
      rw [if_neg (by rw [want_f (j := 5) (d := 10) rfl rfl g10 (by decide)]; simp)]
      exact hK _ _ hS (Below.refl _ _) rfl
    · intro ac w1 hS hT hB hD K hK
      have g10 : ac.tmps.getD 10 undef = .bool false := hD ⟨5, .guard⟩ (by simp) rfl _ 10 rfl rfl
      rw [if_neg (by rw [want_f (j := 5) (d := 10) rfl rfl g10 (by decide)]; simp)]
      exact hK _ _ hS (Below.refl _ _) rfl
    · intro ac w1 hS hT hB hD K hK
      have g10 : ac.tmps.getD 10 undef = .bool false := hD ⟨5, .guard⟩ (by simp) rfl _ 10 rfl rfl
      rw [if_neg (by rw [want_f (j := 5) (d := 10) rfl rfl g10 (by decide)]; simp)]
      exact hK _ _ hS (Below.refl _ _) rfl
    · intro ac w1 hS hT hB hD K hK
      have g10 : ac.tmps.getD 10 undef = .bool false := hD ⟨5, .guard⟩ (by simp) rfl _ 10 rfl rfl
      rw [if_neg (by rw [want_f (j := 5) (d := 10) rfl rfl g10 (by decide)]; simp)]
      exact hK _ _ hS (Below.refl _ _) rfl
    · intro ac w1 hS hT hB hD K hK
      have g10 : ac.tmps.getD 10 undef = .bool false := hD ⟨5, .guard⟩ (by simp) rfl _ 10 rfl rfl
      rw [if_neg (by rw [want_f (j := 5) (d := 10) rfl rfl g10 (by decide)]; simp)]
      exact hK _ _ hS (Below.refl _ _) rfl
    · intro ac w1 hS hT hB hD K hK
      rw [if_pos (by rfl)]
      have d10 : ac.tmps.getD 10 undef = .bool false := hD ⟨5, .data⟩ (by simp) rfl _ 10 rfl rfl
      have d15 : ac.tmps.getD 15 undef = undef := hD ⟨10, .data⟩ (by simp) rfl _ 15 rfl rfl
      clear hB hD hT
      go_simp
      exact hK _ _ hS (Below.refl _ _) rfl
    · intro ac w1 hS hT hB hD K hK
      rw [if_pos (by rfl)]
      have d16 : ac.tmps.getD 16 undef = .bool false := hD ⟨11, .data⟩ (by simp) rfl _ 16 rfl rfl
      clear hB hD hT
      go_simp
      exact hK _ _ hS (Below.refl _ _) rfl
    · intro ac w1 hS hT hB hD K hK
      have g17 : ac.tmps.getD 17 undef = .bool false := hD ⟨12, .guard⟩ (by simp) rfl _ 17 rfl rfl
      rw [if_neg (by rw [want_f (j := 12) (d := 17) rfl rfl g17 (by decide)]; simp)]
      exact hK _ _ hS (Below.refl _ _) rfl
    · intro ac w1 hS hT hB hD K hK
      have g17 : ac.tmps.getD 17 undef = .bool false := hD ⟨12, .guard⟩ (by simp) rfl _ 17 rfl rfl
      rw [if_neg (by rw [want_f (j := 12) (d := 17) rfl rfl g17 (by decide)]; simp)]
      exact hK _ _ hS (Below.refl _ _) rfl
    · intro ac w1 hS hT hB hD K hK
      have g17 : ac.tmps.getD 17 undef = .bool false := hD ⟨12, .guard⟩ (by simp) rfl _ 17 rfl rfl
      rw [if_neg (by rw [want_f (j := 12) (d := 17) rfl rfl g17 (by decide)]; simp)]
      exact hK _ _ hS (Below.refl _ _) rfl
    · intro ac w1 hS hT hB hD K hK
      have g17 : ac.tmps.getD 17 undef = .bool false := hD ⟨12, .guard⟩ (by simp) rfl _ 17 rfl rfl
      rw [if_neg (by rw [want_f (j := 12) (d := 17) rfl rfl g17 (by decide)]; simp)]
      exact hK _ _ hS (Below.refl _ _) rfl
    · intro ac w1 hS hT hB hD K hK
      have g17 : ac.tmps.getD 17 undef = .bool false := hD ⟨12, .guard⟩ (by simp) rfl _ 17 rfl rfl
      rw [if_neg (by rw [want_f (j := 12) (d := 17) rfl rfl g17 (by decide)]; simp)]
      exact hK _ _ hS (Below.refl _ _) rfl
    · intro ac w1 hS hT hB hD K hK
      rw [if_pos (by rfl)]
      have d17 : ac.tmps.getD 17 undef = .bool false := hD ⟨12, .data⟩ (by simp) rfl _ 17 rfl rfl
      have d22 : ac.tmps.getD 22 undef = undef := hD ⟨17, .data⟩ (by simp) rfl _ 22 rfl rfl
      clear hB hD hT
      go_simp
      exact hK _ _ hS (Below.refl _ _) rfl
    · intro ac w1 hS hT hB hD K hK
      rw [if_pos (by rfl)]
      have d23 : ac.tmps.getD 23 undef = .bool false := hD ⟨18, .data⟩ (by simp) rfl _ 23 rfl rfl
      clear hB hD hT
      go_simp
      exact hK _ _ hS (Below.refl _ _) rfl
  · intro ac w1 hS hT hdf hB hF
    clear HS0
    have hfr : ac.tmps = #[.agg #[.int .i64 a.fr, .int .i64 a.dt, .int .i64 a.sq, .int .i64 a.ak, .int .i64 a.fl, .int .i64 a.wi, .int .i64 a.ur, .int .i64 a.o.m, .int .i64 a.o.c, .int .i64 a.o.t, .int .i64 a.o.ec, .bool a.o.sd, .bool a.o.ok, .bool a.o.sp, va, .string a.da], .agg #[.int .i64 b.fr, .int .i64 b.dt, .int .i64 b.sq, .int .i64 b.ak, .int .i64 b.fl, .int .i64 b.wi, .int .i64 b.ur, .int .i64 b.o.m, .int .i64 b.o.c, .int .i64 b.o.t, .int .i64 b.o.ec, .bool b.o.sd, .bool b.o.ok, .bool b.o.sp, vb, .string b.da], .pointer (some ⟨w.heap.size, 0, none⟩), .pointer (some ⟨w.heap.size + 1, 0, none⟩), (ac.tmps.getD 4 undef), (ac.tmps.getD 5 undef), (ac.tmps.getD 6 undef), (ac.tmps.getD 7 undef), (ac.tmps.getD 8 undef), (ac.tmps.getD 9 undef), (ac.tmps.getD 10 undef), (ac.tmps.getD 11 undef), (ac.tmps.getD 12 undef), (ac.tmps.getD 13 undef), (ac.tmps.getD 14 undef), (ac.tmps.getD 15 undef), (ac.tmps.getD 16 undef), (ac.tmps.getD 17 undef), (ac.tmps.getD 18 undef), (ac.tmps.getD 19 undef), (ac.tmps.getD 20 undef), (ac.tmps.getD 21 undef), (ac.tmps.getD 22 undef), (ac.tmps.getD 23 undef)] := (frame_eq hT rfl hB).trans (by kernel_rfl)
    obtain ⟨T, df⟩ := ac
    have s4 : T.getD 4 undef = .bool false := hF 19 _ 4 rfl rfl
    have sdf : df = [] := hdf
    simp only at hfr
    clear hB hF hT hdf
    generalize T.getD 5 undef = y5 at *
    generalize T.getD 6 undef = y6 at *
    generalize T.getD 7 undef = y7 at *
    generalize T.getD 8 undef = y8 at *
    generalize T.getD 9 undef = y9 at *
    generalize T.getD 10 undef = y10 at *
    generalize T.getD 11 undef = y11 at *
    generalize T.getD 12 undef = y12 at *
    generalize T.getD 13 undef = y13 at *
    generalize T.getD 14 undef = y14 at *
    generalize T.getD 15 undef = y15 at *
    generalize T.getD 16 undef = y16 at *
    generalize T.getD 17 undef = y17 at *
    generalize T.getD 18 undef = y18 at *
    generalize T.getD 19 undef = y19 at *
    generalize T.getD 20 undef = y20 at *
    generalize T.getD 21 undef = y21 at *
    generalize T.getD 22 undef = y22 at *
    generalize T.getD 23 undef = y23 at *
    generalize T.getD 4 undef = y4 at *
    subst hfr s4 sdf
    go_wp2
    go_ret
    exact ⟨rfl, hS.1⟩
theorem same_s (a b : Sg) (va vb : Value) (w : World) (hv : Rgs w va a.o.rs) (hv' : Rgs w vb b.o.rs) (hn : a.o.rs.length ≤ 17592186044416) (hn' : b.o.rs.length ≤ 17592186044416) :
    Calls Tryz.prog 21 #[.agg #[.int .i64 a.fr, .int .i64 a.dt, .int .i64 a.sq, .int .i64 a.ak, .int .i64 a.fl, .int .i64 a.wi, .int .i64 a.ur, .int .i64 a.o.m, .int .i64 a.o.c, .int .i64 a.o.t, .int .i64 a.o.ec, .bool a.o.sd, .bool a.o.ok, .bool a.o.sp, va, .string a.da], .agg #[.int .i64 b.fr, .int .i64 b.dt, .int .i64 b.sq, .int .i64 b.ak, .int .i64 b.fl, .int .i64 b.wi, .int .i64 b.ur, .int .i64 b.o.m, .int .i64 b.o.c, .int .i64 b.o.t, .int .i64 b.o.ec, .bool b.o.sd, .bool b.o.ok, .bool b.o.sp, vb, .string b.da]] w fun e w' => e = .returned (.bool (sameG a b)) ∧ Below w.heap.size w w' := by
  rcases Bool.eq_false_or_eq_true (sameNG a b) with h1 | h1
  · rcases Bool.eq_false_or_eq_true (sameOO a.o b.o) with h2 | h2
    · have : sameG a b = decide (a.da = b.da) := by unfold sameG; rw [h1, h2]; rfl
      rw [this]
      exact ssame_yy a b va vb w hv hv' hn hn' h1 h2
    · have : sameG a b = false := by unfold sameG; rw [h1, h2]; rfl
      rw [this]
      exact ssame_yn a b va vb w hv hv' hn hn' h1 h2
  · have : sameG a b = false := by unfold sameG; rw [h1]; rfl
    rw [this]
    exact ssame_nn a b va vb w hv hv' hn hn' h1
end Go.Proofs.YtkpdmgoldngdaaaGreatDoor
