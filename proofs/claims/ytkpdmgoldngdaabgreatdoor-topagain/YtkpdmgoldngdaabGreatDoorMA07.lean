/- the texts Sa, Sb, Sc, Ta, Se, Tb, in part, merged by program -/
import Derived.Test.YtkpdmgoldngdaabGreatDoorProg
import Derived.Test.YtkpdmgoldngdaabGreatDoorRows
import Derived.Deep.MidRow
import Derived.WalkKit
import Derived.WalkSpells
import Derived.RegionTactic
import Derived.Below
import Derived.Laws.OwnMore
import Derived.Laws.AppendOwn
import Derived.Laws.AppendOwnNone
import Derived.Deep.LoopGhost
import Derived.Deep.RegionHeld3
import Derived.Deep.QuietTactic
import Derived.BigQuiet
import Derived.WalkSmall
import Derived.Laws.StructEq
import Derived.Shelf.Strings.Repeat
import Derived.Deep.RegionWith
import Derived.LoopN
import Derived.Deep.Cut
import Derived.Laws.Tables
import Derived.Great.BuildSlice
import Derived.BigRegion
import Derived.Deep.Light
import Derived.Test.YtkpdmgoldngdaabGreatDoorMA01
import Derived.Test.YtkpdmgoldngdaabGreatDoorMA04
import Derived.Test.YtkpdmgoldngdaabGreatDoorMA05
import Derived.Test.YtkpdmgoldngdaabGreatDoorMA06
namespace Go.Proofs.YtkpdmgoldngdaabGreatDoor
open Go.RowKit
set_option maxRecDepth 100000
set_option linter.unusedVariables false

structure Sg where
  fr : Int
  dt : Int
  sq : Int
  ak : Int
  fl : Int
  wi : Int
  ur : Int
  o : Op
  da : ByteArray
theorem At.sixteen {W : World} {b : Nat} {v0 v1 v2 v3 v4 v5 v6 v7 v8 v9 v10 v11 v12 v13 v14 v15 : Value} (h : At W b #[v0, v1, v2, v3, v4, v5, v6, v7, v8, v9, v10, v11, v12, v13, v14, v15]) : (W.cell? ⟨b, 0, none⟩ = some v0 ∧ W.cell? ⟨b, 1, none⟩ = some v1 ∧ W.cell? ⟨b, 2, none⟩ = some v2 ∧ W.cell? ⟨b, 3, none⟩ = some v3 ∧ W.cell? ⟨b, 4, none⟩ = some v4 ∧ W.cell? ⟨b, 5, none⟩ = some v5 ∧ W.cell? ⟨b, 6, none⟩ = some v6 ∧ W.cell? ⟨b, 7, none⟩ = some v7 ∧ W.cell? ⟨b, 8, none⟩ = some v8 ∧ W.cell? ⟨b, 9, none⟩ = some v9 ∧ W.cell? ⟨b, 10, none⟩ = some v10 ∧ W.cell? ⟨b, 11, none⟩ = some v11 ∧ W.cell? ⟨b, 12, none⟩ = some v12 ∧ W.cell? ⟨b, 13, none⟩ = some v13 ∧ W.cell? ⟨b, 14, none⟩ = some v14 ∧ W.cell? ⟨b, 15, none⟩ = some v15) ∧ (W.frozen? ⟨b, 0, none⟩ = false ∧ W.frozen? ⟨b, 1, none⟩ = false ∧ W.frozen? ⟨b, 2, none⟩ = false ∧ W.frozen? ⟨b, 3, none⟩ = false ∧ W.frozen? ⟨b, 4, none⟩ = false ∧ W.frozen? ⟨b, 5, none⟩ = false ∧ W.frozen? ⟨b, 6, none⟩ = false ∧ W.frozen? ⟨b, 7, none⟩ = false ∧ W.frozen? ⟨b, 8, none⟩ = false ∧ W.frozen? ⟨b, 9, none⟩ = false ∧ W.frozen? ⟨b, 10, none⟩ = false ∧ W.frozen? ⟨b, 11, none⟩ = false ∧ W.frozen? ⟨b, 12, none⟩ = false ∧ W.frozen? ⟨b, 13, none⟩ = false ∧ W.frozen? ⟨b, 14, none⟩ = false ∧ W.frozen? ⟨b, 15, none⟩ = false) ∧ b < W.heap.size :=
  ⟨⟨(h.2 0 _ rfl).1, (h.2 1 _ rfl).1, (h.2 2 _ rfl).1, (h.2 3 _ rfl).1, (h.2 4 _ rfl).1, (h.2 5 _ rfl).1, (h.2 6 _ rfl).1, (h.2 7 _ rfl).1, (h.2 8 _ rfl).1, (h.2 9 _ rfl).1, (h.2 10 _ rfl).1, (h.2 11 _ rfl).1, (h.2 12 _ rfl).1, (h.2 13 _ rfl).1, (h.2 14 _ rfl).1, (h.2 15 _ rfl).1⟩, ⟨(h.2 0 _ rfl).2, (h.2 1 _ rfl).2, (h.2 2 _ rfl).2, (h.2 3 _ rfl).2, (h.2 4 _ rfl).2, (h.2 5 _ rfl).2, (h.2 6 _ rfl).2, (h.2 7 _ rfl).2, (h.2 8 _ rfl).2, (h.2 9 _ rfl).2, (h.2 10 _ rfl).2, (h.2 11 _ rfl).2, (h.2 12 _ rfl).2, (h.2 13 _ rfl).2, (h.2 14 _ rfl).2, (h.2 15 _ rfl).2⟩, h.1⟩
theorem At.range {W : World} {b : Nat} {vs : Array Value} (h : At W b vs) : W.rangeAt b 0 vs.toList := fun j v hv => by rw [Nat.zero_add]; exact (h.2 j v (by simpa using hv)).1
theorem wpList_loadG {P : Program} {ops : Array Oper} {rest : List Oper} {op : Oper} {a : Act} {w : World} {Q : Exit → Act → World → Prop} (ty : TypeId) (x : Operand) (ho : op.op = .load ty x) (hw : Region.wanted op (yielded ops a.tmps) = true)
    (b o : Nat) (hx : a.eval x = .pointer (some ⟨b, o, none⟩)) (cs : List Value) (d : TypeDesc) (hc : w.rangeAt b o cs)
    (hu : P.underlying ty = some d) (hd : d.isRow = true) (hi : (P.info? ty).map (·.size) = some cs.length)
    (h : wpList P ops Q rest (a.put op.dst (.agg cs.toArray)) w) : wpList P ops Q (op :: rest) a w :=
  wpList_step fun K hK => by rw [if_pos hw]; exact wp_load_mid ty x ho b o hx cs d hc hu hd hi (hK _ _ h)
theorem size35 : (Tryz.prog.info? 35).map (·.size) = some 16 := by kernel_rfl
def hasV (f k : Int) : Bool := bits .and .i64 f k == k
def preG (s : Sg) : Bool := fitsB s.fr 65535 && fitsB s.dt 65535 && numB s.sq && numB s.ak && fitsB s.fl 63 && fitsB s.wi 65535 && fitsB s.ur 65535
def mayG (s : Sg) : Bool := preG s && (hasV s.fl 16 || decide (s.ak = 0)) && (hasV s.fl 32 || decide (s.ur = 0)) && s.o.may && decide (s.da.size ≤ 1480)
theorem fits_s (n most : Int) (w : World) : Calls Tryz.prog 32 #[.int .i64 n, .int .i64 most] w fun e w' => e = .returned (.bool (fitsB n most)) ∧ w' = w := by
  unfold fitsB
  by_cases h0 : 0 ≤ n
  · by_cases h1 : n ≤ most
    · rw [decide_eq_true ⟨h0, h1⟩]
      go_enter Tryz.func32, Tryz.ntmps32
      go_wp2
      go_ret
      exact ⟨by first | rfl | (simp; omega), rfl⟩
    · rw [decide_eq_false (fun h => h1 h.2)]
      go_enter Tryz.func32, Tryz.ntmps32
      go_wp2
      go_ret
      exact ⟨by first | rfl | (simp; omega), rfl⟩
  · rw [decide_eq_false (fun h => h0 h.1)]
    go_enter Tryz.func32, Tryz.ntmps32
    go_wp2
    go_ret
    exact ⟨rfl, rfl⟩
theorem fs_t {n most : Int} (w : World) (h : fitsB n most = true) : Calls Tryz.prog 32 #[.int .i64 n, .int .i64 most] w fun e w' => e = .returned (.bool true) ∧ w' = w := by have := fits_s n most w; rw [h] at this; exact this
theorem fs_f {n most : Int} (w : World) (h : fitsB n most = false) : Calls Tryz.prog 32 #[.int .i64 n, .int .i64 most] w fun e w' => e = .returned (.bool false) ∧ w' = w := by have := fits_s n most w; rw [h] at this; exact this
theorem number_s (n : Int) (w : World) : Calls Tryz.prog 33 #[.int .i64 n] w fun e w' => e = .returned (.bool (numB n)) ∧ w' = w := by
  have hc := check_any n w
  rcases Bool.eq_false_or_eq_true (numB n) with h | h
  all_goals
    rw [h] at hc ⊢
    go_enter Tryz.func33, Tryz.ntmps33
    go_wp2_with fail
    refine hc.mono ?_
    rintro e w' ⟨rfl, rfl⟩
    go_wp2
    go_ret
    exact ⟨rfl, rfl⟩
theorem nm_t {n : Int} (w : World) (h : numB n = true) : Calls Tryz.prog 33 #[.int .i64 n] w fun e w' => e = .returned (.bool true) ∧ w' = w := by have := number_s n w; rw [h] at this; exact this
theorem nm_f {n : Int} (w : World) (h : numB n = false) : Calls Tryz.prog 33 #[.int .i64 n] w fun e w' => e = .returned (.bool false) ∧ w' = w := by have := number_s n w; rw [h] at this; exact this
theorem addr_any (f t : Int) (w : World) : Calls Tryz.prog 14 #[.int .i64 f, .int .i64 t] w fun e w' => e = .returned (.bool (numB f && numB t)) ∧ w' = w := by
  have e1 : fitsB f 4294967295 = numB f := rfl
  have e2 : fitsB t 4294967295 = numB t := rfl
  rw [← e1, ← e2]
  rcases Bool.eq_false_or_eq_true (fitsB f 4294967295) with h | h
  all_goals
    rcases Bool.eq_false_or_eq_true (fitsB t 4294967295) with h2 | h2
    all_goals
      rw [h, h2]
      go_enter Tryz.func14, Tryz.ntmps14
      go_wp2_with (first | (go_at_call 32; refine (fs_t _ (by assumption)).mono ?_; rintro e w' ⟨rfl, rfl⟩) | (go_at_call 32; refine (fs_f _ (by assumption)).mono ?_; rintro e w' ⟨rfl, rfl⟩))
      go_ret
      exact ⟨rfl, rfl⟩
theorem has_any (s : Sg) (v : Value) (k : Int) (w : World) : Calls Tryz.prog 34 #[.agg #[.int .i64 s.fr, .int .i64 s.dt, .int .i64 s.sq, .int .i64 s.ak, .int .i64 s.fl, .int .i64 s.wi, .int .i64 s.ur, .int .i64 s.o.m, .int .i64 s.o.c, .int .i64 s.o.t, .int .i64 s.o.ec, .bool s.o.sd, .bool s.o.ok, .bool s.o.sp, v, .string s.da], .int .i64 k] w fun e w' => e = .returned (.bool (hasV s.fl k)) ∧ Below w.heap.size w w' := by
  obtain ⟨⟨c0, c1, c2, c3, c4, c5, c6, c7, c8, c9, c10, c11, c12, c13, c14, c15⟩, -, -⟩ := (At.box w #[.int .i64 s.fr, .int .i64 s.dt, .int .i64 s.sq, .int .i64 s.ak, .int .i64 s.fl, .int .i64 s.wi, .int .i64 s.ur, .int .i64 s.o.m, .int .i64 s.o.c, .int .i64 s.o.t, .int .i64 s.o.ec, .bool s.o.sd, .bool s.o.ok, .bool s.o.sp, v, .string s.da] 35).sixteen
  have hl := bel1 w (.cells #[.int .i64 s.fr, .int .i64 s.dt, .int .i64 s.sq, .int .i64 s.ak, .int .i64 s.fl, .int .i64 s.wi, .int .i64 s.ur, .int .i64 s.o.m, .int .i64 s.o.c, .int .i64 s.o.t, .int .i64 s.o.ec, .bool s.o.sd, .bool s.o.ok, .bool s.o.sp, v, .string s.da] 35)
  go_enter Tryz.func34, Tryz.ntmps34
  go_wp2
  go_ret
  exact ⟨rfl, hl⟩
theorem has_t (s : Sg) (v : Value) (k : Int) (w : World) (h : hasV s.fl k = true) : Calls Tryz.prog 34 #[.agg #[.int .i64 s.fr, .int .i64 s.dt, .int .i64 s.sq, .int .i64 s.ak, .int .i64 s.fl, .int .i64 s.wi, .int .i64 s.ur, .int .i64 s.o.m, .int .i64 s.o.c, .int .i64 s.o.t, .int .i64 s.o.ec, .bool s.o.sd, .bool s.o.ok, .bool s.o.sp, v, .string s.da], .int .i64 k] w fun e w' => e = .returned (.bool true) ∧ Below w.heap.size w w' := by have := has_any s v k w; rw [h] at this; exact this
theorem has_f (s : Sg) (v : Value) (k : Int) (w : World) (h : hasV s.fl k = false) : Calls Tryz.prog 34 #[.agg #[.int .i64 s.fr, .int .i64 s.dt, .int .i64 s.sq, .int .i64 s.ak, .int .i64 s.fl, .int .i64 s.wi, .int .i64 s.ur, .int .i64 s.o.m, .int .i64 s.o.c, .int .i64 s.o.t, .int .i64 s.o.ec, .bool s.o.sd, .bool s.o.ok, .bool s.o.sp, v, .string s.da], .int .i64 k] w fun e w' => e = .returned (.bool false) ∧ Below w.heap.size w w' := by have := has_any s v k w; rw [h] at this; exact this
theorem put_s (n k : Int) (w : World) : Calls Tryz.prog 37 #[.int .i64 n, .int .i64 k] w fun e w' => e = .returned (.string (putV n k)) ∧ Below w.heap.size w w' := by
  go_enter Tryz.func37, Tryz.ntmps37
  go_wp2_with fail
  refine (pput_any n k _).mono ?_
  rintro e w' ⟨rfl, hb⟩
  go_wp2
  go_ret
  exact ⟨rfl, hb⟩
theorem get_s (s : ByteArray) (off k : Int) (w : World) (hs : s.size ≤ maxLen) : Calls Tryz.prog 107 #[.string s, .int .i64 off, .int .i64 k] w fun e w' => e = .returned (.int .i64 (getV s off k)) ∧ Below w.heap.size w w' := by
  go_enter Tryz.func107, Tryz.ntmps107
  go_wp2_with fail
  refine (get_any s off k _ hs).mono ?_
  rintro e w' ⟨rfl, hb⟩
  go_wp2
  go_ret
  exact ⟨rfl, hb⟩
theorem pseudo_s (f t l : Int) (w : World) : Calls Tryz.prog 17 #[.int .i64 f, .int .i64 t, .int .i64 l] w fun e w' => e = .returned (.string (pseuV f t 6 l)) ∧ Below w.heap.size w w' := by
  go_enter Tryz.func17, Tryz.ntmps17
  go_wp2_with fail
  refine (pseudo_any f t 6 l _).mono ?_
  rintro e w' ⟨rfl, hb⟩
  go_wp2
  go_ret
  exact ⟨rfl, hb⟩
end Go.Proofs.YtkpdmgoldngdaabGreatDoor

namespace Go.Proofs.YtkpdmgoldngdaabGreatDoor
open Go.RowKit
set_option maxRecDepth 100000
set_option linter.unusedVariables false

theorem size33 : (Tryz.prog.info? 33).map (·.size) = some 8 := by kernel_rfl
theorem At.mid {W : World} {b : Nat} {vs : Array Value} (h : At W b vs) (o n : Nat) : W.rangeAt b o ((vs.toList.drop o).take n) := fun j v hv => by
  refine (h.2 (o + j) v ?_).1
  rw [List.getElem?_take] at hv
  split at hv
  · rw [List.getElem?_drop] at hv; simpa using hv
  · cases hv
theorem At.opts {W : World} {b : Nat} {s : Sg} {v : Value} (h : At W b #[.int .i64 s.fr, .int .i64 s.dt, .int .i64 s.sq, .int .i64 s.ak, .int .i64 s.fl, .int .i64 s.wi, .int .i64 s.ur, .int .i64 s.o.m, .int .i64 s.o.c, .int .i64 s.o.t, .int .i64 s.o.ec, .bool s.o.sd, .bool s.o.ok, .bool s.o.sp, v, .string s.da]) : W.rangeAt b 7 #[.int .i64 s.o.m, .int .i64 s.o.c, .int .i64 s.o.t, .int .i64 s.o.ec, .bool s.o.sd, .bool s.o.ok, .bool s.o.sp, v].toList := h.mid 7 8
theorem mayG_t {s : Sg} (h1 : fitsB s.fr 65535 = true) (h2 : fitsB s.dt 65535 = true) (h3 : numB s.sq = true) (h4 : numB s.ak = true) (h5 : fitsB s.fl 63 = true) (h6 : fitsB s.wi 65535 = true) (h7 : fitsB s.ur 65535 = true) (ha : hasV s.fl 16 = true ∨ s.ak = 0) (hu : hasV s.fl 32 = true ∨ s.ur = 0) (hm : s.o.may = true) (hd : s.da.size ≤ 1480) : mayG s = true := by
  unfold mayG preG
  have e1 : (hasV s.fl 16 || decide (s.ak = 0)) = true := by
    rcases ha with h | h
    · rw [h]; rfl
    · rw [decide_eq_true h, Bool.or_true]
  have e2 : (hasV s.fl 32 || decide (s.ur = 0)) = true := by
    rcases hu with h | h
    · rw [h]; rfl
    · rw [decide_eq_true h, Bool.or_true]
  rw [h1, h2, h3, h4, h5, h6, h7, e1, e2, hm, decide_eq_true hd]; rfl
theorem ck_t {o : Op} {v : Value} (w : World) (hv : Rgs w v o.rs) (hn : o.rs.length ≤ 17592186044416) (hG : Ord w) (h : o.may = true) : Calls Tryz.prog 35 #[.agg #[.int .i64 o.m, .int .i64 o.c, .int .i64 o.t, .int .i64 o.ec, .bool o.sd, .bool o.ok, .bool o.sp, v]] w fun e w' => e = .returned (.int .i64 0) ∧ Below w.heap.size w w' := by
  have := check_o o.m o.c o.t o.ec o.sd o.ok o.sp v o.rs w hv hn hG
  rw [show mayO o.m o.c o.t o.ec o.sd o.ok o.sp o.rs = true from h, codeO_t] at this
  exact this
theorem ck_f {o : Op} {v : Value} (w : World) (hv : Rgs w v o.rs) (hn : o.rs.length ≤ 17592186044416) (hG : Ord w) (h : o.may = false) : Calls Tryz.prog 35 #[.agg #[.int .i64 o.m, .int .i64 o.c, .int .i64 o.t, .int .i64 o.ec, .bool o.sd, .bool o.ok, .bool o.sp, v]] w fun e w' => e = .returned (.int .i64 70) ∧ Below w.heap.size w w' := by
  have := check_o o.m o.c o.t o.ec o.sd o.ok o.sp v o.rs w hv hn hG
  rw [show mayO o.m o.c o.t o.ec o.sd o.ok o.sp o.rs = false from h, codeO_f] at this
  exact this
set_option maxHeartbeats 4000000 in
theorem may_s (s : Sg) (v : Value) (w : World) (hv : Rgs w v s.o.rs) (hn : s.o.rs.length ≤ 17592186044416) (hG : Ord w) :
    Calls Tryz.prog 15 #[.agg #[.int .i64 s.fr, .int .i64 s.dt, .int .i64 s.sq, .int .i64 s.ak, .int .i64 s.fl, .int .i64 s.wi, .int .i64 s.ur, .int .i64 s.o.m, .int .i64 s.o.c, .int .i64 s.o.t, .int .i64 s.o.ec, .bool s.o.sd, .bool s.o.ok, .bool s.o.sp, v, .string s.da]] w fun e w' => e = .returned (.bool (mayG s)) ∧ Below w.heap.size w w' := by
  have hA := At.box w #[.int .i64 s.fr, .int .i64 s.dt, .int .i64 s.sq, .int .i64 s.ak, .int .i64 s.fl, .int .i64 s.wi, .int .i64 s.ur, .int .i64 s.o.m, .int .i64 s.o.c, .int .i64 s.o.t, .int .i64 s.o.ec, .bool s.o.sd, .bool s.o.ok, .bool s.o.sp, v, .string s.da] 35
  have hl := bel1 w (.cells #[.int .i64 s.fr, .int .i64 s.dt, .int .i64 s.sq, .int .i64 s.ak, .int .i64 s.fl, .int .i64 s.wi, .int .i64 s.ur, .int .i64 s.o.m, .int .i64 s.o.c, .int .i64 s.o.t, .int .i64 s.o.ec, .bool s.o.sd, .bool s.o.ok, .bool s.o.sp, v, .string s.da] 35)
  have hr := hv.later hl
  replace hG := hG.later hl
  clear hv
  obtain ⟨⟨c0, c1, c2, c3, c4, c5, c6, c7, c8, c9, c10, c11, c12, c13, c14, c15⟩, -, -⟩ := hA.sixteen
  go_enter Tryz.func15, Tryz.ntmps15
  rcases (Bool.eq_false_or_eq_true (fitsB s.fr 65535)).symm with h1 | h1
  · go_wp2_with fail
    refine (fs_f _ h1).mono ?_
    rintro e w' ⟨rfl, rfl⟩
    have HM : Hid (mayG s = false) := by show _ = _; simp [mayG, preG, h1]
    go_wp2
    go_ret
    exact ⟨by rw [HM.out]; first | rfl | (congr 2; simp; omega), hl⟩
  go_wp2_with fail
  refine (fs_t _ h1).mono ?_
  rintro e w' ⟨rfl, rfl⟩
  rcases (Bool.eq_false_or_eq_true (fitsB s.dt 65535)).symm with h2 | h2
  · go_wp2_with fail
    refine (fs_f _ h2).mono ?_
    rintro e w' ⟨rfl, rfl⟩
    have HM : Hid (mayG s = false) := by show _ = _; simp [mayG, preG, h2]
    go_wp2
    go_ret
    exact ⟨by rw [HM.out]; first | rfl | (congr 2; simp; omega), hl⟩
  go_wp2_with fail
  refine (fs_t _ h2).mono ?_
  rintro e w' ⟨rfl, rfl⟩
  rcases (Bool.eq_false_or_eq_true (numB s.sq)).symm with h3 | h3
  · go_wp2_with fail
    refine (nm_f _ h3).mono ?_
    rintro e w' ⟨rfl, rfl⟩
    have HM : Hid (mayG s = false) := by show _ = _; simp [mayG, preG, h3]
    go_wp2
    go_ret
    exact ⟨by rw [HM.out]; first | rfl | (congr 2; simp; omega), hl⟩
  go_wp2_with fail
  refine (nm_t _ h3).mono ?_
  rintro e w' ⟨rfl, rfl⟩
  rcases (Bool.eq_false_or_eq_true (numB s.ak)).symm with h4 | h4
  · go_wp2_with fail
    refine (nm_f _ h4).mono ?_
    rintro e w' ⟨rfl, rfl⟩
    have HM : Hid (mayG s = false) := by show _ = _; simp [mayG, preG, h4]
    go_wp2
    go_ret
    exact ⟨by rw [HM.out]; first | rfl | (congr 2; simp; omega), hl⟩
  go_wp2_with fail
  refine (nm_t _ h4).mono ?_
  rintro e w' ⟨rfl, rfl⟩
  rcases (Bool.eq_false_or_eq_true (fitsB s.fl 63)).symm with h5 | h5
  · go_wp2_with fail
    refine (fs_f _ h5).mono ?_
    rintro e w' ⟨rfl, rfl⟩
    have HM : Hid (mayG s = false) := by show _ = _; simp [mayG, preG, h5]
    go_wp2
    go_ret
    exact ⟨by rw [HM.out]; first | rfl | (congr 2; simp; omega), hl⟩
  go_wp2_with fail
  refine (fs_t _ h5).mono ?_
  rintro e w' ⟨rfl, rfl⟩
  rcases (Bool.eq_false_or_eq_true (fitsB s.wi 65535)).symm with h6 | h6
  · go_wp2_with fail
    refine (fs_f _ h6).mono ?_
    rintro e w' ⟨rfl, rfl⟩
    have HM : Hid (mayG s = false) := by show _ = _; simp [mayG, preG, h6]
    go_wp2
    go_ret
    exact ⟨by rw [HM.out]; first | rfl | (congr 2; simp; omega), hl⟩
  go_wp2_with fail
  refine (fs_t _ h6).mono ?_
  rintro e w' ⟨rfl, rfl⟩
  rcases (Bool.eq_false_or_eq_true (fitsB s.ur 65535)).symm with h7 | h7
  · go_wp2_with fail
    refine (fs_f _ h7).mono ?_
    rintro e w' ⟨rfl, rfl⟩
    have HM : Hid (mayG s = false) := by show _ = _; simp [mayG, preG, h7]
    go_wp2
    go_ret
    exact ⟨by rw [HM.out]; first | rfl | (congr 2; simp; omega), hl⟩
  go_wp2_with fail
  refine (fs_t _ h7).mono ?_
  rintro e w' ⟨rfl, rfl⟩
  go_wp2_with (refine wpList_loadG 35 _ (by rfl) (by rfl) w.heap.size 0 (by rfl) _ _ hA.range Tryz.underlying35 rfl size35 ?_)
  rcases Bool.eq_false_or_eq_true (hasV s.fl 16) with ha | ha
  · refine (has_t s v 16 _ ha).mono ?_
    rintro e w1 ⟨rfl, hb⟩
    replace hl := bt hl hb
    replace hA := hA.later hb
    replace hr := hr.later hb
    replace hG := hG.later hb
    clear hb c0 c1 c2 c3 c4 c5 c6 c7 c8 c9 c10 c11 c12 c13 c14 c15
    obtain ⟨⟨c0, c1, c2, c3, c4, c5, c6, c7, c8, c9, c10, c11, c12, c13, c14, c15⟩, -, -⟩ := hA.sixteen
    go_wp2_with (refine wpList_loadG 35 _ (by rfl) (by rfl) w.heap.size 0 (by rfl) _ _ hA.range Tryz.underlying35 rfl size35 ?_)
    rcases Bool.eq_false_or_eq_true (hasV s.fl 32) with hu | hu
    · refine (has_t s v 32 _ hu).mono ?_
      rintro e w2 ⟨rfl, hb⟩
      replace hl := bt hl hb
      replace hA := hA.later hb
      replace hr := hr.later hb
      replace hG := hG.later hb
      clear hb c0 c1 c2 c3 c4 c5 c6 c7 c8 c9 c10 c11 c12 c13 c14 c15
      obtain ⟨⟨c0, c1, c2, c3, c4, c5, c6, c7, c8, c9, c10, c11, c12, c13, c14, c15⟩, -, -⟩ := hA.sixteen
      go_wp2_with (refine wpList_loadG 33 _ (by rfl) (by rfl) w.heap.size 7 (by rfl) _ _ hA.opts Tryz.underlying33 rfl size33 ?_)
      rcases (Bool.eq_false_or_eq_true s.o.may).symm with hm | hm
      · refine (ck_f _ hr hn hG hm).mono ?_
        rintro e w3 ⟨rfl, hb⟩
        replace hl := bt hl hb
        replace hA := hA.later hb
        replace hr := hr.later hb
        replace hG := hG.later hb
        clear hb c0 c1 c2 c3 c4 c5 c6 c7 c8 c9 c10 c11 c12 c13 c14 c15
        obtain ⟨⟨c0, c1, c2, c3, c4, c5, c6, c7, c8, c9, c10, c11, c12, c13, c14, c15⟩, -, -⟩ := hA.sixteen
        have HM : Hid (mayG s = false) := by show _ = _; simp [mayG, hm]
        go_wp2
        go_ret
        exact ⟨by rw [HM.out]; first | rfl | (congr 2; simp; omega), hl⟩
      refine (ck_t _ hr hn hG hm).mono ?_
      rintro e w3 ⟨rfl, hb⟩
      replace hl := bt hl hb
      replace hA := hA.later hb
      replace hr := hr.later hb
      replace hG := hG.later hb
      clear hb c0 c1 c2 c3 c4 c5 c6 c7 c8 c9 c10 c11 c12 c13 c14 c15
      obtain ⟨⟨c0, c1, c2, c3, c4, c5, c6, c7, c8, c9, c10, c11, c12, c13, c14, c15⟩, -, -⟩ := hA.sixteen
      by_cases hd : s.da.size ≤ 1480
      · have hd1 : (s.da.size : Int) ≤ 1480 := by omega
        have HM : Hid (mayG s = true) := by show _ = _; exact mayG_t h1 h2 h3 h4 h5 h6 h7 (.inl ha) (.inl hu) hm hd
        go_wp2
        go_ret
        exact ⟨by rw [HM.out]; first | rfl | (congr 2; simp; omega), hl⟩
      · have hd1 : ¬ (s.da.size : Int) ≤ 1480 := by omega
        have HM : Hid (mayG s = false) := by show _ = _; simp [mayG, hd]
        go_wp2
        go_ret
        exact ⟨by rw [HM.out]; first | rfl | (congr 2; simp; omega), hl⟩
    · refine (has_f s v 32 _ hu).mono ?_
      rintro e w2 ⟨rfl, hb⟩
      replace hl := bt hl hb
      replace hA := hA.later hb
      replace hr := hr.later hb
      replace hG := hG.later hb
      clear hb c0 c1 c2 c3 c4 c5 c6 c7 c8 c9 c10 c11 c12 c13 c14 c15
      obtain ⟨⟨c0, c1, c2, c3, c4, c5, c6, c7, c8, c9, c10, c11, c12, c13, c14, c15⟩, -, -⟩ := hA.sixteen
      by_cases ku : s.ur = 0
      · have ku1 : (s.ur == 0) = true := by simpa using ku
        have KU : Hid (s.ur = 0) := ku
        clear ku
        go_wp2_with (refine wpList_loadG 33 _ (by rfl) (by rfl) w.heap.size 7 (by rfl) _ _ hA.opts Tryz.underlying33 rfl size33 ?_)
        rcases (Bool.eq_false_or_eq_true s.o.may).symm with hm | hm
        · refine (ck_f _ hr hn hG hm).mono ?_
          rintro e w3 ⟨rfl, hb⟩
          replace hl := bt hl hb
          replace hA := hA.later hb
          replace hr := hr.later hb
          replace hG := hG.later hb
          clear hb c0 c1 c2 c3 c4 c5 c6 c7 c8 c9 c10 c11 c12 c13 c14 c15
          obtain ⟨⟨c0, c1, c2, c3, c4, c5, c6, c7, c8, c9, c10, c11, c12, c13, c14, c15⟩, -, -⟩ := hA.sixteen
          have HM : Hid (mayG s = false) := by show _ = _; simp [mayG, hm]
          go_wp2
          go_ret
          exact ⟨by rw [HM.out]; first | rfl | (congr 2; simp; omega), hl⟩
        refine (ck_t _ hr hn hG hm).mono ?_
        rintro e w3 ⟨rfl, hb⟩
        replace hl := bt hl hb
        replace hA := hA.later hb
        replace hr := hr.later hb
        replace hG := hG.later hb
        clear hb c0 c1 c2 c3 c4 c5 c6 c7 c8 c9 c10 c11 c12 c13 c14 c15
        obtain ⟨⟨c0, c1, c2, c3, c4, c5, c6, c7, c8, c9, c10, c11, c12, c13, c14, c15⟩, -, -⟩ := hA.sixteen
        by_cases hd : s.da.size ≤ 1480
        · have hd1 : (s.da.size : Int) ≤ 1480 := by omega
          have HM : Hid (mayG s = true) := by show _ = _; exact mayG_t h1 h2 h3 h4 h5 h6 h7 (.inl ha) (.inr KU.out) hm hd
          go_wp2
          go_ret
          exact ⟨by rw [HM.out]; first | rfl | (congr 2; simp; omega), hl⟩
        · have hd1 : ¬ (s.da.size : Int) ≤ 1480 := by omega
          have HM : Hid (mayG s = false) := by show _ = _; simp [mayG, hd]
          go_wp2
          go_ret
          exact ⟨by rw [HM.out]; first | rfl | (congr 2; simp; omega), hl⟩
      · have ku1 : (s.ur == 0) = false := by simpa using ku
        have HM : Hid (mayG s = false) := by show _ = _; simp [mayG, hu, ku]
        go_wp2
        go_ret
        exact ⟨by rw [HM.out]; first | rfl | (congr 2; simp; omega), hl⟩
  · refine (has_f s v 16 _ ha).mono ?_
    rintro e w1 ⟨rfl, hb⟩
    replace hl := bt hl hb
    replace hA := hA.later hb
    replace hr := hr.later hb
    replace hG := hG.later hb
    clear hb c0 c1 c2 c3 c4 c5 c6 c7 c8 c9 c10 c11 c12 c13 c14 c15
    obtain ⟨⟨c0, c1, c2, c3, c4, c5, c6, c7, c8, c9, c10, c11, c12, c13, c14, c15⟩, -, -⟩ := hA.sixteen
    by_cases ka : s.ak = 0
    · have ka1 : (s.ak == 0) = true := by simpa using ka
      have KA : Hid (s.ak = 0) := ka
      clear ka
      go_wp2_with (refine wpList_loadG 35 _ (by rfl) (by rfl) w.heap.size 0 (by rfl) _ _ hA.range Tryz.underlying35 rfl size35 ?_)
      rcases Bool.eq_false_or_eq_true (hasV s.fl 32) with hu | hu
      · refine (has_t s v 32 _ hu).mono ?_
        rintro e w2 ⟨rfl, hb⟩
        replace hl := bt hl hb
        replace hA := hA.later hb
        replace hr := hr.later hb
        replace hG := hG.later hb
        clear hb c0 c1 c2 c3 c4 c5 c6 c7 c8 c9 c10 c11 c12 c13 c14 c15
        obtain ⟨⟨c0, c1, c2, c3, c4, c5, c6, c7, c8, c9, c10, c11, c12, c13, c14, c15⟩, -, -⟩ := hA.sixteen
        go_wp2_with (refine wpList_loadG 33 _ (by rfl) (by rfl) w.heap.size 7 (by rfl) _ _ hA.opts Tryz.underlying33 rfl size33 ?_)
        rcases (Bool.eq_false_or_eq_true s.o.may).symm with hm | hm
        · refine (ck_f _ hr hn hG hm).mono ?_
          rintro e w3 ⟨rfl, hb⟩
          replace hl := bt hl hb
          replace hA := hA.later hb
          replace hr := hr.later hb
          replace hG := hG.later hb
          clear hb c0 c1 c2 c3 c4 c5 c6 c7 c8 c9 c10 c11 c12 c13 c14 c15
          obtain ⟨⟨c0, c1, c2, c3, c4, c5, c6, c7, c8, c9, c10, c11, c12, c13, c14, c15⟩, -, -⟩ := hA.sixteen
          have HM : Hid (mayG s = false) := by show _ = _; simp [mayG, hm]
          go_wp2
          go_ret
          exact ⟨by rw [HM.out]; first | rfl | (congr 2; simp; omega), hl⟩
        refine (ck_t _ hr hn hG hm).mono ?_
        rintro e w3 ⟨rfl, hb⟩
        replace hl := bt hl hb
        replace hA := hA.later hb
        replace hr := hr.later hb
        replace hG := hG.later hb
        clear hb c0 c1 c2 c3 c4 c5 c6 c7 c8 c9 c10 c11 c12 c13 c14 c15
        obtain ⟨⟨c0, c1, c2, c3, c4, c5, c6, c7, c8, c9, c10, c11, c12, c13, c14, c15⟩, -, -⟩ := hA.sixteen
        by_cases hd : s.da.size ≤ 1480
        · have hd1 : (s.da.size : Int) ≤ 1480 := by omega
          have HM : Hid (mayG s = true) := by show _ = _; exact mayG_t h1 h2 h3 h4 h5 h6 h7 (.inr KA.out) (.inl hu) hm hd
          go_wp2
          go_ret
          exact ⟨by rw [HM.out]; first | rfl | (congr 2; simp; omega), hl⟩
        · have hd1 : ¬ (s.da.size : Int) ≤ 1480 := by omega
          have HM : Hid (mayG s = false) := by show _ = _; simp [mayG, hd]
          go_wp2
          go_ret
          exact ⟨by rw [HM.out]; first | rfl | (congr 2; simp; omega), hl⟩
      · refine (has_f s v 32 _ hu).mono ?_
        rintro e w2 ⟨rfl, hb⟩
        replace hl := bt hl hb
        replace hA := hA.later hb
        replace hr := hr.later hb
        replace hG := hG.later hb
        clear hb c0 c1 c2 c3 c4 c5 c6 c7 c8 c9 c10 c11 c12 c13 c14 c15
        obtain ⟨⟨c0, c1, c2, c3, c4, c5, c6, c7, c8, c9, c10, c11, c12, c13, c14, c15⟩, -, -⟩ := hA.sixteen
        by_cases ku : s.ur = 0
        · have ku1 : (s.ur == 0) = true := by simpa using ku
          have KU : Hid (s.ur = 0) := ku
          clear ku
          go_wp2_with (refine wpList_loadG 33 _ (by rfl) (by rfl) w.heap.size 7 (by rfl) _ _ hA.opts Tryz.underlying33 rfl size33 ?_)
          rcases (Bool.eq_false_or_eq_true s.o.may).symm with hm | hm
          · refine (ck_f _ hr hn hG hm).mono ?_
            rintro e w3 ⟨rfl, hb⟩
            replace hl := bt hl hb
            replace hA := hA.later hb
            replace hr := hr.later hb
            replace hG := hG.later hb
            clear hb c0 c1 c2 c3 c4 c5 c6 c7 c8 c9 c10 c11 c12 c13 c14 c15
            obtain ⟨⟨c0, c1, c2, c3, c4, c5, c6, c7, c8, c9, c10, c11, c12, c13, c14, c15⟩, -, -⟩ := hA.sixteen
            have HM : Hid (mayG s = false) := by show _ = _; simp [mayG, hm]
            go_wp2
            go_ret
            exact ⟨by rw [HM.out]; first | rfl | (congr 2; simp; omega), hl⟩
          refine (ck_t _ hr hn hG hm).mono ?_
          rintro e w3 ⟨rfl, hb⟩
          replace hl := bt hl hb
          replace hA := hA.later hb
          replace hr := hr.later hb
          replace hG := hG.later hb
          clear hb c0 c1 c2 c3 c4 c5 c6 c7 c8 c9 c10 c11 c12 c13 c14 c15
          obtain ⟨⟨c0, c1, c2, c3, c4, c5, c6, c7, c8, c9, c10, c11, c12, c13, c14, c15⟩, -, -⟩ := hA.sixteen
          by_cases hd : s.da.size ≤ 1480
          · have hd1 : (s.da.size : Int) ≤ 1480 := by omega
            have HM : Hid (mayG s = true) := by show _ = _; exact mayG_t h1 h2 h3 h4 h5 h6 h7 (.inr KA.out) (.inr KU.out) hm hd
            go_wp2
            go_ret
            exact ⟨by rw [HM.out]; first | rfl | (congr 2; simp; omega), hl⟩
          · have hd1 : ¬ (s.da.size : Int) ≤ 1480 := by omega
            have HM : Hid (mayG s = false) := by show _ = _; simp [mayG, hd]
            go_wp2
            go_ret
            exact ⟨by rw [HM.out]; first | rfl | (congr 2; simp; omega), hl⟩
        · have ku1 : (s.ur == 0) = false := by simpa using ku
          have HM : Hid (mayG s = false) := by show _ = _; simp [mayG, hu, ku]
          go_wp2
          go_ret
          exact ⟨by rw [HM.out]; first | rfl | (congr 2; simp; omega), hl⟩
    · have ka1 : (s.ak == 0) = false := by simpa using ka
      have HM : Hid (mayG s = false) := by show _ = _; simp [mayG, ha, ka]
      go_wp2
      go_ret
      exact ⟨by rw [HM.out]; first | rfl | (congr 2; simp; omega), hl⟩
end Go.Proofs.YtkpdmgoldngdaabGreatDoor

namespace Go.Proofs.YtkpdmgoldngdaabGreatDoor
open Go.RowKit
set_option maxRecDepth 100000
set_option linter.unusedVariables false

theorem Below.setCells {B : Nat} {w0 : World} {b : Nat} (hb : B ≤ b) : ∀ (vs : List Value) (o : Nat) (w : World), Below B w0 w → Below B w0 (w.setCells b o vs)
  | [], _, _, h => h
  | v :: vs, o, w, h => by
    rw [World.setCells]
    exact Below.setCells hb vs (o + 1) _ (h.setCell (p := ⟨b, o, none⟩) hb v)
theorem size_setCells (b : Nat) : ∀ (vs : List Value) (o : Nat) (w : World), (w.setCells b o vs).heap.size = w.heap.size
  | [], _, _ => rfl
  | v :: vs, o, w => by rw [World.setCells, size_setCells b vs (o + 1) _, World.size_setCell]
theorem At.there {W : World} {b : Nat} {vs : Array Value} (h : At W b vs) : W.there b 0 vs.size := fun j hj => by
  obtain ⟨c, f⟩ := h.2 j vs[j] (Array.getElem?_eq_getElem hj)
  rw [Nat.zero_add]
  exact ⟨by rw [c]; rfl, f⟩
theorem At.whole {W : World} {b : Nat} {old vs : Array Value} (h : At W b old) (hs : old.size = vs.size) : At (W.setCells b 0 vs.toList) b vs := by
  refine ⟨by rw [size_setCells]; exact h.1, fun i v hi => ⟨?_, ?_⟩⟩
  · have hr := World.rangeAt_setCells_same W b 0 vs.toList (by rw [show vs.toList.length = old.size by rw [hs]; simp]; exact h.there)
    have := hr i v (by simpa using hi)
    rwa [Nat.zero_add] at this
  · rw [World.frozen?_setCells]
    have hlt : i < old.size := by rw [hs]; exact (Array.getElem?_eq_some_iff.1 hi).1
    exact (h.2 i old[i] (Array.getElem?_eq_getElem hlt)).2
theorem At.apart {W : World} {b c : Nat} {vs : Array Value} (h : At W c vs) (hne : b ≠ c) (o : Nat) (us : List Value) : At (W.setCells b o us) c vs := by
  refine ⟨by rw [size_setCells]; exact h.1, fun i v hi => ⟨?_, ?_⟩⟩
  · rw [World.cell?_setCells_out b us o W ⟨c, i, none⟩ (fun e _ => absurd e.symm hne)]
    exact (h.2 i v hi).1
  · rw [World.frozen?_setCells]; exact (h.2 i v hi).2
theorem ret_cell {fn : Func} {i j : Nat} (hres : fn.results = #[.cell i 35, .tmp j]) {tmps : Array Value} {W : World} {b : Nat} {vs : Array Value} {x : Value} (hA : At W b vs) (hs : vs.size = 16) (hi : tmps.getD i undef = .pointer (some ⟨b, 0, none⟩)) (hj : tmps.getD j undef = x) : (results fn tmps).run Tryz.prog W = .ok (.tuple #[.agg vs, x]) W := by
  have hl := run_loadVar_mid (P := Tryz.prog) W b 0 35 vs.toList _ hA.range Tryz.underlying35 rfl (by rw [show vs.toList.length = 16 by simpa using hs]; exact size35)
  rw [Array.getD_eq_getD_getElem?] at hi hj
  unfold results
  rw [hres]
  simp [hi, hj, asAddr, hl]
end Go.Proofs.YtkpdmgoldngdaabGreatDoor

namespace Go.Proofs.YtkpdmgoldngdaabGreatDoor
open Go.RowKit
set_option maxRecDepth 100000
set_option linter.unusedVariables false

theorem may_all {s : Sg} (h : mayG s = true) : (0 ≤ s.fr ∧ s.fr ≤ 65535) ∧ (0 ≤ s.dt ∧ s.dt ≤ 65535) ∧ (0 ≤ s.sq ∧ s.sq ≤ 4294967295) ∧ (0 ≤ s.ak ∧ s.ak ≤ 4294967295) ∧ (0 ≤ s.fl ∧ s.fl ≤ 63) ∧ (0 ≤ s.wi ∧ s.wi ≤ 65535) ∧ (0 ≤ s.ur ∧ s.ur ≤ 65535) ∧ s.o.may = true ∧ s.da.size ≤ 1480 := by
  unfold mayG preG fitsB numB at h
  simp only [Bool.and_eq_true, decide_eq_true_eq] at h
  exact ⟨h.1.1.1.1.1.1.1.1.1.1, h.1.1.1.1.1.1.1.1.1.2, h.1.1.1.1.1.1.1.1.2, h.1.1.1.1.1.1.1.2, h.1.1.1.1.1.1.2, h.1.1.1.1.1.2, h.1.1.1.1.2, h.1.2, h.2⟩
def Op.enc (o : Op) : ByteArray := encO o.m o.c o.t o.ec o.sd o.ok o.sp o.rs
theorem enc_long {o : Op} (h : o.may = true) : o.enc.size ≤ 40 ∧ o.enc.size % 4 = 0 := by
  have hz : o.enc.size = longN o.m o.sd o.ok o.sp o.rs.length := encO_size _ _ _ _ _ _ _ _
  have h40 := (mayO_t h).2.2.2.2.2.2.1
  rw [hz]
  refine ⟨h40, ?_⟩
  unfold longN
  omega
def lonB (o : Op) : Int := (20 + (o.enc.size : Int)) / 4 * 16
def preS (s : Sg) : ByteArray := txt s.fr 2 ++ txt s.dt 2 ++ txt s.sq 4 ++ txt s.ak 4 ++ txt (lonB s.o) 1 ++ txt s.fl 1 ++ txt s.wi 2
def postS (s : Sg) : ByteArray := txt s.ur 2 ++ s.o.enc ++ s.da
def lenS (s : Sg) : Nat := 20 + s.o.enc.size + s.da.size
def psS (f t : Int) (n : Nat) : ByteArray := txt f 4 ++ txt t 4 ++ txt 6 2 ++ txt (n : Int) 2
def sumG (f t : Int) (s : Sg) : Int := missV (totS [psS f t (lenS s) ++ preS s, postS s])
def encS (f t : Int) (s : Sg) : ByteArray := preS s ++ txt (sumG f t s) 2 ++ postS s
def rawS (s : Sg) : ByteArray := preS s ++ txt 0 2 ++ postS s
def hdrS (s : Sg) : ByteArray := preS s ++ txt 0 2 ++ txt s.ur 2 ++ s.o.enc
theorem raw_is (s : Sg) : hdrS s ++ s.da = rawS s := by unfold hdrS rawS postS; simp only [ByteArray.append_assoc]
theorem preS_size (s : Sg) : (preS s).size = 16 := by unfold preS; simp only [ByteArray.size_append, txt_size]
theorem postS_size (s : Sg) : (postS s).size = 2 + s.o.enc.size + s.da.size := by unfold postS; simp only [ByteArray.size_append, txt_size]
theorem psS_size (f t : Int) (n : Nat) : (psS f t n).size = 12 := by unfold psS; simp only [ByteArray.size_append, txt_size]
theorem rawS_size (s : Sg) : (rawS s).size = lenS s := by unfold rawS lenS; simp only [ByteArray.size_append, txt_size, preS_size, postS_size]; omega
theorem hdrS_size (s : Sg) : (hdrS s).size = 20 + s.o.enc.size := by unfold hdrS; simp only [ByteArray.size_append, txt_size, preS_size]
theorem encS_size (f t : Int) (s : Sg) : (encS f t s).size = lenS s := by unfold encS lenS; simp only [ByteArray.size_append, txt_size, preS_size, postS_size]; omega
theorem lenS_bd {s : Sg} (h : mayG s = true) : 20 ≤ lenS s ∧ lenS s ≤ 1540 := by
  obtain ⟨-, -, -, -, -, -, -, ho, hd⟩ := may_all h
  have := enc_long ho
  unfold lenS
  omega
theorem lonB_bd {o : Op} (h : o.may = true) : 80 ≤ lonB o ∧ lonB o ≤ 240 ∧ lonB o / 16 * 4 = 20 + (o.enc.size : Int) ∧ lonB o % 16 = 0 := by
  have := enc_long h
  unfold lonB
  omega
theorem pseuV_is (f t : Int) (n : Nat) (hf : numB f = true) (ht : numB t = true) (hn : n ≤ 65535) : pseuV f t 6 (n : Int) = psS f t n := by
  have h1 := of_decide_eq_true hf
  have h2 := of_decide_eq_true ht
  unfold pseuV pseuB psS
  rw [outB_f (by omega), outB_f (by omega), outB_f (by omega), outB_f (by omega)]
  rfl
theorem ps_raw (f t : Int) (n : Nat) (s : Sg) : psS f t n ++ rawS s = (psS f t n ++ preS s) ++ txt 0 2 ++ postS s := by unfold rawS; simp only [ByteArray.append_assoc]
theorem ps_enc (f t : Int) (n : Nat) (s : Sg) : psS f t n ++ encS f t s = (psS f t n ++ preS s) ++ txt (sumG f t s) 2 ++ postS s := by unfold encS; simp only [ByteArray.append_assoc]
theorem ps_pre_size (f t : Int) (n : Nat) (s : Sg) : (psS f t n ++ preS s).size = 28 := by rw [ByteArray.size_append, psS_size, preS_size]
theorem sealG_is {s : Sg} (f t : Int) (h : mayG s = true) : sealV (psS f t (lenS s) ++ rawS s) 28 = psS f t (lenS s) ++ encS f t s ∧ sealC (psS f t (lenS s) ++ rawS s) 28 = 0 := by
  have hb := lenS_bd h
  have hz : (psS f t (lenS s) ++ rawS s).size = 12 + lenS s := by rw [ByteArray.size_append, psS_size, rawS_size]
  have hA : headS (psS f t (lenS s) ++ rawS s) 28 = psS f t (lenS s) ++ preS s := by
    rw [ps_raw]
    unfold headS
    have := mid_head (psS f t (lenS s) ++ preS s) (txt 0 2) (postS s)
    rw [ps_pre_size] at this
    exact this
  have hB : tailS (psS f t (lenS s) ++ rawS s) 28 = postS s := by
    rw [ps_raw]
    unfold tailS
    exact mid_tail _ _ _ _ (by rw [ps_pre_size, txt_size]; rfl)
  unfold sealV sealC
  rw [place_t (by rw [hz]; omega), if_pos rfl, if_pos rfl, if_pos (by omega), if_pos (by omega)]
  refine ⟨?_, rfl⟩
  unfold sealS
  rw [hA, hB, ps_enc]
  rfl
theorem cut_enc (f t : Int) (n : Nat) (s : Sg) : (psS f t n ++ encS f t s).extract 12 (psS f t n ++ encS f t s).size = encS f t s := by
  apply ba_toList
  rw [ext_toList, app_toList, List.drop_left' (by rw [len_toList, psS_size]), List.take_of_length_le]
  rw [len_toList, ByteArray.size_append, psS_size]
  omega
theorem sumG_bd (f t : Int) (s : Sg) : 0 ≤ sumG f t s ∧ sumG f t s ≤ 65535 := missV_bd _
theorem whole_enc (f t : Int) (s : Sg) : foldV (ws true (psS f t (lenS s) ++ encS f t s).data.toList) = 65535 := by
  rw [ps_enc, ws_mid _ _ _ (by rw [ps_pre_size]) (sumG_bd f t s).1 (sumG_bd f t s).2]
  exact foldV_fill _ (totS_nonneg _)
theorem enc_list (f t : Int) (s : Sg) : (encS f t s).data.toList = txtL s.fr 2 ++ (txtL s.dt 2 ++ (txtL s.sq 4 ++ (txtL s.ak 4 ++ (txtL (lonB s.o) 1 ++ (txtL s.fl 1 ++ (txtL s.wi 2 ++ (txtL (sumG f t s) 2 ++ (txtL s.ur 2 ++ (s.o.enc.data.toList ++ s.da.data.toList))))))))) := by
  unfold encS preS postS
  simp only [app_toList, txt_toList, List.append_assoc]
end Go.Proofs.YtkpdmgoldngdaabGreatDoor

namespace Go.Proofs.YtkpdmgoldngdaabGreatDoor
open Go.RowKit
set_option maxRecDepth 100000
set_option linter.unusedVariables false

theorem numbers_s (s : Sg) (v : Value) (w : World) : Calls Tryz.prog 23 #[.agg #[.int .i64 s.fr, .int .i64 s.dt, .int .i64 s.sq, .int .i64 s.ak, .int .i64 s.fl, .int .i64 s.wi, .int .i64 s.ur, .int .i64 s.o.m, .int .i64 s.o.c, .int .i64 s.o.t, .int .i64 s.o.ec, .bool s.o.sd, .bool s.o.ok, .bool s.o.sp, v, .string s.da]] w fun e w' => e = .returned (.agg #[.int .i64 s.fr, .int .i64 s.dt, .int .i64 s.sq, .int .i64 s.ak, .int .i64 s.fl, .int .i64 s.wi, .int .i64 s.ur]) ∧ Below w.heap.size w w' := by
  obtain ⟨⟨c0, c1, c2, c3, c4, c5, c6, c7, c8, c9, c10, c11, c12, c13, c14, c15⟩, -, -⟩ := (At.box w #[.int .i64 s.fr, .int .i64 s.dt, .int .i64 s.sq, .int .i64 s.ak, .int .i64 s.fl, .int .i64 s.wi, .int .i64 s.ur, .int .i64 s.o.m, .int .i64 s.o.c, .int .i64 s.o.t, .int .i64 s.o.ec, .bool s.o.sd, .bool s.o.ok, .bool s.o.sp, v, .string s.da] 35).sixteen
  go_enter Tryz.func23, Tryz.ntmps23
  go_wp2
  exact bodyPost_ret (v := .agg #[.int .i64 s.fr, .int .i64 s.dt, .int .i64 s.sq, .int .i64 s.ak, .int .i64 s.fl, .int .i64 s.wi, .int .i64 s.ur]) (by simp [results, Tryz.results23, go_sem]) rfl ⟨rfl, bt (bel1 _ _) (bel1 _ _)⟩
theorem eq7 (x0 x1 x2 x3 x4 x5 x6 y0 y1 y2 y3 y4 y5 y6 : Int) (w : World) : (Op.equalIn 10000 63 (.agg #[.int .i64 x0, .int .i64 x1, .int .i64 x2, .int .i64 x3, .int .i64 x4, .int .i64 x5, .int .i64 x6]) (.agg #[.int .i64 y0, .int .i64 y1, .int .i64 y2, .int .i64 y3, .int .i64 y4, .int .i64 y5, .int .i64 y6])).run Tryz.prog w = .ok (decide (x0 = y0 ∧ x1 = y1 ∧ x2 = y2 ∧ x3 = y3 ∧ x4 = y4 ∧ x5 = y5 ∧ x6 = y6)) w := by
  have u3 := Tryz.underlying3
  have a3 := Tryz.isAgg3
  have z3 := Tryz.sizeOf3
  rw [show (10000 : Nat) = 9999 + 1 from rfl, Op.equalIn]
  simp only [Sem.run_bind, run_underlying Tryz.underlying63, Result.andThen_ok]
  simp only [Std.Legacy.Range.forIn_eq_forIn_range', Std.Legacy.Range.size, Nat.sub_zero, Nat.add_sub_cancel, Nat.div_one, List.range'_succ, List.range'_zero, List.forIn_cons, List.forIn_nil]
  go_simp
  by_cases h0 : x0 = y0
  case neg => simp [h0]
  subst h0
  by_cases h1 : x1 = y1
  case neg => simp [h1]
  subst h1
  by_cases h2 : x2 = y2
  case neg => simp [h2]
  subst h2
  by_cases h3 : x3 = y3
  case neg => simp [h3]
  subst h3
  by_cases h4 : x4 = y4
  case neg => simp [h4]
  subst h4
  by_cases h5 : x5 = y5
  case neg => simp [h5]
  subst h5
  by_cases h6 : x6 = y6
  case neg => simp [h6]
  subst h6
  simp
theorem run_eq7 (x0 x1 x2 x3 x4 x5 x6 y0 y1 y2 y3 y4 y5 y6 : Int) (W : World) : (binOp .eql 63 (.agg #[.int .i64 x0, .int .i64 x1, .int .i64 x2, .int .i64 x3, .int .i64 x4, .int .i64 x5, .int .i64 x6]) (.agg #[.int .i64 y0, .int .i64 y1, .int .i64 y2, .int .i64 y3, .int .i64 y4, .int .i64 y5, .int .i64 y6])).run Tryz.prog W = .ok (.bool (decide (x0 = y0 ∧ x1 = y1 ∧ x2 = y2 ∧ x3 = y3 ∧ x4 = y4 ∧ x5 = y5 ∧ x6 = y6))) W := by
  rw [run_eql_struct, eq7]; rfl
def sameNG (a b : Sg) : Bool := decide (a.fr = b.fr ∧ a.dt = b.dt ∧ a.sq = b.sq ∧ a.ak = b.ak ∧ a.fl = b.fl ∧ a.wi = b.wi ∧ a.ur = b.ur)
def sameOO (a b : Op) : Bool := sameO a.m a.c a.t a.ec a.sd a.ok a.sp a.rs b.m b.c b.t b.ec b.sd b.ok b.sp b.rs
def sameG (a b : Sg) : Bool := sameNG a b && sameOO a.o b.o && decide (a.da = b.da)
theorem tl_eq (a b : ByteArray) : (a.toList == b.toList) = decide (a = b) := by
  by_cases h : a = b
  · subst h; simp
  · rw [decide_eq_false h]
    simp only [beq_eq_false_iff_ne, ne_eq]
    exact fun e => h (list_inj e)
set_option maxHeartbeats 4000000 in
theorem ssame_yy (a b : Sg) (va vb : Value) (w : World) (hv : Rgs w va a.o.rs) (hv' : Rgs w vb b.o.rs) (hn : a.o.rs.length ≤ 17592186044416) (hn' : b.o.rs.length ≤ 17592186044416) (h1 : sameNG a b = true) (h2 : sameOO a.o b.o = true) :
    Calls Tryz.prog 9 #[.agg #[.int .i64 a.fr, .int .i64 a.dt, .int .i64 a.sq, .int .i64 a.ak, .int .i64 a.fl, .int .i64 a.wi, .int .i64 a.ur, .int .i64 a.o.m, .int .i64 a.o.c, .int .i64 a.o.t, .int .i64 a.o.ec, .bool a.o.sd, .bool a.o.ok, .bool a.o.sp, va, .string a.da], .agg #[.int .i64 b.fr, .int .i64 b.dt, .int .i64 b.sq, .int .i64 b.ak, .int .i64 b.fl, .int .i64 b.wi, .int .i64 b.ur, .int .i64 b.o.m, .int .i64 b.o.c, .int .i64 b.o.t, .int .i64 b.o.ec, .bool b.o.sd, .bool b.o.ok, .bool b.o.sp, vb, .string b.da]] w fun e w' => e = .returned (.bool (decide (a.da = b.da))) ∧ Below w.heap.size w w' := by
  have hb1 := bel1 w (.cells #[.int .i64 a.fr, .int .i64 a.dt, .int .i64 a.sq, .int .i64 a.ak, .int .i64 a.fl, .int .i64 a.wi, .int .i64 a.ur, .int .i64 a.o.m, .int .i64 a.o.c, .int .i64 a.o.t, .int .i64 a.o.ec, .bool a.o.sd, .bool a.o.ok, .bool a.o.sp, va, .string a.da] 35)
  have hb2 := bel1 (w.alloc (.cells #[.int .i64 a.fr, .int .i64 a.dt, .int .i64 a.sq, .int .i64 a.ak, .int .i64 a.fl, .int .i64 a.wi, .int .i64 a.ur, .int .i64 a.o.m, .int .i64 a.o.c, .int .i64 a.o.t, .int .i64 a.o.ec, .bool a.o.sd, .bool a.o.ok, .bool a.o.sp, va, .string a.da] 35)) (.cells #[.int .i64 b.fr, .int .i64 b.dt, .int .i64 b.sq, .int .i64 b.ak, .int .i64 b.fl, .int .i64 b.wi, .int .i64 b.ur, .int .i64 b.o.m, .int .i64 b.o.c, .int .i64 b.o.t, .int .i64 b.o.ec, .bool b.o.sd, .bool b.o.ok, .bool b.o.sp, vb, .string b.da] 35)
  have hd : Below ((w.alloc (.cells #[.int .i64 a.fr, .int .i64 a.dt, .int .i64 a.sq, .int .i64 a.ak, .int .i64 a.fl, .int .i64 a.wi, .int .i64 a.ur, .int .i64 a.o.m, .int .i64 a.o.c, .int .i64 a.o.t, .int .i64 a.o.ec, .bool a.o.sd, .bool a.o.ok, .bool a.o.sp, va, .string a.da] 35)).alloc (.cells #[.int .i64 b.fr, .int .i64 b.dt, .int .i64 b.sq, .int .i64 b.ak, .int .i64 b.fl, .int .i64 b.wi, .int .i64 b.ur, .int .i64 b.o.m, .int .i64 b.o.c, .int .i64 b.o.t, .int .i64 b.o.ec, .bool b.o.sd, .bool b.o.ok, .bool b.o.sp, vb, .string b.da] 35)).heap.size ((w.alloc (.cells #[.int .i64 a.fr, .int .i64 a.dt, .int .i64 a.sq, .int .i64 a.ak, .int .i64 a.fl, .int .i64 a.wi, .int .i64 a.ur, .int .i64 a.o.m, .int .i64 a.o.c, .int .i64 a.o.t, .int .i64 a.o.ec, .bool a.o.sd, .bool a.o.ok, .bool a.o.sp, va, .string a.da] 35)).alloc (.cells #[.int .i64 b.fr, .int .i64 b.dt, .int .i64 b.sq, .int .i64 b.ak, .int .i64 b.fl, .int .i64 b.wi, .int .i64 b.ur, .int .i64 b.o.m, .int .i64 b.o.c, .int .i64 b.o.t, .int .i64 b.o.ec, .bool b.o.sd, .bool b.o.ok, .bool b.o.sp, vb, .string b.da] 35)) ((w.alloc (.cells #[.int .i64 a.fr, .int .i64 a.dt, .int .i64 a.sq, .int .i64 a.ak, .int .i64 a.fl, .int .i64 a.wi, .int .i64 a.ur, .int .i64 a.o.m, .int .i64 a.o.c, .int .i64 a.o.t, .int .i64 a.o.ec, .bool a.o.sd, .bool a.o.ok, .bool a.o.sp, va, .string a.da] 35)).alloc (.cells #[.int .i64 b.fr, .int .i64 b.dt, .int .i64 b.sq, .int .i64 b.ak, .int .i64 b.fl, .int .i64 b.wi, .int .i64 b.ur, .int .i64 b.o.m, .int .i64 b.o.c, .int .i64 b.o.t, .int .i64 b.o.ec, .bool b.o.sd, .bool b.o.ok, .bool b.o.sp, vb, .string b.da] 35)).drew := (Below.refl _ _).drew
  have HS0 : Hid (Below w.heap.size w ((w.alloc (.cells #[.int .i64 a.fr, .int .i64 a.dt, .int .i64 a.sq, .int .i64 a.ak, .int .i64 a.fl, .int .i64 a.wi, .int .i64 a.ur, .int .i64 a.o.m, .int .i64 a.o.c, .int .i64 a.o.t, .int .i64 a.o.ec, .bool a.o.sd, .bool a.o.ok, .bool a.o.sp, va, .string a.da] 35)).alloc (.cells #[.int .i64 b.fr, .int .i64 b.dt, .int .i64 b.sq, .int .i64 b.ak, .int .i64 b.fl, .int .i64 b.wi, .int .i64 b.ur, .int .i64 b.o.m, .int .i64 b.o.c, .int .i64 b.o.t, .int .i64 b.o.ec, .bool b.o.sd, .bool b.o.ok, .bool b.o.sp, vb, .string b.da] 35)).drew ∧ At ((w.alloc (.cells #[.int .i64 a.fr, .int .i64 a.dt, .int .i64 a.sq, .int .i64 a.ak, .int .i64 a.fl, .int .i64 a.wi, .int .i64 a.ur, .int .i64 a.o.m, .int .i64 a.o.c, .int .i64 a.o.t, .int .i64 a.o.ec, .bool a.o.sd, .bool a.o.ok, .bool a.o.sp, va, .string a.da] 35)).alloc (.cells #[.int .i64 b.fr, .int .i64 b.dt, .int .i64 b.sq, .int .i64 b.ak, .int .i64 b.fl, .int .i64 b.wi, .int .i64 b.ur, .int .i64 b.o.m, .int .i64 b.o.c, .int .i64 b.o.t, .int .i64 b.o.ec, .bool b.o.sd, .bool b.o.ok, .bool b.o.sp, vb, .string b.da] 35)).drew w.heap.size #[.int .i64 a.fr, .int .i64 a.dt, .int .i64 a.sq, .int .i64 a.ak, .int .i64 a.fl, .int .i64 a.wi, .int .i64 a.ur, .int .i64 a.o.m, .int .i64 a.o.c, .int .i64 a.o.t, .int .i64 a.o.ec, .bool a.o.sd, .bool a.o.ok, .bool a.o.sp, va, .string a.da] ∧ At ((w.alloc (.cells #[.int .i64 a.fr, .int .i64 a.dt, .int .i64 a.sq, .int .i64 a.ak, .int .i64 a.fl, .int .i64 a.wi, .int .i64 a.ur, .int .i64 a.o.m, .int .i64 a.o.c, .int .i64 a.o.t, .int .i64 a.o.ec, .bool a.o.sd, .bool a.o.ok, .bool a.o.sp, va, .string a.da] 35)).alloc (.cells #[.int .i64 b.fr, .int .i64 b.dt, .int .i64 b.sq, .int .i64 b.ak, .int .i64 b.fl, .int .i64 b.wi, .int .i64 b.ur, .int .i64 b.o.m, .int .i64 b.o.c, .int .i64 b.o.t, .int .i64 b.o.ec, .bool b.o.sd, .bool b.o.ok, .bool b.o.sp, vb, .string b.da] 35)).drew (w.heap.size + 1) #[.int .i64 b.fr, .int .i64 b.dt, .int .i64 b.sq, .int .i64 b.ak, .int .i64 b.fl, .int .i64 b.wi, .int .i64 b.ur, .int .i64 b.o.m, .int .i64 b.o.c, .int .i64 b.o.t, .int .i64 b.o.ec, .bool b.o.sd, .bool b.o.ok, .bool b.o.sp, vb, .string b.da] ∧ Rgs ((w.alloc (.cells #[.int .i64 a.fr, .int .i64 a.dt, .int .i64 a.sq, .int .i64 a.ak, .int .i64 a.fl, .int .i64 a.wi, .int .i64 a.ur, .int .i64 a.o.m, .int .i64 a.o.c, .int .i64 a.o.t, .int .i64 a.o.ec, .bool a.o.sd, .bool a.o.ok, .bool a.o.sp, va, .string a.da] 35)).alloc (.cells #[.int .i64 b.fr, .int .i64 b.dt, .int .i64 b.sq, .int .i64 b.ak, .int .i64 b.fl, .int .i64 b.wi, .int .i64 b.ur, .int .i64 b.o.m, .int .i64 b.o.c, .int .i64 b.o.t, .int .i64 b.o.ec, .bool b.o.sd, .bool b.o.ok, .bool b.o.sp, vb, .string b.da] 35)).drew va a.o.rs ∧ Rgs ((w.alloc (.cells #[.int .i64 a.fr, .int .i64 a.dt, .int .i64 a.sq, .int .i64 a.ak, .int .i64 a.fl, .int .i64 a.wi, .int .i64 a.ur, .int .i64 a.o.m, .int .i64 a.o.c, .int .i64 a.o.t, .int .i64 a.o.ec, .bool a.o.sd, .bool a.o.ok, .bool a.o.sp, va, .string a.da] 35)).alloc (.cells #[.int .i64 b.fr, .int .i64 b.dt, .int .i64 b.sq, .int .i64 b.ak, .int .i64 b.fl, .int .i64 b.wi, .int .i64 b.ur, .int .i64 b.o.m, .int .i64 b.o.c, .int .i64 b.o.t, .int .i64 b.o.ec, .bool b.o.sd, .bool b.o.ok, .bool b.o.sp, vb, .string b.da] 35)).drew vb b.o.rs) := ⟨bt (bt hb1 hb2) hd, ((At.box w _ 35).later hb2).later hd, (At.box2 w _ _ 35).later hd, ((hv.later hb1).later hb2).later hd, ((hv'.later hb1).later hb2).later hd⟩
  have HN : Hid (a.o.rs.length ≤ 17592186044416) := hn
  have HN' : Hid (b.o.rs.length ≤ 17592186044416) := hn'
  have heq := fun W => run_eq7 a.fr a.dt a.sq a.ak a.fl a.wi a.ur b.fr b.dt b.sq b.ak b.fl b.wi b.ur W
  rw [show decide (a.fr = b.fr ∧ a.dt = b.dt ∧ a.sq = b.sq ∧ a.ak = b.ak ∧ a.fl = b.fl ∧ a.wi = b.wi ∧ a.ur = b.ur) = true from h1] at heq
  have HEQ : Hid (∀ W, (binOp .eql 63 (.agg #[.int .i64 a.fr, .int .i64 a.dt, .int .i64 a.sq, .int .i64 a.ak, .int .i64 a.fl, .int .i64 a.wi, .int .i64 a.ur]) (.agg #[.int .i64 b.fr, .int .i64 b.dt, .int .i64 b.sq, .int .i64 b.ak, .int .i64 b.fl, .int .i64 b.wi, .int .i64 b.ur])).run Tryz.prog W = .ok (.bool true) W) := heq
  have HOO : Hid (sameO a.o.m a.o.c a.o.t a.o.ec a.o.sd a.o.ok a.o.sp a.o.rs b.o.m b.o.c b.o.t b.o.ec b.o.sd b.o.ok b.o.sp b.o.rs = true) := h2
  clear hb1 hb2 hd hv hv' hn hn' h1 heq
  go_enter Tryz.func9, Tryz.ntmps9
  go_wp2
  refine wp_region_any (by kernel_rfl) ?_
  refine region_facts (fun W => Below w.heap.size w W ∧ At W w.heap.size #[.int .i64 a.fr, .int .i64 a.dt, .int .i64 a.sq, .int .i64 a.ak, .int .i64 a.fl, .int .i64 a.wi, .int .i64 a.ur, .int .i64 a.o.m, .int .i64 a.o.c, .int .i64 a.o.t, .int .i64 a.o.ec, .bool a.o.sd, .bool a.o.ok, .bool a.o.sp, va, .string a.da] ∧ At W (w.heap.size + 1) #[.int .i64 b.fr, .int .i64 b.dt, .int .i64 b.sq, .int .i64 b.ak, .int .i64 b.fl, .int .i64 b.wi, .int .i64 b.ur, .int .i64 b.o.m, .int .i64 b.o.c, .int .i64 b.o.t, .int .i64 b.o.ec, .bool b.o.sd, .bool b.o.ok, .bool b.o.sp, vb, .string b.da] ∧ Rgs W va a.o.rs ∧ Rgs W vb b.o.rs) (GE (fun qq => match qq with | 0 => .agg #[.int .i64 a.fr, .int .i64 a.dt, .int .i64 a.sq, .int .i64 a.ak, .int .i64 a.fl, .int .i64 a.wi, .int .i64 a.ur, .int .i64 a.o.m, .int .i64 a.o.c, .int .i64 a.o.t, .int .i64 a.o.ec, .bool a.o.sd, .bool a.o.ok, .bool a.o.sp, va, .string a.da] | 1 => .agg #[.int .i64 a.fr, .int .i64 a.dt, .int .i64 a.sq, .int .i64 a.ak, .int .i64 a.fl, .int .i64 a.wi, .int .i64 a.ur] | 2 => .agg #[.int .i64 b.fr, .int .i64 b.dt, .int .i64 b.sq, .int .i64 b.ak, .int .i64 b.fl, .int .i64 b.wi, .int .i64 b.ur, .int .i64 b.o.m, .int .i64 b.o.c, .int .i64 b.o.t, .int .i64 b.o.ec, .bool b.o.sd, .bool b.o.ok, .bool b.o.sp, vb, .string b.da] | 3 => .agg #[.int .i64 b.fr, .int .i64 b.dt, .int .i64 b.sq, .int .i64 b.ak, .int .i64 b.fl, .int .i64 b.wi, .int .i64 b.ur] | 4 => .bool true | 5 => .bool true | 6 => .pointer (some ⟨w.heap.size, 7, none⟩) | 7 => .agg #[.int .i64 a.o.m, .int .i64 a.o.c, .int .i64 a.o.t, .int .i64 a.o.ec, .bool a.o.sd, .bool a.o.ok, .bool a.o.sp, va] | 8 => .pointer (some ⟨w.heap.size + 1, 7, none⟩) | 9 => .agg #[.int .i64 b.o.m, .int .i64 b.o.c, .int .i64 b.o.t, .int .i64 b.o.ec, .bool b.o.sd, .bool b.o.ok, .bool b.o.sp, vb] | 10 => .bool true | 11 => .bool true | 12 => .bool true | 13 => .pointer (some ⟨w.heap.size, 15, none⟩) | 14 => .string a.da | 15 => .pointer (some ⟨w.heap.size + 1, 15, none⟩) | 16 => .string b.da | 17 => .bool (decide (a.da = b.da)) | 18 => .bool (decide (a.da = b.da)) | 19 => .bool (decide (a.da = b.da)) | _ => undef) (fun _ => none)) (n := 24) (by kernel_rfl) rfl (by kernel_rfl) (GE_later _ _ (fun _ _ h => by cases h)) ?_ ?_ HS0.out (Nat.le_refl _)
  · clear HS0
    refine ⟨?_, ?_, ?_, ?_, ?_, ?_, ?_, ?_, ?_, ?_, ?_, ?_, ?_, ?_, ?_, ?_, ?_, ?_, ?_, ?_, trivial⟩
    · intro ac w1 hS hT hB hD K hK
      rw [if_pos (by rfl)]
      have d2 : ac.tmps.getD 2 undef = .pointer (some ⟨w.heap.size, 0, none⟩) := hB 2 (by kernel_rfl)
      clear hB hD hT
      exact wp_load_mid 35 (.tmp 2) rfl (w.heap.size) 0 d2 _ _ hS.2.1.range Tryz.underlying35 rfl size35 (hK _ _ hS (Below.refl _ _) rfl)
    · intro ac w1 hS hT hB hD K hK
      rw [if_pos (by rfl)]
      have d5 : ac.tmps.getD 5 undef = .agg #[.int .i64 a.fr, .int .i64 a.dt, .int .i64 a.sq, .int .i64 a.ak, .int .i64 a.fl, .int .i64 a.wi, .int .i64 a.ur, .int .i64 a.o.m, .int .i64 a.o.c, .int .i64 a.o.t, .int .i64 a.o.ec, .bool a.o.sd, .bool a.o.ok, .bool a.o.sp, va, .string a.da] := hD ⟨0, .data⟩ (by simp) rfl _ 5 rfl rfl
      clear hB hD hT
      go_simp
      refine (numbers_s a va _).mono ?_
      rintro e w' ⟨rfl, hb⟩
      exact hK _ _ (keepS hb hS) hb rfl
    · intro ac w1 hS hT hB hD K hK
      rw [if_pos (by rfl)]
      have d3 : ac.tmps.getD 3 undef = .pointer (some ⟨w.heap.size + 1, 0, none⟩) := hB 3 (by kernel_rfl)
      clear hB hD hT
      exact wp_load_mid 35 (.tmp 3) rfl (w.heap.size + 1) 0 d3 _ _ hS.2.2.1.range Tryz.underlying35 rfl size35 (hK _ _ hS (Below.refl _ _) rfl)
    · intro ac w1 hS hT hB hD K hK
      rw [if_pos (by rfl)]
      have d7 : ac.tmps.getD 7 undef = .agg #[.int .i64 b.fr, .int .i64 b.dt, .int .i64 b.sq, .int .i64 b.ak, .int .i64 b.fl, .int .i64 b.wi, .int .i64 b.ur, .int .i64 b.o.m, .int .i64 b.o.c, .int .i64 b.o.t, .int .i64 b.o.ec, .bool b.o.sd, .bool b.o.ok, .bool b.o.sp, vb, .string b.da] := hD ⟨2, .data⟩ (by simp) rfl _ 7 rfl rfl
      clear hB hD hT
      go_simp
      refine (numbers_s b vb _).mono ?_
      rintro e w' ⟨rfl, hb⟩
      exact hK _ _ (keepS hb hS) hb rfl
    · intro ac w1 hS hT hB hD K hK
      rw [if_pos (by rfl)]
      have d6 : ac.tmps.getD 6 undef = .agg #[.int .i64 a.fr, .int .i64 a.dt, .int .i64 a.sq, .int .i64 a.ak, .int .i64 a.fl, .int .i64 a.wi, .int .i64 a.ur] := hD ⟨1, .data⟩ (by simp) rfl _ 6 rfl rfl
      have d8 : ac.tmps.getD 8 undef = .agg #[.int .i64 b.fr, .int .i64 b.dt, .int .i64 b.sq, .int .i64 b.ak, .int .i64 b.fl, .int .i64 b.wi, .int .i64 b.ur] := hD ⟨3, .data⟩ (by simp) rfl _ 8 rfl rfl
      clear hB hD hT
      have hq := HEQ.out
      go_simp
      exact hK _ _ hS (Below.refl _ _) rfl
    · intro ac w1 hS hT hB hD K hK
      rw [if_pos (by rfl)]
      have d9 : ac.tmps.getD 9 undef = .bool true := hD ⟨4, .data⟩ (by simp) rfl _ 9 rfl rfl
      clear hB hD hT
      go_simp
      exact hK _ _ hS (Below.refl _ _) rfl
    · intro ac w1 hS hT hB hD K hK
      have g10 : ac.tmps.getD 10 undef = .bool true := hD ⟨5, .guard⟩ (by simp) rfl _ 10 rfl rfl
      rw [if_pos (want_t (j := 5) (d := 10) rfl rfl g10)]
      clear g10
      have d2 : ac.tmps.getD 2 undef = .pointer (some ⟨w.heap.size, 0, none⟩) := hB 2 (by kernel_rfl)
      clear hB hD hT
      go_simp
      exact hK _ _ hS (Below.refl _ _) rfl
    · intro ac w1 hS hT hB hD K hK
      have g10 : ac.tmps.getD 10 undef = .bool true := hD ⟨5, .guard⟩ (by simp) rfl _ 10 rfl rfl
      rw [if_pos (want_t (j := 5) (d := 10) rfl rfl g10)]
      clear g10
      have d11 : ac.tmps.getD 11 undef = .pointer (some ⟨w.heap.size, 7, none⟩) := hD ⟨6, .data⟩ (by simp) rfl _ 11 rfl rfl
      clear hB hD hT
      exact wp_load_mid 33 (.tmp 11) rfl (w.heap.size) 7 d11 _ _ hS.2.1.opts Tryz.underlying33 rfl size33 (hK _ _ hS (Below.refl _ _) rfl)
    · intro ac w1 hS hT hB hD K hK
      have g10 : ac.tmps.getD 10 undef = .bool true := hD ⟨5, .guard⟩ (by simp) rfl _ 10 rfl rfl
      rw [if_pos (want_t (j := 5) (d := 10) rfl rfl g10)]
      clear g10
      have d3 : ac.tmps.getD 3 undef = .pointer (some ⟨w.heap.size + 1, 0, none⟩) := hB 3 (by kernel_rfl)
      clear hB hD hT
      go_simp
      exact hK _ _ hS (Below.refl _ _) rfl
    · intro ac w1 hS hT hB hD K hK
      have g10 : ac.tmps.getD 10 undef = .bool true := hD ⟨5, .guard⟩ (by simp) rfl _ 10 rfl rfl
      rw [if_pos (want_t (j := 5) (d := 10) rfl rfl g10)]
      clear g10
      have d13 : ac.tmps.getD 13 undef = .pointer (some ⟨w.heap.size + 1, 7, none⟩) := hD ⟨8, .data⟩ (by simp) rfl _ 13 rfl rfl
      clear hB hD hT
      exact wp_load_mid 33 (.tmp 13) rfl (w.heap.size + 1) 7 d13 _ _ hS.2.2.1.opts Tryz.underlying33 rfl size33 (hK _ _ hS (Below.refl _ _) rfl)
    · intro ac w1 hS hT hB hD K hK
      have g10 : ac.tmps.getD 10 undef = .bool true := hD ⟨5, .guard⟩ (by simp) rfl _ 10 rfl rfl
      rw [if_pos (want_t (j := 5) (d := 10) rfl rfl g10)]
      clear g10
      have d12 : ac.tmps.getD 12 undef = .agg #[.int .i64 a.o.m, .int .i64 a.o.c, .int .i64 a.o.t, .int .i64 a.o.ec, .bool a.o.sd, .bool a.o.ok, .bool a.o.sp, va] := hD ⟨7, .data⟩ (by simp) rfl _ 12 rfl rfl
      have d14 : ac.tmps.getD 14 undef = .agg #[.int .i64 b.o.m, .int .i64 b.o.c, .int .i64 b.o.t, .int .i64 b.o.ec, .bool b.o.sd, .bool b.o.ok, .bool b.o.sp, vb] := hD ⟨9, .data⟩ (by simp) rfl _ 14 rfl rfl
      clear hB hD hT
      go_simp
      have hq := same_any a.o.m a.o.c a.o.t a.o.ec a.o.sd a.o.ok a.o.sp va a.o.rs b.o.m b.o.c b.o.t b.o.ec b.o.sd b.o.ok b.o.sp vb b.o.rs _ hS.2.2.2.1 hS.2.2.2.2 HN.out HN'.out
      rw [HOO.out] at hq
      refine hq.mono ?_
      rintro e w' ⟨rfl, hb⟩
      exact hK _ _ (keepS hb hS) hb rfl
    · intro ac w1 hS hT hB hD K hK
      rw [if_pos (by rfl)]
      have d10 : ac.tmps.getD 10 undef = .bool true := hD ⟨5, .data⟩ (by simp) rfl _ 10 rfl rfl
      have d15 : ac.tmps.getD 15 undef = .bool true := hD ⟨10, .data⟩ (by simp) rfl _ 15 rfl rfl
      clear hB hD hT
      go_simp
      exact hK _ _ hS (Below.refl _ _) rfl
    · intro ac w1 hS hT hB hD K hK
      rw [if_pos (by rfl)]
      have d16 : ac.tmps.getD 16 undef = .bool true := hD ⟨11, .data⟩ (by simp) rfl _ 16 rfl rfl
      clear hB hD hT
      go_simp
      exact hK _ _ hS (Below.refl _ _) rfl
    · intro ac w1 hS hT hB hD K hK
      have g17 : ac.tmps.getD 17 undef = .bool true := hD ⟨12, .guard⟩ (by simp) rfl _ 17 rfl rfl
      rw [if_pos (want_t (j := 12) (d := 17) rfl rfl g17)]
      clear g17
      have d2 : ac.tmps.getD 2 undef = .pointer (some ⟨w.heap.size, 0, none⟩) := hB 2 (by kernel_rfl)
      clear hB hD hT
      go_simp
      exact hK _ _ hS (Below.refl _ _) rfl
    · intro ac w1 hS hT hB hD K hK
      have g17 : ac.tmps.getD 17 undef = .bool true := hD ⟨12, .guard⟩ (by simp) rfl _ 17 rfl rfl
      rw [if_pos (want_t (j := 12) (d := 17) rfl rfl g17)]
      clear g17
      have d18 : ac.tmps.getD 18 undef = .pointer (some ⟨w.heap.size, 15, none⟩) := hD ⟨13, .data⟩ (by simp) rfl _ 18 rfl rfl
      clear hB hD hT
      have hc := hS.2.1.sixteen.1
      go_simp
      exact hK _ _ hS (Below.refl _ _) rfl
    · intro ac w1 hS hT hB hD K hK
      have g17 : ac.tmps.getD 17 undef = .bool true := hD ⟨12, .guard⟩ (by simp) rfl _ 17 rfl rfl
      rw [if_pos (want_t (j := 12) (d := 17) rfl rfl g17)]
      clear g17
      have d3 : ac.tmps.getD 3 undef = .pointer (some ⟨w.heap.size + 1, 0, none⟩) := hB 3 (by kernel_rfl)
      clear hB hD hT
      go_simp
      exact hK _ _ hS (Below.refl _ _) rfl
    · intro ac w1 hS hT hB hD K hK
      have g17 : ac.tmps.getD 17 undef = .bool true := hD ⟨12, .guard⟩ (by simp) rfl _ 17 rfl rfl
      rw [if_pos (want_t (j := 12) (d := 17) rfl rfl g17)]
      clear g17
      have d20 : ac.tmps.getD 20 undef = .pointer (some ⟨w.heap.size + 1, 15, none⟩) := hD ⟨15, .data⟩ (by simp) rfl _ 20 rfl rfl
      clear hB hD hT
      have hc := hS.2.2.1.sixteen.1
      go_simp
      exact hK _ _ hS (Below.refl _ _) rfl
    · intro ac w1 hS hT hB hD K hK
      have g17 : ac.tmps.getD 17 undef = .bool true := hD ⟨12, .guard⟩ (by simp) rfl _ 17 rfl rfl
      rw [if_pos (want_t (j := 12) (d := 17) rfl rfl g17)]
      clear g17
      have d19 : ac.tmps.getD 19 undef = .string a.da := hD ⟨14, .data⟩ (by simp) rfl _ 19 rfl rfl
      have d21 : ac.tmps.getD 21 undef = .string b.da := hD ⟨16, .data⟩ (by simp) rfl _ 21 rfl rfl
      clear hB hD hT
      go_simp
      exact hK _ _ hS (Below.refl _ _) (congrArg Value.bool (tl_eq _ _))
    · intro ac w1 hS hT hB hD K hK
      rw [if_pos (by rfl)]
      have d17 : ac.tmps.getD 17 undef = .bool true := hD ⟨12, .data⟩ (by simp) rfl _ 17 rfl rfl
      have d22 : ac.tmps.getD 22 undef = .bool (decide (a.da = b.da)) := hD ⟨17, .data⟩ (by simp) rfl _ 22 rfl rfl
      clear hB hD hT
      go_simp
      exact hK _ _ hS (Below.refl _ _) rfl
    · intro ac w1 hS hT hB hD K hK
      rw [if_pos (by rfl)]
      have d23 : ac.tmps.getD 23 undef = .bool (decide (a.da = b.da)) := hD ⟨18, .data⟩ (by simp) rfl _ 23 rfl rfl
      clear hB hD hT
      go_simp
      exact hK _ _ hS (Below.refl _ _) rfl
  · intro ac w1 hS hT hdf hB hF
    clear HS0
    have hfr : ac.tmps = #[.agg #[.int .i64 a.fr, .int .i64 a.dt, .int .i64 a.sq, .int .i64 a.ak, .int .i64 a.fl, .int .i64 a.wi, .int .i64 a.ur, .int .i64 a.o.m, .int .i64 a.o.c, .int .i64 a.o.t, .int .i64 a.o.ec, .bool a.o.sd, .bool a.o.ok, .bool a.o.sp, va, .string a.da], .agg #[.int .i64 b.fr, .int .i64 b.dt, .int .i64 b.sq, .int .i64 b.ak, .int .i64 b.fl, .int .i64 b.wi, .int .i64 b.ur, .int .i64 b.o.m, .int .i64 b.o.c, .int .i64 b.o.t, .int .i64 b.o.ec, .bool b.o.sd, .bool b.o.ok, .bool b.o.sp, vb, .string b.da], .pointer (some ⟨w.heap.size, 0, none⟩), .pointer (some ⟨w.heap.size + 1, 0, none⟩), (ac.tmps.getD 4 undef), (ac.tmps.getD 5 undef), (ac.tmps.getD 6 undef), (ac.tmps.getD 7 undef), (ac.tmps.getD 8 undef), (ac.tmps.getD 9 undef), (ac.tmps.getD 10 undef), (ac.tmps.getD 11 undef), (ac.tmps.getD 12 undef), (ac.tmps.getD 13 undef), (ac.tmps.getD 14 undef), (ac.tmps.getD 15 undef), (ac.tmps.getD 16 undef), (ac.tmps.getD 17 undef), (ac.tmps.getD 18 undef), (ac.tmps.getD 19 undef), (ac.tmps.getD 20 undef), (ac.tmps.getD 21 undef), (ac.tmps.getD 22 undef), (ac.tmps.getD 23 undef)] := (frame_eq hT rfl hB).trans (by kernel_rfl)
    obtain ⟨T, df⟩ := ac
    have s4 : T.getD 4 undef = .bool (decide (a.da = b.da)) := hF 19 _ 4 rfl rfl
    have sdf : df = [] := hdf
    simp only at hfr
    clear hB hF hT hdf
    generalize T.getD 5 undef = y5 at *
    generalize T.getD 6 undef = y6 at *
    generalize T.getD 7 undef = y7 at *
    generalize T.getD 8 undef = y8 at *
    generalize T.getD 9 undef = y9 at *
    generalize T.getD 10 undef = y10 at *
    generalize T.getD 11 undef = y11 at *
    generalize T.getD 12 undef = y12 at *
    generalize T.getD 13 undef = y13 at *
    generalize T.getD 14 undef = y14 at *
    generalize T.getD 15 undef = y15 at *
    generalize T.getD 16 undef = y16 at *
    generalize T.getD 17 undef = y17 at *
    generalize T.getD 18 undef = y18 at *
    generalize T.getD 19 undef = y19 at *
    generalize T.getD 20 undef = y20 at *
    generalize T.getD 21 undef = y21 at *
    generalize T.getD 22 undef = y22 at *
    generalize T.getD 23 undef = y23 at *
    generalize T.getD 4 undef = y4 at *
    subst hfr s4 sdf
    go_wp2
    go_ret
    exact ⟨rfl, hS.1⟩
set_option maxHeartbeats 4000000 in
theorem ssame_yn (a b : Sg) (va vb : Value) (w : World) (hv : Rgs w va a.o.rs) (hv' : Rgs w vb b.o.rs) (hn : a.o.rs.length ≤ 17592186044416) (hn' : b.o.rs.length ≤ 17592186044416) (h1 : sameNG a b = true) (h2 : sameOO a.o b.o = false) :
    Calls Tryz.prog 9 #[.agg #[.int .i64 a.fr, .int .i64 a.dt, .int .i64 a.sq, .int .i64 a.ak, .int .i64 a.fl, .int .i64 a.wi, .int .i64 a.ur, .int .i64 a.o.m, .int .i64 a.o.c, .int .i64 a.o.t, .int .i64 a.o.ec, .bool a.o.sd, .bool a.o.ok, .bool a.o.sp, va, .string a.da], .agg #[.int .i64 b.fr, .int .i64 b.dt, .int .i64 b.sq, .int .i64 b.ak, .int .i64 b.fl, .int .i64 b.wi, .int .i64 b.ur, .int .i64 b.o.m, .int .i64 b.o.c, .int .i64 b.o.t, .int .i64 b.o.ec, .bool b.o.sd, .bool b.o.ok, .bool b.o.sp, vb, .string b.da]] w fun e w' => e = .returned (.bool false) ∧ Below w.heap.size w w' := by
  have hb1 := bel1 w (.cells #[.int .i64 a.fr, .int .i64 a.dt, .int .i64 a.sq, .int .i64 a.ak, .int .i64 a.fl, .int .i64 a.wi, .int .i64 a.ur, .int .i64 a.o.m, .int .i64 a.o.c, .int .i64 a.o.t, .int .i64 a.o.ec, .bool a.o.sd, .bool a.o.ok, .bool a.o.sp, va, .string a.da] 35)
  have hb2 := bel1 (w.alloc (.cells #[.int .i64 a.fr, .int .i64 a.dt, .int .i64 a.sq, .int .i64 a.ak, .int .i64 a.fl, .int .i64 a.wi, .int .i64 a.ur, .int .i64 a.o.m, .int .i64 a.o.c, .int .i64 a.o.t, .int .i64 a.o.ec, .bool a.o.sd, .bool a.o.ok, .bool a.o.sp, va, .string a.da] 35)) (.cells #[.int .i64 b.fr, .int .i64 b.dt, .int .i64 b.sq, .int .i64 b.ak, .int .i64 b.fl, .int .i64 b.wi, .int .i64 b.ur, .int .i64 b.o.m, .int .i64 b.o.c, .int .i64 b.o.t, .int .i64 b.o.ec, .bool b.o.sd, .bool b.o.ok, .bool b.o.sp, vb, .string b.da] 35)
  have hd : Below ((w.alloc (.cells #[.int .i64 a.fr, .int .i64 a.dt, .int .i64 a.sq, .int .i64 a.ak, .int .i64 a.fl, .int .i64 a.wi, .int .i64 a.ur, .int .i64 a.o.m, .int .i64 a.o.c, .int .i64 a.o.t, .int .i64 a.o.ec, .bool a.o.sd, .bool a.o.ok, .bool a.o.sp, va, .string a.da] 35)).alloc (.cells #[.int .i64 b.fr, .int .i64 b.dt, .int .i64 b.sq, .int .i64 b.ak, .int .i64 b.fl, .int .i64 b.wi, .int .i64 b.ur, .int .i64 b.o.m, .int .i64 b.o.c, .int .i64 b.o.t, .int .i64 b.o.ec, .bool b.o.sd, .bool b.o.ok, .bool b.o.sp, vb, .string b.da] 35)).heap.size ((w.alloc (.cells #[.int .i64 a.fr, .int .i64 a.dt, .int .i64 a.sq, .int .i64 a.ak, .int .i64 a.fl, .int .i64 a.wi, .int .i64 a.ur, .int .i64 a.o.m, .int .i64 a.o.c, .int .i64 a.o.t, .int .i64 a.o.ec, .bool a.o.sd, .bool a.o.ok, .bool a.o.sp, va, .string a.da] 35)).alloc (.cells #[.int .i64 b.fr, .int .i64 b.dt, .int .i64 b.sq, .int .i64 b.ak, .int .i64 b.fl, .int .i64 b.wi, .int .i64 b.ur, .int .i64 b.o.m, .int .i64 b.o.c, .int .i64 b.o.t, .int .i64 b.o.ec, .bool b.o.sd, .bool b.o.ok, .bool b.o.sp, vb, .string b.da] 35)) ((w.alloc (.cells #[.int .i64 a.fr, .int .i64 a.dt, .int .i64 a.sq, .int .i64 a.ak, .int .i64 a.fl, .int .i64 a.wi, .int .i64 a.ur, .int .i64 a.o.m, .int .i64 a.o.c, .int .i64 a.o.t, .int .i64 a.o.ec, .bool a.o.sd, .bool a.o.ok, .bool a.o.sp, va, .string a.da] 35)).alloc (.cells #[.int .i64 b.fr, .int .i64 b.dt, .int .i64 b.sq, .int .i64 b.ak, .int .i64 b.fl, .int .i64 b.wi, .int .i64 b.ur, .int .i64 b.o.m, .int .i64 b.o.c, .int .i64 b.o.t, .int .i64 b.o.ec, .bool b.o.sd, .bool b.o.ok, .bool b.o.sp, vb, .string b.da] 35)).drew := (Below.refl _ _).drew
  have HS0 : Hid (Below w.heap.size w ((w.alloc (.cells #[.int .i64 a.fr, .int .i64 a.dt, .int .i64 a.sq, .int .i64 a.ak, .int .i64 a.fl, .int .i64 a.wi, .int .i64 a.ur, .int .i64 a.o.m, .int .i64 a.o.c, .int .i64 a.o.t, .int .i64 a.o.ec, .bool a.o.sd, .bool a.o.ok, .bool a.o.sp, va, .string a.da] 35)).alloc (.cells #[.int .i64 b.fr, .int .i64 b.dt, .int .i64 b.sq, .int .i64 b.ak, .int .i64 b.fl, .int .i64 b.wi, .int .i64 b.ur, .int .i64 b.o.m, .int .i64 b.o.c, .int .i64 b.o.t, .int .i64 b.o.ec, .bool b.o.sd, .bool b.o.ok, .bool b.o.sp, vb, .string b.da] 35)).drew ∧ At ((w.alloc (.cells #[.int .i64 a.fr, .int .i64 a.dt, .int .i64 a.sq, .int .i64 a.ak, .int .i64 a.fl, .int .i64 a.wi, .int .i64 a.ur, .int .i64 a.o.m, .int .i64 a.o.c, .int .i64 a.o.t, .int .i64 a.o.ec, .bool a.o.sd, .bool a.o.ok, .bool a.o.sp, va, .string a.da] 35)).alloc (.cells #[.int .i64 b.fr, .int .i64 b.dt, .int .i64 b.sq, .int .i64 b.ak, .int .i64 b.fl, .int .i64 b.wi, .int .i64 b.ur, .int .i64 b.o.m, .int .i64 b.o.c, .int .i64 b.o.t, .int .i64 b.o.ec, .bool b.o.sd, .bool b.o.ok, .bool b.o.sp, vb, .string b.da] 35)).drew w.heap.size #[.int .i64 a.fr, .int .i64 a.dt, .int .i64 a.sq, .int .i64 a.ak, .int .i64 a.fl, .int .i64 a.wi, .int .i64 a.ur, .int .i64 a.o.m, .int .i64 a.o.c, .int .i64 a.o.t, .int .i64 a.o.ec, .bool a.o.sd, .bool a.o.ok, .bool a.o.sp, va, .string a.da] ∧ At ((w.alloc (.cells #[.int .i64 a.fr, .int .i64 a.dt, .int .i64 a.sq, .int .i64 a.ak, .int .i64 a.fl, .int .i64 a.wi, .int .i64 a.ur, .int .i64 a.o.m, .int .i64 a.o.c, .int .i64 a.o.t, .int .i64 a.o.ec, .bool a.o.sd, .bool a.o.ok, .bool a.o.sp, va, .string a.da] 35)).alloc (.cells #[.int .i64 b.fr, .int .i64 b.dt, .int .i64 b.sq, .int .i64 b.ak, .int .i64 b.fl, .int .i64 b.wi, .int .i64 b.ur, .int .i64 b.o.m, .int .i64 b.o.c, .int .i64 b.o.t, .int .i64 b.o.ec, .bool b.o.sd, .bool b.o.ok, .bool b.o.sp, vb, .string b.da] 35)).drew (w.heap.size + 1) #[.int .i64 b.fr, .int .i64 b.dt, .int .i64 b.sq, .int .i64 b.ak, .int .i64 b.fl, .int .i64 b.wi, .int .i64 b.ur, .int .i64 b.o.m, .int .i64 b.o.c, .int .i64 b.o.t, .int .i64 b.o.ec, .bool b.o.sd, .bool b.o.ok, .bool b.o.sp, vb, .string b.da] ∧ Rgs ((w.alloc (.cells #[.int .i64 a.fr, .int .i64 a.dt, .int .i64 a.sq, .int .i64 a.ak, .int .i64 a.fl, .int .i64 a.wi, .int .i64 a.ur, .int .i64 a.o.m, .int .i64 a.o.c, .int .i64 a.o.t, .int .i64 a.o.ec, .bool a.o.sd, .bool a.o.ok, .bool a.o.sp, va, .string a.da] 35)).alloc (.cells #[.int .i64 b.fr, .int .i64 b.dt, .int .i64 b.sq, .int .i64 b.ak, .int .i64 b.fl, .int .i64 b.wi, .int .i64 b.ur, .int .i64 b.o.m, .int .i64 b.o.c, .int .i64 b.o.t, .int .i64 b.o.ec, .bool b.o.sd, .bool b.o.ok, .bool b.o.sp, vb, .string b.da] 35)).drew va a.o.rs ∧ Rgs ((w.alloc (.cells #[.int .i64 a.fr, .int .i64 a.dt, .int .i64 a.sq, .int .i64 a.ak, .int .i64 a.fl, .int .i64 a.wi, .int .i64 a.ur, .int .i64 a.o.m, .int .i64 a.o.c, .int .i64 a.o.t, .int .i64 a.o.ec, .bool a.o.sd, .bool a.o.ok, .bool a.o.sp, va, .string a.da] 35)).alloc (.cells #[.int .i64 b.fr, .int .i64 b.dt, .int .i64 b.sq, .int .i64 b.ak, .int .i64 b.fl, .int .i64 b.wi, .int .i64 b.ur, .int .i64 b.o.m, .int .i64 b.o.c, .int .i64 b.o.t, .int .i64 b.o.ec, .bool b.o.sd, .bool b.o.ok, .bool b.o.sp, vb, .string b.da] 35)).drew vb b.o.rs) := ⟨bt (bt hb1 hb2) hd, ((At.box w _ 35).later hb2).later hd, (At.box2 w _ _ 35).later hd, ((hv.later hb1).later hb2).later hd, ((hv'.later hb1).later hb2).later hd⟩
  have HN : Hid (a.o.rs.length ≤ 17592186044416) := hn
  have HN' : Hid (b.o.rs.length ≤ 17592186044416) := hn'
  have heq := fun W => run_eq7 a.fr a.dt a.sq a.ak a.fl a.wi a.ur b.fr b.dt b.sq b.ak b.fl b.wi b.ur W
  rw [show decide (a.fr = b.fr ∧ a.dt = b.dt ∧ a.sq = b.sq ∧ a.ak = b.ak ∧ a.fl = b.fl ∧ a.wi = b.wi ∧ a.ur = b.ur) = true from h1] at heq
  have HEQ : Hid (∀ W, (binOp .eql 63 (.agg #[.int .i64 a.fr, .int .i64 a.dt, .int .i64 a.sq, .int .i64 a.ak, .int .i64 a.fl, .int .i64 a.wi, .int .i64 a.ur]) (.agg #[.int .i64 b.fr, .int .i64 b.dt, .int .i64 b.sq, .int .i64 b.ak, .int .i64 b.fl, .int .i64 b.wi, .int .i64 b.ur])).run Tryz.prog W = .ok (.bool true) W) := heq
  have HOO : Hid (sameO a.o.m a.o.c a.o.t a.o.ec a.o.sd a.o.ok a.o.sp a.o.rs b.o.m b.o.c b.o.t b.o.ec b.o.sd b.o.ok b.o.sp b.o.rs = false) := h2
  clear hb1 hb2 hd hv hv' hn hn' h1 heq
  go_enter Tryz.func9, Tryz.ntmps9
  go_wp2
  refine wp_region_any (by kernel_rfl) ?_
  refine region_facts (fun W => Below w.heap.size w W ∧ At W w.heap.size #[.int .i64 a.fr, .int .i64 a.dt, .int .i64 a.sq, .int .i64 a.ak, .int .i64 a.fl, .int .i64 a.wi, .int .i64 a.ur, .int .i64 a.o.m, .int .i64 a.o.c, .int .i64 a.o.t, .int .i64 a.o.ec, .bool a.o.sd, .bool a.o.ok, .bool a.o.sp, va, .string a.da] ∧ At W (w.heap.size + 1) #[.int .i64 b.fr, .int .i64 b.dt, .int .i64 b.sq, .int .i64 b.ak, .int .i64 b.fl, .int .i64 b.wi, .int .i64 b.ur, .int .i64 b.o.m, .int .i64 b.o.c, .int .i64 b.o.t, .int .i64 b.o.ec, .bool b.o.sd, .bool b.o.ok, .bool b.o.sp, vb, .string b.da] ∧ Rgs W va a.o.rs ∧ Rgs W vb b.o.rs) (GE (fun qq => match qq with | 0 => .agg #[.int .i64 a.fr, .int .i64 a.dt, .int .i64 a.sq, .int .i64 a.ak, .int .i64 a.fl, .int .i64 a.wi, .int .i64 a.ur, .int .i64 a.o.m, .int .i64 a.o.c, .int .i64 a.o.t, .int .i64 a.o.ec, .bool a.o.sd, .bool a.o.ok, .bool a.o.sp, va, .string a.da] | 1 => .agg #[.int .i64 a.fr, .int .i64 a.dt, .int .i64 a.sq, .int .i64 a.ak, .int .i64 a.fl, .int .i64 a.wi, .int .i64 a.ur] | 2 => .agg #[.int .i64 b.fr, .int .i64 b.dt, .int .i64 b.sq, .int .i64 b.ak, .int .i64 b.fl, .int .i64 b.wi, .int .i64 b.ur, .int .i64 b.o.m, .int .i64 b.o.c, .int .i64 b.o.t, .int .i64 b.o.ec, .bool b.o.sd, .bool b.o.ok, .bool b.o.sp, vb, .string b.da] | 3 => .agg #[.int .i64 b.fr, .int .i64 b.dt, .int .i64 b.sq, .int .i64 b.ak, .int .i64 b.fl, .int .i64 b.wi, .int .i64 b.ur] | 4 => .bool true | 5 => .bool true | 6 => .pointer (some ⟨w.heap.size, 7, none⟩) | 7 => .agg #[.int .i64 a.o.m, .int .i64 a.o.c, .int .i64 a.o.t, .int .i64 a.o.ec, .bool a.o.sd, .bool a.o.ok, .bool a.o.sp, va] | 8 => .pointer (some ⟨w.heap.size + 1, 7, none⟩) | 9 => .agg #[.int .i64 b.o.m, .int .i64 b.o.c, .int .i64 b.o.t, .int .i64 b.o.ec, .bool b.o.sd, .bool b.o.ok, .bool b.o.sp, vb] | 10 => .bool false | 11 => .bool false | 12 => .bool false | 18 => .bool false | 19 => .bool false | _ => undef) (fun _ => none)) (n := 24) (by kernel_rfl) rfl (by kernel_rfl) (GE_later _ _ (fun _ _ h => by cases h)) ?_ ?_ HS0.out (Nat.le_refl _)
  · clear HS0
    refine ⟨?_, ?_, ?_, ?_, ?_, ?_, ?_, ?_, ?_, ?_, ?_, ?_, ?_, ?_, ?_, ?_, ?_, ?_, ?_, ?_, trivial⟩
    · intro ac w1 hS hT hB hD K hK
      rw [if_pos (by rfl)]
      have d2 : ac.tmps.getD 2 undef = .pointer (some ⟨w.heap.size, 0, none⟩) := hB 2 (by kernel_rfl)
      clear hB hD hT
      exact wp_load_mid 35 (.tmp 2) rfl (w.heap.size) 0 d2 _ _ hS.2.1.range Tryz.underlying35 rfl size35 (hK _ _ hS (Below.refl _ _) rfl)
    · intro ac w1 hS hT hB hD K hK
      rw [if_pos (by rfl)]
      have d5 : ac.tmps.getD 5 undef = .agg #[.int .i64 a.fr, .int .i64 a.dt, .int .i64 a.sq, .int .i64 a.ak, .int .i64 a.fl, .int .i64 a.wi, .int .i64 a.ur, .int .i64 a.o.m, .int .i64 a.o.c, .int .i64 a.o.t, .int .i64 a.o.ec, .bool a.o.sd, .bool a.o.ok, .bool a.o.sp, va, .string a.da] := hD ⟨0, .data⟩ (by simp) rfl _ 5 rfl rfl
      clear hB hD hT
      go_simp
      refine (numbers_s a va _).mono ?_
      rintro e w' ⟨rfl, hb⟩
      exact hK _ _ (keepS hb hS) hb rfl
    · intro ac w1 hS hT hB hD K hK
      rw [if_pos (by rfl)]
      have d3 : ac.tmps.getD 3 undef = .pointer (some ⟨w.heap.size + 1, 0, none⟩) := hB 3 (by kernel_rfl)
      clear hB hD hT
      exact wp_load_mid 35 (.tmp 3) rfl (w.heap.size + 1) 0 d3 _ _ hS.2.2.1.range Tryz.underlying35 rfl size35 (hK _ _ hS (Below.refl _ _) rfl)
    · intro ac w1 hS hT hB hD K hK
      rw [if_pos (by rfl)]
      have d7 : ac.tmps.getD 7 undef = .agg #[.int .i64 b.fr, .int .i64 b.dt, .int .i64 b.sq, .int .i64 b.ak, .int .i64 b.fl, .int .i64 b.wi, .int .i64 b.ur, .int .i64 b.o.m, .int .i64 b.o.c, .int .i64 b.o.t, .int .i64 b.o.ec, .bool b.o.sd, .bool b.o.ok, .bool b.o.sp, vb, .string b.da] := hD ⟨2, .data⟩ (by simp) rfl _ 7 rfl rfl
      clear hB hD hT
      go_simp
      refine (numbers_s b vb _).mono ?_
      rintro e w' ⟨rfl, hb⟩
      exact hK _ _ (keepS hb hS) hb rfl
    · intro ac w1 hS hT hB hD K hK
      rw [if_pos (by rfl)]
      have d6 : ac.tmps.getD 6 undef = .agg #[.int .i64 a.fr, .int .i64 a.dt, .int .i64 a.sq, .int .i64 a.ak, .int .i64 a.fl, .int .i64 a.wi, .int .i64 a.ur] := hD ⟨1, .data⟩ (by simp) rfl _ 6 rfl rfl
      have d8 : ac.tmps.getD 8 undef = .agg #[.int .i64 b.fr, .int .i64 b.dt, .int .i64 b.sq, .int .i64 b.ak, .int .i64 b.fl, .int .i64 b.wi, .int .i64 b.ur] := hD ⟨3, .data⟩ (by simp) rfl _ 8 rfl rfl
      clear hB hD hT
      have hq := HEQ.out
      go_simp
      exact hK _ _ hS (Below.refl _ _) rfl
    · intro ac w1 hS hT hB hD K hK
      rw [if_pos (by rfl)]
      have d9 : ac.tmps.getD 9 undef = .bool true := hD ⟨4, .data⟩ (by simp) rfl _ 9 rfl rfl
      clear hB hD hT
      go_simp
      exact hK _ _ hS (Below.refl _ _) rfl
    · intro ac w1 hS hT hB hD K hK
      have g10 : ac.tmps.getD 10 undef = .bool true := hD ⟨5, .guard⟩ (by simp) rfl _ 10 rfl rfl
      rw [if_pos (want_t (j := 5) (d := 10) rfl rfl g10)]
      clear g10
      have d2 : ac.tmps.getD 2 undef = .pointer (some ⟨w.heap.size, 0, none⟩) := hB 2 (by kernel_rfl)
      clear hB hD hT
      go_simp
      exact hK _ _ hS (Below.refl _ _) rfl
    · intro ac w1 hS hT hB hD K hK
      have g10 : ac.tmps.getD 10 undef = .bool true := hD ⟨5, .guard⟩ (by simp) rfl _ 10 rfl rfl
      rw [if_pos (want_t (j := 5) (d := 10) rfl rfl g10)]
      clear g10
      have d11 : ac.tmps.getD 11 undef = .pointer (some ⟨w.heap.size, 7, none⟩) := hD ⟨6, .data⟩ (by simp) rfl _ 11 rfl rfl
      clear hB hD hT
      exact wp_load_mid 33 (.tmp 11) rfl (w.heap.size) 7 d11 _ _ hS.2.1.opts Tryz.underlying33 rfl size33 (hK _ _ hS (Below.refl _ _) rfl)
    · intro ac w1 hS hT hB hD K hK
      have g10 : ac.tmps.getD 10 undef = .bool true := hD ⟨5, .guard⟩ (by simp) rfl _ 10 rfl rfl
      rw [if_pos (want_t (j := 5) (d := 10) rfl rfl g10)]
      clear g10
      have d3 : ac.tmps.getD 3 undef = .pointer (some ⟨w.heap.size + 1, 0, none⟩) := hB 3 (by kernel_rfl)
      clear hB hD hT
      go_simp
      exact hK _ _ hS (Below.refl _ _) rfl
    · intro ac w1 hS hT hB hD K hK
      have g10 : ac.tmps.getD 10 undef = .bool true := hD ⟨5, .guard⟩ (by simp) rfl _ 10 rfl rfl
      rw [if_pos (want_t (j := 5) (d := 10) rfl rfl g10)]
      clear g10
      have d13 : ac.tmps.getD 13 undef = .pointer (some ⟨w.heap.size + 1, 7, none⟩) := hD ⟨8, .data⟩ (by simp) rfl _ 13 rfl rfl
      clear hB hD hT
      exact wp_load_mid 33 (.tmp 13) rfl (w.heap.size + 1) 7 d13 _ _ hS.2.2.1.opts Tryz.underlying33 rfl size33 (hK _ _ hS (Below.refl _ _) rfl)
    · intro ac w1 hS hT hB hD K hK
      have g10 : ac.tmps.getD 10 undef = .bool true := hD ⟨5, .guard⟩ (by simp) rfl _ 10 rfl rfl
      rw [if_pos (want_t (j := 5) (d := 10) rfl rfl g10)]
      clear g10
      have d12 : ac.tmps.getD 12 undef = .agg #[.int .i64 a.o.m, .int .i64 a.o.c, .int .i64 a.o.t, .int .i64 a.o.ec, .bool a.o.sd, .bool a.o.ok, .bool a.o.sp, va] := hD ⟨7, .data⟩ (by simp) rfl _ 12 rfl rfl
      have d14 : ac.tmps.getD 14 undef = .agg #[.int .i64 b.o.m, .int .i64 b.o.c, .int .i64 b.o.t, .int .i64 b.o.ec, .bool b.o.sd, .bool b.o.ok, .bool b.o.sp, vb] := hD ⟨9, .data⟩ (by simp) rfl _ 14 rfl rfl
      clear hB hD hT
      go_simp
      have hq := same_any a.o.m a.o.c a.o.t a.o.ec a.o.sd a.o.ok a.o.sp va a.o.rs b.o.m b.o.c b.o.t b.o.ec b.o.sd b.o.ok b.o.sp vb b.o.rs _ hS.2.2.2.1 hS.2.2.2.2 HN.out HN'.out
      rw [HOO.out] at hq
      refine hq.mono ?_
      rintro e w' ⟨rfl, hb⟩
      exact hK _ _ (keepS hb hS) hb rfl
    · intro ac w1 hS hT hB hD K hK
      rw [if_pos (by rfl)]
      have d10 : ac.tmps.getD 10 undef = .bool true := hD ⟨5, .data⟩ (by simp) rfl _ 10 rfl rfl
      have d15 : ac.tmps.getD 15 undef = .bool false := hD ⟨10, .data⟩ (by simp) rfl _ 15 rfl rfl
      clear hB hD hT
      go_simp
      exact hK _ _ hS (Below.refl _ _) rfl
    · intro ac w1 hS hT hB hD K hK
      rw [if_pos (by rfl)]
      have d16 : ac.tmps.getD 16 undef = .bool false := hD ⟨11, .data⟩ (by simp) rfl _ 16 rfl rfl
      clear hB hD hT
      go_simp
      exact hK _ _ hS (Below.refl _ _) rfl
    · intro ac w1 hS hT hB hD K hK
      have g17 : ac.tmps.getD 17 undef = .bool false := hD ⟨12, .guard⟩ (by simp) rfl _ 17 rfl rfl
      rw [if_neg (by rw [want_f (j := 12) (d := 17) rfl rfl g17 (by decide)]; simp)]
      exact hK _ _ hS (Below.refl _ _) rfl
    · intro ac w1 hS hT hB hD K hK
      have g17 : ac.tmps.getD 17 undef = .bool false := hD ⟨12, .guard⟩ (by simp) rfl _ 17 rfl rfl
      rw [if_neg (by rw [want_f (j := 12) (d := 17) rfl rfl g17 (by decide)]; simp)]
      exact hK _ _ hS (Below.refl _ _) rfl
    · intro ac w1 hS hT hB hD K hK
      have g17 : ac.tmps.getD 17 undef = .bool false := hD ⟨12, .guard⟩ (by simp) rfl _ 17 rfl rfl
      rw [if_neg (by rw [want_f (j := 12) (d := 17) rfl rfl g17 (by decide)]; simp)]
      exact hK _ _ hS (Below.refl _ _) rfl
    · intro ac w1 hS hT hB hD K hK
      have g17 : ac.tmps.getD 17 undef = .bool false := hD ⟨12, .guard⟩ (by simp) rfl _ 17 rfl rfl
      rw [if_neg (by rw [want_f (j := 12) (d := 17) rfl rfl g17 (by decide)]; simp)]
      exact hK _ _ hS (Below.refl _ _) rfl
    · intro ac w1 hS hT hB hD K hK
      have g17 : ac.tmps.getD 17 undef = .bool false := hD ⟨12, .guard⟩ (by simp) rfl _ 17 rfl rfl
      rw [if_neg (by rw [want_f (j := 12) (d := 17) rfl rfl g17 (by decide)]; simp)]
      exact hK _ _ hS (Below.refl _ _) rfl
    · intro ac w1 hS hT hB hD K hK
      rw [if_pos (by rfl)]
      have d17 : ac.tmps.getD 17 undef = .bool false := hD ⟨12, .data⟩ (by simp) rfl _ 17 rfl rfl
      have d22 : ac.tmps.getD 22 undef = undef := hD ⟨17, .data⟩ (by simp) rfl _ 22 rfl rfl
      clear hB hD hT
      go_simp
      exact hK _ _ hS (Below.refl _ _) rfl
    · intro ac w1 hS hT hB hD K hK
      rw [if_pos (by rfl)]
      have d23 : ac.tmps.getD 23 undef = .bool false := hD ⟨18, .data⟩ (by simp) rfl _ 23 rfl rfl
      clear hB hD hT
      go_simp
      exact hK _ _ hS (Below.refl _ _) rfl
  · intro ac w1 hS hT hdf hB hF
    clear HS0
    have hfr : ac.tmps = #[.agg #[.int .i64 a.fr, .int .i64 a.dt, .int .i64 a.sq, .int .i64 a.ak, .int .i64 a.fl, .int .i64 a.wi, .int .i64 a.ur, .int .i64 a.o.m, .int .i64 a.o.c, .int .i64 a.o.t, .int .i64 a.o.ec, .bool a.o.sd, .bool a.o.ok, .bool a.o.sp, va, .string a.da], .agg #[.int .i64 b.fr, .int .i64 b.dt, .int .i64 b.sq, .int .i64 b.ak, .int .i64 b.fl, .int .i64 b.wi, .int .i64 b.ur, .int .i64 b.o.m, .int .i64 b.o.c, .int .i64 b.o.t, .int .i64 b.o.ec, .bool b.o.sd, .bool b.o.ok, .bool b.o.sp, vb, .string b.da], .pointer (some ⟨w.heap.size, 0, none⟩), .pointer (some ⟨w.heap.size + 1, 0, none⟩), (ac.tmps.getD 4 undef), (ac.tmps.getD 5 undef), (ac.tmps.getD 6 undef), (ac.tmps.getD 7 undef), (ac.tmps.getD 8 undef), (ac.tmps.getD 9 undef), (ac.tmps.getD 10 undef), (ac.tmps.getD 11 undef), (ac.tmps.getD 12 undef), (ac.tmps.getD 13 undef), (ac.tmps.getD 14 undef), (ac.tmps.getD 15 undef), (ac.tmps.getD 16 undef), (ac.tmps.getD 17 undef), (ac.tmps.getD 18 undef), (ac.tmps.getD 19 undef), (ac.tmps.getD 20 undef), (ac.tmps.getD 21 undef), (ac.tmps.getD 22 undef), (ac.tmps.getD 23 undef)] := (frame_eq hT rfl hB).trans (by kernel_rfl)
    obtain ⟨T, df⟩ := ac
    have s4 : T.getD 4 undef = .bool false := hF 19 _ 4 rfl rfl
    have sdf : df = [] := hdf
    simp only at hfr
    clear hB hF hT hdf
    generalize T.getD 5 undef = y5 at *
    generalize T.getD 6 undef = y6 at *
    generalize T.getD 7 undef = y7 at *
    generalize T.getD 8 undef = y8 at *
    generalize T.getD 9 undef = y9 at *
    generalize T.getD 10 undef = y10 at *
    generalize T.getD 11 undef = y11 at *
    generalize T.getD 12 undef = y12 at *
    generalize T.getD 13 undef = y13 at *
    generalize T.getD 14 undef = y14 at *
    generalize T.getD 15 undef = y15 at *
    generalize T.getD 16 undef = y16 at *
    generalize T.getD 17 undef = y17 at *
    generalize T.getD 18 undef = y18 at *
    generalize T.getD 19 undef = y19 at *
    generalize T.getD 20 undef = y20 at *
    generalize T.getD 21 undef = y21 at *
    generalize T.getD 22 undef = y22 at *
    generalize T.getD 23 undef = y23 at *
    generalize T.getD 4 undef = y4 at *
    subst hfr s4 sdf
    go_wp2
    go_ret
    exact ⟨rfl, hS.1⟩
set_option maxHeartbeats 4000000 in
theorem ssame_nn (a b : Sg) (va vb : Value) (w : World) (hv : Rgs w va a.o.rs) (hv' : Rgs w vb b.o.rs) (hn : a.o.rs.length ≤ 17592186044416) (hn' : b.o.rs.length ≤ 17592186044416) (h1 : sameNG a b = false) :
    Calls Tryz.prog 9 #[.agg #[.int .i64 a.fr, .int .i64 a.dt, .int .i64 a.sq, .int .i64 a.ak, .int .i64 a.fl, .int .i64 a.wi, .int .i64 a.ur, .int .i64 a.o.m, .int .i64 a.o.c, .int .i64 a.o.t, .int .i64 a.o.ec, .bool a.o.sd, .bool a.o.ok, .bool a.o.sp, va, .string a.da], .agg #[.int .i64 b.fr, .int .i64 b.dt, .int .i64 b.sq, .int .i64 b.ak, .int .i64 b.fl, .int .i64 b.wi, .int .i64 b.ur, .int .i64 b.o.m, .int .i64 b.o.c, .int .i64 b.o.t, .int .i64 b.o.ec, .bool b.o.sd, .bool b.o.ok, .bool b.o.sp, vb, .string b.da]] w fun e w' => e = .returned (.bool false) ∧ Below w.heap.size w w' := by
  have hb1 := bel1 w (.cells #[.int .i64 a.fr, .int .i64 a.dt, .int .i64 a.sq, .int .i64 a.ak, .int .i64 a.fl, .int .i64 a.wi, .int .i64 a.ur, .int .i64 a.o.m, .int .i64 a.o.c, .int .i64 a.o.t, .int .i64 a.o.ec, .bool a.o.sd, .bool a.o.ok, .bool a.o.sp, va, .string a.da] 35)
  have hb2 := bel1 (w.alloc (.cells #[.int .i64 a.fr, .int .i64 a.dt, .int .i64 a.sq, .int .i64 a.ak, .int .i64 a.fl, .int .i64 a.wi, .int .i64 a.ur, .int .i64 a.o.m, .int .i64 a.o.c, .int .i64 a.o.t, .int .i64 a.o.ec, .bool a.o.sd, .bool a.o.ok, .bool a.o.sp, va, .string a.da] 35)) (.cells #[.int .i64 b.fr, .int .i64 b.dt, .int .i64 b.sq, .int .i64 b.ak, .int .i64 b.fl, .int .i64 b.wi, .int .i64 b.ur, .int .i64 b.o.m, .int .i64 b.o.c, .int .i64 b.o.t, .int .i64 b.o.ec, .bool b.o.sd, .bool b.o.ok, .bool b.o.sp, vb, .string b.da] 35)
  have hd : Below ((w.alloc (.cells #[.int .i64 a.fr, .int .i64 a.dt, .int .i64 a.sq, .int .i64 a.ak, .int .i64 a.fl, .int .i64 a.wi, .int .i64 a.ur, .int .i64 a.o.m, .int .i64 a.o.c, .int .i64 a.o.t, .int .i64 a.o.ec, .bool a.o.sd, .bool a.o.ok, .bool a.o.sp, va, .string a.da] 35)).alloc (.cells #[.int .i64 b.fr, .int .i64 b.dt, .int .i64 b.sq, .int .i64 b.ak, .int .i64 b.fl, .int .i64 b.wi, .int .i64 b.ur, .int .i64 b.o.m, .int .i64 b.o.c, .int .i64 b.o.t, .int .i64 b.o.ec, .bool b.o.sd, .bool b.o.ok, .bool b.o.sp, vb, .string b.da] 35)).heap.size ((w.alloc (.cells #[.int .i64 a.fr, .int .i64 a.dt, .int .i64 a.sq, .int .i64 a.ak, .int .i64 a.fl, .int .i64 a.wi, .int .i64 a.ur, .int .i64 a.o.m, .int .i64 a.o.c, .int .i64 a.o.t, .int .i64 a.o.ec, .bool a.o.sd, .bool a.o.ok, .bool a.o.sp, va, .string a.da] 35)).alloc (.cells #[.int .i64 b.fr, .int .i64 b.dt, .int .i64 b.sq, .int .i64 b.ak, .int .i64 b.fl, .int .i64 b.wi, .int .i64 b.ur, .int .i64 b.o.m, .int .i64 b.o.c, .int .i64 b.o.t, .int .i64 b.o.ec, .bool b.o.sd, .bool b.o.ok, .bool b.o.sp, vb, .string b.da] 35)) ((w.alloc (.cells #[.int .i64 a.fr, .int .i64 a.dt, .int .i64 a.sq, .int .i64 a.ak, .int .i64 a.fl, .int .i64 a.wi, .int .i64 a.ur, .int .i64 a.o.m, .int .i64 a.o.c, .int .i64 a.o.t, .int .i64 a.o.ec, .bool a.o.sd, .bool a.o.ok, .bool a.o.sp, va, .string a.da] 35)).alloc (.cells #[.int .i64 b.fr, .int .i64 b.dt, .int .i64 b.sq, .int .i64 b.ak, .int .i64 b.fl, .int .i64 b.wi, .int .i64 b.ur, .int .i64 b.o.m, .int .i64 b.o.c, .int .i64 b.o.t, .int .i64 b.o.ec, .bool b.o.sd, .bool b.o.ok, .bool b.o.sp, vb, .string b.da] 35)).drew := (Below.refl _ _).drew
  have HS0 : Hid (Below w.heap.size w ((w.alloc (.cells #[.int .i64 a.fr, .int .i64 a.dt, .int .i64 a.sq, .int .i64 a.ak, .int .i64 a.fl, .int .i64 a.wi, .int .i64 a.ur, .int .i64 a.o.m, .int .i64 a.o.c, .int .i64 a.o.t, .int .i64 a.o.ec, .bool a.o.sd, .bool a.o.ok, .bool a.o.sp, va, .string a.da] 35)).alloc (.cells #[.int .i64 b.fr, .int .i64 b.dt, .int .i64 b.sq, .int .i64 b.ak, .int .i64 b.fl, .int .i64 b.wi, .int .i64 b.ur, .int .i64 b.o.m, .int .i64 b.o.c, .int .i64 b.o.t, .int .i64 b.o.ec, .bool b.o.sd, .bool b.o.ok, .bool b.o.sp, vb, .string b.da] 35)).drew ∧ At ((w.alloc (.cells #[.int .i64 a.fr, .int .i64 a.dt, .int .i64 a.sq, .int .i64 a.ak, .int .i64 a.fl, .int .i64 a.wi, .int .i64 a.ur, .int .i64 a.o.m, .int .i64 a.o.c, .int .i64 a.o.t, .int .i64 a.o.ec, .bool a.o.sd, .bool a.o.ok, .bool a.o.sp, va, .string a.da] 35)).alloc (.cells #[.int .i64 b.fr, .int .i64 b.dt, .int .i64 b.sq, .int .i64 b.ak, .int .i64 b.fl, .int .i64 b.wi, .int .i64 b.ur, .int .i64 b.o.m, .int .i64 b.o.c, .int .i64 b.o.t, .int .i64 b.o.ec, .bool b.o.sd, .bool b.o.ok, .bool b.o.sp, vb, .string b.da] 35)).drew w.heap.size #[.int .i64 a.fr, .int .i64 a.dt, .int .i64 a.sq, .int .i64 a.ak, .int .i64 a.fl, .int .i64 a.wi, .int .i64 a.ur, .int .i64 a.o.m, .int .i64 a.o.c, .int .i64 a.o.t, .int .i64 a.o.ec, .bool a.o.sd, .bool a.o.ok, .bool a.o.sp, va, .string a.da] ∧ At ((w.alloc (.cells #[.int .i64 a.fr, .int .i64 a.dt, .int .i64 a.sq, .int .i64 a.ak, .int .i64 a.fl, .int .i64 a.wi, .int .i64 a.ur, .int .i64 a.o.m, .int .i64 a.o.c, .int .i64 a.o.t, .int .i64 a.o.ec, .bool a.o.sd, .bool a.o.ok, .bool a.o.sp, va, .string a.da] 35)).alloc (.cells #[.int .i64 b.fr, .int .i64 b.dt, .int .i64 b.sq, .int .i64 b.ak, .int .i64 b.fl, .int .i64 b.wi, .int .i64 b.ur, .int .i64 b.o.m, .int .i64 b.o.c, .int .i64 b.o.t, .int .i64 b.o.ec, .bool b.o.sd, .bool b.o.ok, .bool b.o.sp, vb, .string b.da] 35)).drew (w.heap.size + 1) #[.int .i64 b.fr, .int .i64 b.dt, .int .i64 b.sq, .int .i64 b.ak, .int .i64 b.fl, .int .i64 b.wi, .int .i64 b.ur, .int .i64 b.o.m, .int .i64 b.o.c, .int .i64 b.o.t, .int .i64 b.o.ec, .bool b.o.sd, .bool b.o.ok, .bool b.o.sp, vb, .string b.da] ∧ Rgs ((w.alloc (.cells #[.int .i64 a.fr, .int .i64 a.dt, .int .i64 a.sq, .int .i64 a.ak, .int .i64 a.fl, .int .i64 a.wi, .int .i64 a.ur, .int .i64 a.o.m, .int .i64 a.o.c, .int .i64 a.o.t, .int .i64 a.o.ec, .bool a.o.sd, .bool a.o.ok, .bool a.o.sp, va, .string a.da] 35)).alloc (.cells #[.int .i64 b.fr, .int .i64 b.dt, .int .i64 b.sq, .int .i64 b.ak, .int .i64 b.fl, .int .i64 b.wi, .int .i64 b.ur, .int .i64 b.o.m, .int .i64 b.o.c, .int .i64 b.o.t, .int .i64 b.o.ec, .bool b.o.sd, .bool b.o.ok, .bool b.o.sp, vb, .string b.da] 35)).drew va a.o.rs ∧ Rgs ((w.alloc (.cells #[.int .i64 a.fr, .int .i64 a.dt, .int .i64 a.sq, .int .i64 a.ak, .int .i64 a.fl, .int .i64 a.wi, .int .i64 a.ur, .int .i64 a.o.m, .int .i64 a.o.c, .int .i64 a.o.t, .int .i64 a.o.ec, .bool a.o.sd, .bool a.o.ok, .bool a.o.sp, va, .string a.da] 35)).alloc (.cells #[.int .i64 b.fr, .int .i64 b.dt, .int .i64 b.sq, .int .i64 b.ak, .int .i64 b.fl, .int .i64 b.wi, .int .i64 b.ur, .int .i64 b.o.m, .int .i64 b.o.c, .int .i64 b.o.t, .int .i64 b.o.ec, .bool b.o.sd, .bool b.o.ok, .bool b.o.sp, vb, .string b.da] 35)).drew vb b.o.rs) := ⟨bt (bt hb1 hb2) hd, ((At.box w _ 35).later hb2).later hd, (At.box2 w _ _ 35).later hd, ((hv.later hb1).later hb2).later hd, ((hv'.later hb1).later hb2).later hd⟩
  have HN : Hid (a.o.rs.length ≤ 17592186044416) := hn
  have HN' : Hid (b.o.rs.length ≤ 17592186044416) := hn'
  have heq := fun W => run_eq7 a.fr a.dt a.sq a.ak a.fl a.wi a.ur b.fr b.dt b.sq b.ak b.fl b.wi b.ur W
  rw [show decide (a.fr = b.fr ∧ a.dt = b.dt ∧ a.sq = b.sq ∧ a.ak = b.ak ∧ a.fl = b.fl ∧ a.wi = b.wi ∧ a.ur = b.ur) = false from h1] at heq
  have HEQ : Hid (∀ W, (binOp .eql 63 (.agg #[.int .i64 a.fr, .int .i64 a.dt, .int .i64 a.sq, .int .i64 a.ak, .int .i64 a.fl, .int .i64 a.wi, .int .i64 a.ur]) (.agg #[.int .i64 b.fr, .int .i64 b.dt, .int .i64 b.sq, .int .i64 b.ak, .int .i64 b.fl, .int .i64 b.wi, .int .i64 b.ur])).run Tryz.prog W = .ok (.bool false) W) := heq
  clear hb1 hb2 hd hv hv' hn hn' h1 heq
  go_enter Tryz.func9, Tryz.ntmps9
  go_wp2
  refine wp_region_any (by kernel_rfl) ?_
  refine region_facts (fun W => Below w.heap.size w W ∧ At W w.heap.size #[.int .i64 a.fr, .int .i64 a.dt, .int .i64 a.sq, .int .i64 a.ak, .int .i64 a.fl, .int .i64 a.wi, .int .i64 a.ur, .int .i64 a.o.m, .int .i64 a.o.c, .int .i64 a.o.t, .int .i64 a.o.ec, .bool a.o.sd, .bool a.o.ok, .bool a.o.sp, va, .string a.da] ∧ At W (w.heap.size + 1) #[.int .i64 b.fr, .int .i64 b.dt, .int .i64 b.sq, .int .i64 b.ak, .int .i64 b.fl, .int .i64 b.wi, .int .i64 b.ur, .int .i64 b.o.m, .int .i64 b.o.c, .int .i64 b.o.t, .int .i64 b.o.ec, .bool b.o.sd, .bool b.o.ok, .bool b.o.sp, vb, .string b.da] ∧ Rgs W va a.o.rs ∧ Rgs W vb b.o.rs) (GE (fun qq => match qq with | 0 => .agg #[.int .i64 a.fr, .int .i64 a.dt, .int .i64 a.sq, .int .i64 a.ak, .int .i64 a.fl, .int .i64 a.wi, .int .i64 a.ur, .int .i64 a.o.m, .int .i64 a.o.c, .int .i64 a.o.t, .int .i64 a.o.ec, .bool a.o.sd, .bool a.o.ok, .bool a.o.sp, va, .string a.da] | 1 => .agg #[.int .i64 a.fr, .int .i64 a.dt, .int .i64 a.sq, .int .i64 a.ak, .int .i64 a.fl, .int .i64 a.wi, .int .i64 a.ur] | 2 => .agg #[.int .i64 b.fr, .int .i64 b.dt, .int .i64 b.sq, .int .i64 b.ak, .int .i64 b.fl, .int .i64 b.wi, .int .i64 b.ur, .int .i64 b.o.m, .int .i64 b.o.c, .int .i64 b.o.t, .int .i64 b.o.ec, .bool b.o.sd, .bool b.o.ok, .bool b.o.sp, vb, .string b.da] | 3 => .agg #[.int .i64 b.fr, .int .i64 b.dt, .int .i64 b.sq, .int .i64 b.ak, .int .i64 b.fl, .int .i64 b.wi, .int .i64 b.ur] | 4 => .bool false | 5 => .bool false | 11 => .bool false | 12 => .bool false | 18 => .bool false | 19 => .bool false | _ => undef) (fun _ => none)) (n := 24) (by kernel_rfl) rfl (by kernel_rfl) (GE_later _ _ (fun _ _ h => by cases h)) ?_ ?_ HS0.out (Nat.le_refl _)
  · clear HS0
    refine ⟨?_, ?_, ?_, ?_, ?_, ?_, ?_, ?_, ?_, ?_, ?_, ?_, ?_, ?_, ?_, ?_, ?_, ?_, ?_, ?_, trivial⟩
    · intro ac w1 hS hT hB hD K hK
      rw [if_pos (by rfl)]
      have d2 : ac.tmps.getD 2 undef = .pointer (some ⟨w.heap.size, 0, none⟩) := hB 2 (by kernel_rfl)
      clear hB hD hT
      exact wp_load_mid 35 (.tmp 2) rfl (w.heap.size) 0 d2 _ _ hS.2.1.range Tryz.underlying35 rfl size35 (hK _ _ hS (Below.refl _ _) rfl)
    · intro ac w1 hS hT hB hD K hK
      rw [if_pos (by rfl)]
      have d5 : ac.tmps.getD 5 undef = .agg #[.int .i64 a.fr, .int .i64 a.dt, .int .i64 a.sq, .int .i64 a.ak, .int .i64 a.fl, .int .i64 a.wi, .int .i64 a.ur, .int .i64 a.o.m, .int .i64 a.o.c, .int .i64 a.o.t, .int .i64 a.o.ec, .bool a.o.sd, .bool a.o.ok, .bool a.o.sp, va, .string a.da] := hD ⟨0, .data⟩ (by simp) rfl _ 5 rfl rfl
      clear hB hD hT
      go_simp
      refine (numbers_s a va _).mono ?_
      rintro e w' ⟨rfl, hb⟩
      exact hK _ _ (keepS hb hS) hb rfl
    · intro ac w1 hS hT hB hD K hK
      rw [if_pos (by rfl)]
      have d3 : ac.tmps.getD 3 undef = .pointer (some ⟨w.heap.size + 1, 0, none⟩) := hB 3 (by kernel_rfl)
      clear hB hD hT
      exact wp_load_mid 35 (.tmp 3) rfl (w.heap.size + 1) 0 d3 _ _ hS.2.2.1.range Tryz.underlying35 rfl size35 (hK _ _ hS (Below.refl _ _) rfl)
    · intro ac w1 hS hT hB hD K hK
      rw [if_pos (by rfl)]
      have d7 : ac.tmps.getD 7 undef = .agg #[.int .i64 b.fr, .int .i64 b.dt, .int .i64 b.sq, .int .i64 b.ak, .int .i64 b.fl, .int .i64 b.wi, .int .i64 b.ur, .int .i64 b.o.m, .int .i64 b.o.c, .int .i64 b.o.t, .int .i64 b.o.ec, .bool b.o.sd, .bool b.o.ok, .bool b.o.sp, vb, .string b.da] := hD ⟨2, .data⟩ (by simp) rfl _ 7 rfl rfl
      clear hB hD hT
      go_simp
      refine (numbers_s b vb _).mono ?_
      rintro e w' ⟨rfl, hb⟩
      exact hK _ _ (keepS hb hS) hb rfl
    · intro ac w1 hS hT hB hD K hK
      rw [if_pos (by rfl)]
      have d6 : ac.tmps.getD 6 undef = .agg #[.int .i64 a.fr, .int .i64 a.dt, .int .i64 a.sq, .int .i64 a.ak, .int .i64 a.fl, .int .i64 a.wi, .int .i64 a.ur] := hD ⟨1, .data⟩ (by simp) rfl _ 6 rfl rfl
      have d8 : ac.tmps.getD 8 undef = .agg #[.int .i64 b.fr, .int .i64 b.dt, .int .i64 b.sq, .int .i64 b.ak, .int .i64 b.fl, .int .i64 b.wi, .int .i64 b.ur] := hD ⟨3, .data⟩ (by simp) rfl _ 8 rfl rfl
      clear hB hD hT
      have hq := HEQ.out
      go_simp
      exact hK _ _ hS (Below.refl _ _) rfl
    · intro ac w1 hS hT hB hD K hK
      rw [if_pos (by rfl)]
      have d9 : ac.tmps.getD 9 undef = .bool false := hD ⟨4, .data⟩ (by simp) rfl _ 9 rfl rfl
      clear hB hD hT
      go_simp
      exact hK _ _ hS (Below.refl _ _) rfl
    · intro ac w1 hS hT hB hD K hK
      have g10 : ac.tmps.getD 10 undef = .bool false := hD ⟨5, .guard⟩ (by simp) rfl _ 10 rfl rfl
      rw [if_neg (by rw [want_f (j := 5) (d := 10) rfl rfl g10 (by decide)]; simp)]
      exact hK _ _ hS (Below.refl _ _) rfl
    · intro ac w1 hS hT hB hD K hK
      have g10 : ac.tmps.getD 10 undef = .bool false := hD ⟨5, .guard⟩ (by simp) rfl _ 10 rfl rfl
      rw [if_neg (by rw [want_f (j := 5) (d := 10) rfl rfl g10 (by decide)]; simp)]
      exact hK _ _ hS (Below.refl _ _) rfl
    · intro ac w1 hS hT hB hD K hK
      have g10 : ac.tmps.getD 10 undef = .bool false := hD ⟨5, .guard⟩ (by simp) rfl _ 10 rfl rfl
      rw [if_neg (by rw [want_f (j := 5) (d := 10) rfl rfl g10 (by decide)]; simp)]
      exact hK _ _ hS (Below.refl _ _) rfl
    · intro ac w1 hS hT hB hD K hK
      have g10 : ac.tmps.getD 10 undef = .bool false := hD ⟨5, .guard⟩ (by simp) rfl _ 10 rfl rfl
      rw [if_neg (by rw [want_f (j := 5) (d := 10) rfl rfl g10 (by decide)]; simp)]
      exact hK _ _ hS (Below.refl _ _) rfl
    · intro ac w1 hS hT hB hD K hK
      have g10 : ac.tmps.getD 10 undef = .bool false := hD ⟨5, .guard⟩ (by simp) rfl _ 10 rfl rfl
      rw [if_neg (by rw [want_f (j := 5) (d := 10) rfl rfl g10 (by decide)]; simp)]
      exact hK _ _ hS (Below.refl _ _) rfl
    · intro ac w1 hS hT hB hD K hK
      rw [if_pos (by rfl)]
      have d10 : ac.tmps.getD 10 undef = .bool false := hD ⟨5, .data⟩ (by simp) rfl _ 10 rfl rfl
      have d15 : ac.tmps.getD 15 undef = undef := hD ⟨10, .data⟩ (by simp) rfl _ 15 rfl rfl
      clear hB hD hT
      go_simp
      exact hK _ _ hS (Below.refl _ _) rfl
    · intro ac w1 hS hT hB hD K hK
      rw [if_pos (by rfl)]
      have d16 : ac.tmps.getD 16 undef = .bool false := hD ⟨11, .data⟩ (by simp) rfl _ 16 rfl rfl
      clear hB hD hT
      go_simp
      exact hK _ _ hS (Below.refl _ _) rfl
    · intro ac w1 hS hT hB hD K hK
      have g17 : ac.tmps.getD 17 undef = .bool false := hD ⟨12, .guard⟩ (by simp) rfl _ 17 rfl rfl
      rw [if_neg (by rw [want_f (j := 12) (d := 17) rfl rfl g17 (by decide)]; simp)]
      exact hK _ _ hS (Below.refl _ _) rfl
    · intro ac w1 hS hT hB hD K hK
      have g17 : ac.tmps.getD 17 undef = .bool false := hD ⟨12, .guard⟩ (by simp) rfl _ 17 rfl rfl
      rw [if_neg (by rw [want_f (j := 12) (d := 17) rfl rfl g17 (by decide)]; simp)]
      exact hK _ _ hS (Below.refl _ _) rfl
    · intro ac w1 hS hT hB hD K hK
      have g17 : ac.tmps.getD 17 undef = .bool false := hD ⟨12, .guard⟩ (by simp) rfl _ 17 rfl rfl
      rw [if_neg (by rw [want_f (j := 12) (d := 17) rfl rfl g17 (by decide)]; simp)]
      exact hK _ _ hS (Below.refl _ _) rfl
    · intro ac w1 hS hT hB hD K hK
      have g17 : ac.tmps.getD 17 undef = .bool false := hD ⟨12, .guard⟩ (by simp) rfl _ 17 rfl rfl
      rw [if_neg (by rw [want_f (j := 12) (d := 17) rfl rfl g17 (by decide)]; simp)]
      exact hK _ _ hS (Below.refl _ _) rfl
    · intro ac w1 hS hT hB hD K hK
      have g17 : ac.tmps.getD 17 undef = .bool false := hD ⟨12, .guard⟩ (by simp) rfl _ 17 rfl rfl
      rw [if_neg (by rw [want_f (j := 12) (d := 17) rfl rfl g17 (by decide)]; simp)]
      exact hK _ _ hS (Below.refl _ _) rfl
    · intro ac w1 hS hT hB hD K hK
      rw [if_pos (by rfl)]
      have d17 : ac.tmps.getD 17 undef = .bool false := hD ⟨12, .data⟩ (by simp) rfl _ 17 rfl rfl
      have d22 : ac.tmps.getD 22 undef = undef := hD ⟨17, .data⟩ (by simp) rfl _ 22 rfl rfl
      clear hB hD hT
      go_simp
      exact hK _ _ hS (Below.refl _ _) rfl
    · intro ac w1 hS hT hB hD K hK
      rw [if_pos (by rfl)]
      have d23 : ac.tmps.getD 23 undef = .bool false := hD ⟨18, .data⟩ (by simp) rfl _ 23 rfl rfl
      clear hB hD hT
      go_simp
      exact hK _ _ hS (Below.refl _ _) rfl
  · intro ac w1 hS hT hdf hB hF
    clear HS0
    have hfr : ac.tmps = #[.agg #[.int .i64 a.fr, .int .i64 a.dt, .int .i64 a.sq, .int .i64 a.ak, .int .i64 a.fl, .int .i64 a.wi, .int .i64 a.ur, .int .i64 a.o.m, .int .i64 a.o.c, .int .i64 a.o.t, .int .i64 a.o.ec, .bool a.o.sd, .bool a.o.ok, .bool a.o.sp, va, .string a.da], .agg #[.int .i64 b.fr, .int .i64 b.dt, .int .i64 b.sq, .int .i64 b.ak, .int .i64 b.fl, .int .i64 b.wi, .int .i64 b.ur, .int .i64 b.o.m, .int .i64 b.o.c, .int .i64 b.o.t, .int .i64 b.o.ec, .bool b.o.sd, .bool b.o.ok, .bool b.o.sp, vb, .string b.da], .pointer (some ⟨w.heap.size, 0, none⟩), .pointer (some ⟨w.heap.size + 1, 0, none⟩), (ac.tmps.getD 4 undef), (ac.tmps.getD 5 undef), (ac.tmps.getD 6 undef), (ac.tmps.getD 7 undef), (ac.tmps.getD 8 undef), (ac.tmps.getD 9 undef), (ac.tmps.getD 10 undef), (ac.tmps.getD 11 undef), (ac.tmps.getD 12 undef), (ac.tmps.getD 13 undef), (ac.tmps.getD 14 undef), (ac.tmps.getD 15 undef), (ac.tmps.getD 16 undef), (ac.tmps.getD 17 undef), (ac.tmps.getD 18 undef), (ac.tmps.getD 19 undef), (ac.tmps.getD 20 undef), (ac.tmps.getD 21 undef), (ac.tmps.getD 22 undef), (ac.tmps.getD 23 undef)] := (frame_eq hT rfl hB).trans (by kernel_rfl)
    obtain ⟨T, df⟩ := ac
    have s4 : T.getD 4 undef = .bool false := hF 19 _ 4 rfl rfl
    have sdf : df = [] := hdf
    simp only at hfr
    clear hB hF hT hdf
    generalize T.getD 5 undef = y5 at *
    generalize T.getD 6 undef = y6 at *
    generalize T.getD 7 undef = y7 at *
    generalize T.getD 8 undef = y8 at *
    generalize T.getD 9 undef = y9 at *
    generalize T.getD 10 undef = y10 at *
    generalize T.getD 11 undef = y11 at *
    generalize T.getD 12 undef = y12 at *
    generalize T.getD 13 undef = y13 at *
    generalize T.getD 14 undef = y14 at *
    generalize T.getD 15 undef = y15 at *
    generalize T.getD 16 undef = y16 at *
    generalize T.getD 17 undef = y17 at *
    generalize T.getD 18 undef = y18 at *
    generalize T.getD 19 undef = y19 at *
    generalize T.getD 20 undef = y20 at *
    generalize T.getD 21 undef = y21 at *
    generalize T.getD 22 undef = y22 at *
    generalize T.getD 23 undef = y23 at *
    generalize T.getD 4 undef = y4 at *
    subst hfr s4 sdf
    go_wp2
    go_ret
    exact ⟨rfl, hS.1⟩
theorem same_s (a b : Sg) (va vb : Value) (w : World) (hv : Rgs w va a.o.rs) (hv' : Rgs w vb b.o.rs) (hn : a.o.rs.length ≤ 17592186044416) (hn' : b.o.rs.length ≤ 17592186044416) :
    Calls Tryz.prog 9 #[.agg #[.int .i64 a.fr, .int .i64 a.dt, .int .i64 a.sq, .int .i64 a.ak, .int .i64 a.fl, .int .i64 a.wi, .int .i64 a.ur, .int .i64 a.o.m, .int .i64 a.o.c, .int .i64 a.o.t, .int .i64 a.o.ec, .bool a.o.sd, .bool a.o.ok, .bool a.o.sp, va, .string a.da], .agg #[.int .i64 b.fr, .int .i64 b.dt, .int .i64 b.sq, .int .i64 b.ak, .int .i64 b.fl, .int .i64 b.wi, .int .i64 b.ur, .int .i64 b.o.m, .int .i64 b.o.c, .int .i64 b.o.t, .int .i64 b.o.ec, .bool b.o.sd, .bool b.o.ok, .bool b.o.sp, vb, .string b.da]] w fun e w' => e = .returned (.bool (sameG a b)) ∧ Below w.heap.size w w' := by
  rcases Bool.eq_false_or_eq_true (sameNG a b) with h1 | h1
  · rcases Bool.eq_false_or_eq_true (sameOO a.o b.o) with h2 | h2
    · have : sameG a b = decide (a.da = b.da) := by unfold sameG; rw [h1, h2]; rfl
      rw [this]
      exact ssame_yy a b va vb w hv hv' hn hn' h1 h2
    · have : sameG a b = false := by unfold sameG; rw [h1, h2]; rfl
      rw [this]
      exact ssame_yn a b va vb w hv hv' hn hn' h1 h2
  · have : sameG a b = false := by unfold sameG; rw [h1]; rfl
    rw [this]
    exact ssame_nn a b va vb w hv hv' hn hn' h1
end Go.Proofs.YtkpdmgoldngdaabGreatDoor

namespace Go.Proofs.YtkpdmgoldngdaabGreatDoor
open Go.RowKit
set_option maxRecDepth 100000
set_option linter.unusedVariables false

def by12 (b : ByteArray) : Nat := (b.data.toList.getD 12 0).toNat
def hdN (b : ByteArray) : Nat := by12 b / 16 * 4
def gotS (b : ByteArray) (o : Op) : Sg := ⟨numS (b.extract 0 2), numS (b.extract 2 4), numS (b.extract 4 8), numS (b.extract 8 12), numS (b.extract 13 14), numS (b.extract 14 16), numS (b.extract 18 20), o, b.extract (hdN b) b.size⟩
def shapeB (b : ByteArray) : Bool := decide (20 ≤ b.size ∧ b.size ≤ 1540 ∧ 20 ≤ hdN b ∧ hdN b ≤ b.size)
def wholeB (f t : Int) (b : ByteArray) : Bool := sumS (psS f t b.size ++ b) == 0
def lastB (b : ByteArray) (o : Op) : Bool := decide (by12 b % 16 = 0) && mayG (gotS b o)
def finG (b : ByteArray) (r : Option Op) : Except Int Sg := match r with
  | none => .error 70
  | some o => if lastB b o = true then .ok (gotS b o) else .error 80
def decG (f t : Int) (b : ByteArray) : Except Int Sg :=
  if (numB f && numB t) = true then
    (if shapeB b = true then
      (if wholeB f t b = true then finG b (decO (b.extract 20 (hdN b)).data.toList) else .error 20)
    else .error 80)
  else .error 1
theorem by12_le (b : ByteArray) : by12 b ≤ 255 := by unfold by12; have := (b.data.toList.getD 12 0).toNat_lt; omega
theorem by12_num (b : ByteArray) (h : 12 < b.size) : (by12 b : Int) = numS (b.extract 12 13) := by
  unfold numS by12
  have hl : 12 < b.data.toList.length := by rw [len_toList]; exact h
  rw [ext_toList, show 13 - 12 = 1 by rfl, List.drop_eq_getElem_cons hl, List.getD_eq_getElem?_getD, List.getElem?_eq_getElem hl]
  simp [numL]
theorem by12_at (b : ByteArray) (h : 12 < b.size) : (b[12].toNat : Int) = (by12 b : Int) := by
  unfold by12
  have hl : 12 < b.data.toList.length := by rw [len_toList]; exact h
  rw [List.getD_eq_getElem?_getD, List.getElem?_eq_getElem hl]
  rfl
theorem decG_range {f t : Int} {b : ByteArray} (h : (numB f && numB t) = false) : decG f t b = .error 1 := by unfold decG; rw [h]; rfl
theorem decG_shape {f t : Int} {b : ByteArray} (h : (numB f && numB t) = true) (h1 : shapeB b = false) : decG f t b = .error 80 := by unfold decG; rw [h, h1]; rfl
theorem decG_sum {f t : Int} {b : ByteArray} (h : (numB f && numB t) = true) (h1 : shapeB b = true) (h2 : wholeB f t b = false) : decG f t b = .error 20 := by unfold decG; rw [h, h1, h2]; rfl
theorem decG_fin {f t : Int} {b : ByteArray} (h : (numB f && numB t) = true) (h1 : shapeB b = true) (h2 : wholeB f t b = true) : decG f t b = finG b (decO (b.extract 20 (hdN b)).data.toList) := by unfold decG; rw [h, h1, h2]; rfl
theorem sum0 {s : ByteArray} (h : foldV (ws true s.data.toList) = 65535) : (sumS s == 0) = true := by
  have : sumS s = 0 := by unfold sumS missV; omega
  rw [this]; rfl
theorem finG_may {b : ByteArray} {r : Option Op} {s : Sg} (h : finG b r = .ok s) : mayG s = true := by
  unfold finG at h
  cases r with
  | none => cases h
  | some o =>
    simp only at h
    split at h
    · rename_i hl
      cases h
      unfold lastB at hl
      simp only [Bool.and_eq_true] at hl
      exact hl.2
    · cases h
theorem decG_may {f t : Int} {b : ByteArray} {s : Sg} (h : decG f t b = .ok s) : mayG s = true := by
  unfold decG at h
  split at h
  · split at h
    · split at h
      · exact finG_may h
      · cases h
    · cases h
  · cases h

theorem enc_parts {s : Sg} (f t : Int) (h : mayG s = true) : shapeB (encS f t s) = true ∧ (encS f t s).extract 20 (hdN (encS f t s)) = s.o.enc ∧ by12 (encS f t s) % 16 = 0 ∧ gotS (encS f t s) s.o = s := by
  obtain ⟨⟨f0, f1⟩, ⟨d0, d1⟩, ⟨s0, s1⟩, ⟨a0, a1⟩, ⟨l0, l1⟩, ⟨w0, w1⟩, ⟨u0, u1⟩, ho, hd⟩ := may_all h
  have hl := lonB_bd ho
  have he := enc_long ho
  have hz := encS_size f t s
  have hb := lenS_bd h
  have hL := enc_list f t s
  have hc := sumG_bd f t s
  generalize encS f t s = b at *
  have h12 : (by12 b : Int) = lonB s.o := by
    rw [by12_num b (by omega)]
    exact num_at b (txtL s.fr 2 ++ (txtL s.dt 2 ++ (txtL s.sq 4 ++ txtL s.ak 4))) _ _ 1 12 13 (by rw [hL]; simp only [List.append_assoc]; rfl) (by simp only [List.length_append, txtL_len]) rfl (by omega) (by simp; omega)
  have hh : hdN b = 20 + s.o.enc.size := by unfold hdN; omega
  have hlen : lenS s = 20 + s.o.enc.size + s.da.size := rfl
  refine ⟨?_, ?_, by omega, ?_⟩
  · unfold shapeB; rw [hh, hz]; exact decide_eq_true ⟨by omega, by omega, by omega, by omega⟩
  · rw [hh]
    apply ba_toList
    rw [ext_toList, hL]
    have e : txtL s.fr 2 ++ (txtL s.dt 2 ++ (txtL s.sq 4 ++ (txtL s.ak 4 ++ (txtL (lonB s.o) 1 ++ (txtL s.fl 1 ++ (txtL s.wi 2 ++ (txtL (sumG f t s) 2 ++ (txtL s.ur 2 ++ (s.o.enc.data.toList ++ s.da.data.toList))))))))) = (txtL s.fr 2 ++ (txtL s.dt 2 ++ (txtL s.sq 4 ++ (txtL s.ak 4 ++ (txtL (lonB s.o) 1 ++ (txtL s.fl 1 ++ (txtL s.wi 2 ++ (txtL (sumG f t s) 2 ++ txtL s.ur 2)))))))) ++ (s.o.enc.data.toList ++ s.da.data.toList) := by simp only [List.append_assoc]
    rw [e, List.drop_left' (by simp only [List.length_append, txtL_len])]
    exact List.take_left' (by rw [len_toList]; omega)
  · have hda : b.extract (hdN b) b.size = s.da := by
      rw [hh]
      apply ba_toList
      rw [ext_toList, hL]
      have e : txtL s.fr 2 ++ (txtL s.dt 2 ++ (txtL s.sq 4 ++ (txtL s.ak 4 ++ (txtL (lonB s.o) 1 ++ (txtL s.fl 1 ++ (txtL s.wi 2 ++ (txtL (sumG f t s) 2 ++ (txtL s.ur 2 ++ (s.o.enc.data.toList ++ s.da.data.toList))))))))) = (txtL s.fr 2 ++ (txtL s.dt 2 ++ (txtL s.sq 4 ++ (txtL s.ak 4 ++ (txtL (lonB s.o) 1 ++ (txtL s.fl 1 ++ (txtL s.wi 2 ++ (txtL (sumG f t s) 2 ++ (txtL s.ur 2 ++ s.o.enc.data.toList))))))))) ++ s.da.data.toList := by simp only [List.append_assoc]
      rw [e, List.drop_left' (by simp only [List.length_append, txtL_len, len_toList]; omega)]
      exact List.take_of_length_le (by rw [len_toList]; omega)
    unfold gotS
    rw [hda]
    have e1 : numS (b.extract 0 2) = s.fr := num_at b [] _ _ 2 0 2 hL rfl rfl f0 (by simp; omega)
    have e2 : numS (b.extract 2 4) = s.dt := num_at b (txtL s.fr 2) _ _ 2 2 4 hL (by simp only [txtL_len]) rfl d0 (by simp; omega)
    have e3 : numS (b.extract 4 8) = s.sq := num_at b (txtL s.fr 2 ++ txtL s.dt 2) _ _ 4 4 8 (by rw [hL]; simp only [List.append_assoc]; rfl) (by simp only [List.length_append, txtL_len]) rfl s0 (by simp; omega)
    have e4 : numS (b.extract 8 12) = s.ak := num_at b (txtL s.fr 2 ++ (txtL s.dt 2 ++ txtL s.sq 4)) _ _ 4 8 12 (by rw [hL]; simp only [List.append_assoc]; rfl) (by simp only [List.length_append, txtL_len]) rfl a0 (by simp; omega)
    have e5 : numS (b.extract 13 14) = s.fl := num_at b (txtL s.fr 2 ++ (txtL s.dt 2 ++ (txtL s.sq 4 ++ (txtL s.ak 4 ++ txtL (lonB s.o) 1)))) _ _ 1 13 14 (by rw [hL]; simp only [List.append_assoc]; rfl) (by simp only [List.length_append, txtL_len]) rfl l0 (by simp; omega)
    have e6 : numS (b.extract 14 16) = s.wi := num_at b (txtL s.fr 2 ++ (txtL s.dt 2 ++ (txtL s.sq 4 ++ (txtL s.ak 4 ++ (txtL (lonB s.o) 1 ++ txtL s.fl 1))))) _ _ 2 14 16 (by rw [hL]; simp only [List.append_assoc]; rfl) (by simp only [List.length_append, txtL_len]) rfl w0 (by simp; omega)
    have e7 : numS (b.extract 18 20) = s.ur := num_at b (txtL s.fr 2 ++ (txtL s.dt 2 ++ (txtL s.sq 4 ++ (txtL s.ak 4 ++ (txtL (lonB s.o) 1 ++ (txtL s.fl 1 ++ (txtL s.wi 2 ++ txtL (sumG f t s) 2))))))) _ _ 2 18 20 (by rw [hL]; simp only [List.append_assoc]; rfl) (by simp only [List.length_append, txtL_len]) rfl u0 (by simp; omega)
    rw [e1, e2, e3, e4, e5, e6, e7]
theorem dec_ok {s : Sg} (f t f' t' : Int) (h : mayG s = true) (hn : (numB f' && numB t') = true) (hw : wholeB f' t' (encS f t s) = true) : decG f' t' (encS f t s) = .ok s := by
  obtain ⟨h1, h2, h3, h4⟩ := enc_parts f t h
  obtain ⟨-, -, -, -, -, -, -, ho, -⟩ := may_all h
  rw [decG_fin hn h1 hw, h2, show decO s.o.enc.data.toList = some s.o from dec_enc _ _ _ _ _ _ _ _ ho]
  show (if lastB (encS f t s) s.o = true then Except.ok (gotS (encS f t s) s.o) else Except.error 80) = _
  unfold lastB
  rw [h4, h, h3]
  rfl
theorem whole_own {s : Sg} (f t : Int) : wholeB f t (encS f t s) = true := by
  unfold wholeB
  rw [encS_size]
  exact sum0 (whole_enc f t s)
theorem back_ok {s : Sg} {f t : Int} (h : mayG s = true) (hn : (numB f && numB t) = true) : decG f t (encS f t s) = .ok s := dec_ok f t f t h hn (whole_own f t)
end Go.Proofs.YtkpdmgoldngdaabGreatDoor
