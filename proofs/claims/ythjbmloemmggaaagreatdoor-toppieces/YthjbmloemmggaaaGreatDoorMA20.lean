/- the texts Sa, Sb, Sc, Ta, Tb, in part, merged by program -/
import Derived.Test.YthjbmloemmggaaaGreatDoorRows
import Derived.Deep.MidRow
import Derived.WalkKit
import Derived.WalkSpells
import Derived.RegionTactic
import Derived.Below
import Derived.Laws.OwnMore
import Derived.Laws.AppendOwn
import Derived.Laws.AppendOwnNone
import Derived.Deep.LoopGhost
import Derived.Lib.Repeat
import Derived.Deep.RegionHeld3
import Derived.Deep.QuietTactic
import Derived.BigQuiet
import Derived.WalkSmall
import Derived.Laws.StructEq
import Derived.Deep.RegionWith
import Derived.LoopN
import Derived.Deep.Cut
import Derived.Laws.Tables
import Derived.Great.BuildSlice
import Derived.BigRegion
import Derived.Deep.Light
import Derived.Test.YthjbmloemmggaaaGreatDoorMA01
import Derived.Test.YthjbmloemmggaaaGreatDoorMA02
import Derived.Test.YthjbmloemmggaaaGreatDoorMA16
import Derived.Test.YthjbmloemmggaaaGreatDoorMA17
import Derived.Test.YthjbmloemmggaaaGreatDoorMA18
import Derived.Test.YthjbmloemmggaaaGreatDoorMA19
namespace Go.Proofs.YthjbmloemmggaaaGreatDoor
open Go.RowKit
set_option maxRecDepth 100000
set_option linter.unusedVariables false

structure Sg where
  fr : Int
  dt : Int
  sq : Int
  ak : Int
  fl : Int
  wi : Int
  ur : Int
  o : Op
  da : ByteArray
theorem At.sixteen {W : World} {b : Nat} {v0 v1 v2 v3 v4 v5 v6 v7 v8 v9 v10 v11 v12 v13 v14 v15 : Value} (h : At W b #[v0, v1, v2, v3, v4, v5, v6, v7, v8, v9, v10, v11, v12, v13, v14, v15]) : (W.cell? ⟨b, 0, none⟩ = some v0 ∧ W.cell? ⟨b, 1, none⟩ = some v1 ∧ W.cell? ⟨b, 2, none⟩ = some v2 ∧ W.cell? ⟨b, 3, none⟩ = some v3 ∧ W.cell? ⟨b, 4, none⟩ = some v4 ∧ W.cell? ⟨b, 5, none⟩ = some v5 ∧ W.cell? ⟨b, 6, none⟩ = some v6 ∧ W.cell? ⟨b, 7, none⟩ = some v7 ∧ W.cell? ⟨b, 8, none⟩ = some v8 ∧ W.cell? ⟨b, 9, none⟩ = some v9 ∧ W.cell? ⟨b, 10, none⟩ = some v10 ∧ W.cell? ⟨b, 11, none⟩ = some v11 ∧ W.cell? ⟨b, 12, none⟩ = some v12 ∧ W.cell? ⟨b, 13, none⟩ = some v13 ∧ W.cell? ⟨b, 14, none⟩ = some v14 ∧ W.cell? ⟨b, 15, none⟩ = some v15) ∧ (W.frozen? ⟨b, 0, none⟩ = false ∧ W.frozen? ⟨b, 1, none⟩ = false ∧ W.frozen? ⟨b, 2, none⟩ = false ∧ W.frozen? ⟨b, 3, none⟩ = false ∧ W.frozen? ⟨b, 4, none⟩ = false ∧ W.frozen? ⟨b, 5, none⟩ = false ∧ W.frozen? ⟨b, 6, none⟩ = false ∧ W.frozen? ⟨b, 7, none⟩ = false ∧ W.frozen? ⟨b, 8, none⟩ = false ∧ W.frozen? ⟨b, 9, none⟩ = false ∧ W.frozen? ⟨b, 10, none⟩ = false ∧ W.frozen? ⟨b, 11, none⟩ = false ∧ W.frozen? ⟨b, 12, none⟩ = false ∧ W.frozen? ⟨b, 13, none⟩ = false ∧ W.frozen? ⟨b, 14, none⟩ = false ∧ W.frozen? ⟨b, 15, none⟩ = false) ∧ b < W.heap.size :=
  ⟨⟨(h.2 0 _ rfl).1, (h.2 1 _ rfl).1, (h.2 2 _ rfl).1, (h.2 3 _ rfl).1, (h.2 4 _ rfl).1, (h.2 5 _ rfl).1, (h.2 6 _ rfl).1, (h.2 7 _ rfl).1, (h.2 8 _ rfl).1, (h.2 9 _ rfl).1, (h.2 10 _ rfl).1, (h.2 11 _ rfl).1, (h.2 12 _ rfl).1, (h.2 13 _ rfl).1, (h.2 14 _ rfl).1, (h.2 15 _ rfl).1⟩, ⟨(h.2 0 _ rfl).2, (h.2 1 _ rfl).2, (h.2 2 _ rfl).2, (h.2 3 _ rfl).2, (h.2 4 _ rfl).2, (h.2 5 _ rfl).2, (h.2 6 _ rfl).2, (h.2 7 _ rfl).2, (h.2 8 _ rfl).2, (h.2 9 _ rfl).2, (h.2 10 _ rfl).2, (h.2 11 _ rfl).2, (h.2 12 _ rfl).2, (h.2 13 _ rfl).2, (h.2 14 _ rfl).2, (h.2 15 _ rfl).2⟩, h.1⟩
theorem At.range {W : World} {b : Nat} {vs : Array Value} (h : At W b vs) : W.rangeAt b 0 vs.toList := fun j v hv => by rw [Nat.zero_add]; exact (h.2 j v (by simpa using hv)).1
theorem wpList_loadG {P : Program} {ops : Array Oper} {rest : List Oper} {op : Oper} {a : Act} {w : World} {Q : Exit → Act → World → Prop} (ty : TypeId) (x : Operand) (ho : op.op = .load ty x) (hw : Region.wanted op (yielded ops a.tmps) = true)
    (b o : Nat) (hx : a.eval x = .pointer (some ⟨b, o, none⟩)) (cs : List Value) (d : TypeDesc) (hc : w.rangeAt b o cs)
    (hu : P.underlying ty = some d) (hd : d.isRow = true) (hi : (P.info? ty).map (·.size) = some cs.length)
    (h : wpList P ops Q rest (a.put op.dst (.agg cs.toArray)) w) : wpList P ops Q (op :: rest) a w :=
  wpList_step fun K hK => by rw [if_pos hw]; exact wp_load_mid ty x ho b o hx cs d hc hu hd hi (hK _ _ h)
theorem size54 : (Tryz.prog.info? 54).map (·.size) = some 16 := by kernel_rfl
def hasV (f k : Int) : Bool := bits .and .i64 f k == k
def preG (s : Sg) : Bool := fitsB s.fr 65535 && fitsB s.dt 65535 && numB s.sq && numB s.ak && fitsB s.fl 63 && fitsB s.wi 65535 && fitsB s.ur 65535
def mayG (s : Sg) : Bool := preG s && (hasV s.fl 16 || decide (s.ak = 0)) && (hasV s.fl 32 || decide (s.ur = 0)) && s.o.may && decide (s.da.size ≤ 1480)
theorem fits_s (n most : Int) (w : World) : Calls Tryz.prog 100 #[.int .i64 n, .int .i64 most] w fun e w' => e = .returned (.bool (fitsB n most)) ∧ w' = w := by
  unfold fitsB
  by_cases h0 : 0 ≤ n
  · by_cases h1 : n ≤ most
    · rw [decide_eq_true ⟨h0, h1⟩]
      go_enter Tryz.func100, Tryz.ntmps100
      go_wp2
      go_ret
      exact ⟨by first | rfl | (simp; omega), rfl⟩
    · rw [decide_eq_false (fun h => h1 h.2)]
      go_enter Tryz.func100, Tryz.ntmps100
      go_wp2
      go_ret
      exact ⟨by first | rfl | (simp; omega), rfl⟩
  · rw [decide_eq_false (fun h => h0 h.1)]
    go_enter Tryz.func100, Tryz.ntmps100
    go_wp2
    go_ret
    exact ⟨rfl, rfl⟩
theorem fs_t {n most : Int} (w : World) (h : fitsB n most = true) : Calls Tryz.prog 100 #[.int .i64 n, .int .i64 most] w fun e w' => e = .returned (.bool true) ∧ w' = w := by have := fits_s n most w; rw [h] at this; exact this
theorem fs_f {n most : Int} (w : World) (h : fitsB n most = false) : Calls Tryz.prog 100 #[.int .i64 n, .int .i64 most] w fun e w' => e = .returned (.bool false) ∧ w' = w := by have := fits_s n most w; rw [h] at this; exact this
theorem number_s (n : Int) (w : World) : Calls Tryz.prog 107 #[.int .i64 n] w fun e w' => e = .returned (.bool (numB n)) ∧ w' = w := by
  have hc := check_any n w
  rcases Bool.eq_false_or_eq_true (numB n) with h | h
  all_goals
    rw [h] at hc ⊢
    go_enter Tryz.func107, Tryz.ntmps107
    go_wp2_with fail
    refine hc.mono ?_
    rintro e w' ⟨rfl, rfl⟩
    go_wp2
    go_ret
    exact ⟨rfl, rfl⟩
theorem nm_t {n : Int} (w : World) (h : numB n = true) : Calls Tryz.prog 107 #[.int .i64 n] w fun e w' => e = .returned (.bool true) ∧ w' = w := by have := number_s n w; rw [h] at this; exact this
theorem nm_f {n : Int} (w : World) (h : numB n = false) : Calls Tryz.prog 107 #[.int .i64 n] w fun e w' => e = .returned (.bool false) ∧ w' = w := by have := number_s n w; rw [h] at this; exact this
theorem addr_any (f t : Int) (w : World) : Calls Tryz.prog 85 #[.int .i64 f, .int .i64 t] w fun e w' => e = .returned (.bool (numB f && numB t)) ∧ w' = w := by
  have e1 : fitsB f 4294967295 = numB f := rfl
  have e2 : fitsB t 4294967295 = numB t := rfl
  rw [← e1, ← e2]
  rcases Bool.eq_false_or_eq_true (fitsB f 4294967295) with h | h
  all_goals
    rcases Bool.eq_false_or_eq_true (fitsB t 4294967295) with h2 | h2
    all_goals
      rw [h, h2]
      go_enter Tryz.func85, Tryz.ntmps85
      go_wp2_with (first | (go_at_call 100; refine (fs_t _ (by assumption)).mono ?_; rintro e w' ⟨rfl, rfl⟩) | (go_at_call 100; refine (fs_f _ (by assumption)).mono ?_; rintro e w' ⟨rfl, rfl⟩))
      go_ret
      exact ⟨rfl, rfl⟩
theorem has_any (s : Sg) (v : Value) (k : Int) (w : World) : Calls Tryz.prog 108 #[.agg #[.int .i64 s.fr, .int .i64 s.dt, .int .i64 s.sq, .int .i64 s.ak, .int .i64 s.fl, .int .i64 s.wi, .int .i64 s.ur, .int .i64 s.o.m, .int .i64 s.o.c, .int .i64 s.o.t, .int .i64 s.o.ec, .bool s.o.sd, .bool s.o.ok, .bool s.o.sp, v, .string s.da], .int .i64 k] w fun e w' => e = .returned (.bool (hasV s.fl k)) ∧ Below w.heap.size w w' := by
  obtain ⟨⟨c0, c1, c2, c3, c4, c5, c6, c7, c8, c9, c10, c11, c12, c13, c14, c15⟩, -, -⟩ := (At.box w #[.int .i64 s.fr, .int .i64 s.dt, .int .i64 s.sq, .int .i64 s.ak, .int .i64 s.fl, .int .i64 s.wi, .int .i64 s.ur, .int .i64 s.o.m, .int .i64 s.o.c, .int .i64 s.o.t, .int .i64 s.o.ec, .bool s.o.sd, .bool s.o.ok, .bool s.o.sp, v, .string s.da] 54).sixteen
  have hl := bel1 w (.cells #[.int .i64 s.fr, .int .i64 s.dt, .int .i64 s.sq, .int .i64 s.ak, .int .i64 s.fl, .int .i64 s.wi, .int .i64 s.ur, .int .i64 s.o.m, .int .i64 s.o.c, .int .i64 s.o.t, .int .i64 s.o.ec, .bool s.o.sd, .bool s.o.ok, .bool s.o.sp, v, .string s.da] 54)
  go_enter Tryz.func108, Tryz.ntmps108
  go_wp2
  go_ret
  exact ⟨rfl, hl⟩
theorem has_t (s : Sg) (v : Value) (k : Int) (w : World) (h : hasV s.fl k = true) : Calls Tryz.prog 108 #[.agg #[.int .i64 s.fr, .int .i64 s.dt, .int .i64 s.sq, .int .i64 s.ak, .int .i64 s.fl, .int .i64 s.wi, .int .i64 s.ur, .int .i64 s.o.m, .int .i64 s.o.c, .int .i64 s.o.t, .int .i64 s.o.ec, .bool s.o.sd, .bool s.o.ok, .bool s.o.sp, v, .string s.da], .int .i64 k] w fun e w' => e = .returned (.bool true) ∧ Below w.heap.size w w' := by have := has_any s v k w; rw [h] at this; exact this
theorem has_f (s : Sg) (v : Value) (k : Int) (w : World) (h : hasV s.fl k = false) : Calls Tryz.prog 108 #[.agg #[.int .i64 s.fr, .int .i64 s.dt, .int .i64 s.sq, .int .i64 s.ak, .int .i64 s.fl, .int .i64 s.wi, .int .i64 s.ur, .int .i64 s.o.m, .int .i64 s.o.c, .int .i64 s.o.t, .int .i64 s.o.ec, .bool s.o.sd, .bool s.o.ok, .bool s.o.sp, v, .string s.da], .int .i64 k] w fun e w' => e = .returned (.bool false) ∧ Below w.heap.size w w' := by have := has_any s v k w; rw [h] at this; exact this
theorem get_s (s : ByteArray) (off k : Int) (w : World) (hs : s.size ≤ maxLen) : Calls Tryz.prog 106 #[.string s, .int .i64 off, .int .i64 k] w fun e w' => e = .returned (.int .i64 (getV s off k)) ∧ Below w.heap.size w w' := by
  go_enter Tryz.func106, Tryz.ntmps106
  go_wp2_with fail
  refine (get_any s off k _ hs).mono ?_
  rintro e w' ⟨rfl, hb⟩
  go_wp2
  go_ret
  exact ⟨rfl, hb⟩
theorem pseudo_s (f t l : Int) (w : World) : Calls Tryz.prog 87 #[.int .i64 f, .int .i64 t, .int .i64 l] w fun e w' => e = .returned (.string (pseuV f t 6 l)) ∧ Below w.heap.size w w' := by
  go_enter Tryz.func87, Tryz.ntmps87
  go_wp2_with fail
  refine (pseudo_any f t 6 l _).mono ?_
  rintro e w' ⟨rfl, hb⟩
  go_wp2
  go_ret
  exact ⟨rfl, hb⟩
end Go.Proofs.YthjbmloemmggaaaGreatDoor

namespace Go.Proofs.YthjbmloemmggaaaGreatDoor
open Go.RowKit
set_option maxRecDepth 100000
set_option linter.unusedVariables false

theorem size52 : (Tryz.prog.info? 52).map (·.size) = some 8 := by kernel_rfl
theorem At.mid {W : World} {b : Nat} {vs : Array Value} (h : At W b vs) (o n : Nat) : W.rangeAt b o ((vs.toList.drop o).take n) := fun j v hv => by
  refine (h.2 (o + j) v ?_).1
  rw [List.getElem?_take] at hv
  split at hv
  · rw [List.getElem?_drop] at hv; simpa using hv
  · cases hv
theorem At.opts {W : World} {b : Nat} {s : Sg} {v : Value} (h : At W b #[.int .i64 s.fr, .int .i64 s.dt, .int .i64 s.sq, .int .i64 s.ak, .int .i64 s.fl, .int .i64 s.wi, .int .i64 s.ur, .int .i64 s.o.m, .int .i64 s.o.c, .int .i64 s.o.t, .int .i64 s.o.ec, .bool s.o.sd, .bool s.o.ok, .bool s.o.sp, v, .string s.da]) : W.rangeAt b 7 #[.int .i64 s.o.m, .int .i64 s.o.c, .int .i64 s.o.t, .int .i64 s.o.ec, .bool s.o.sd, .bool s.o.ok, .bool s.o.sp, v].toList := h.mid 7 8
theorem mayG_t {s : Sg} (h1 : fitsB s.fr 65535 = true) (h2 : fitsB s.dt 65535 = true) (h3 : numB s.sq = true) (h4 : numB s.ak = true) (h5 : fitsB s.fl 63 = true) (h6 : fitsB s.wi 65535 = true) (h7 : fitsB s.ur 65535 = true) (ha : hasV s.fl 16 = true ∨ s.ak = 0) (hu : hasV s.fl 32 = true ∨ s.ur = 0) (hm : s.o.may = true) (hd : s.da.size ≤ 1480) : mayG s = true := by
  unfold mayG preG
  have e1 : (hasV s.fl 16 || decide (s.ak = 0)) = true := by
    rcases ha with h | h
    · rw [h]; rfl
    · rw [decide_eq_true h, Bool.or_true]
  have e2 : (hasV s.fl 32 || decide (s.ur = 0)) = true := by
    rcases hu with h | h
    · rw [h]; rfl
    · rw [decide_eq_true h, Bool.or_true]
  rw [h1, h2, h3, h4, h5, h6, h7, e1, e2, hm, decide_eq_true hd]; rfl
theorem ck_t {o : Op} {v : Value} (w : World) (hv : Rgs w v o.rs) (hn : o.rs.length ≤ 17592186044416) (hG : Ord w) (h : o.may = true) : Calls Tryz.prog 109 #[.agg #[.int .i64 o.m, .int .i64 o.c, .int .i64 o.t, .int .i64 o.ec, .bool o.sd, .bool o.ok, .bool o.sp, v]] w fun e w' => e = .returned (.int .i64 0) ∧ Below w.heap.size w w' := by
  have := check_o o.m o.c o.t o.ec o.sd o.ok o.sp v o.rs w hv hn hG
  rw [show mayO o.m o.c o.t o.ec o.sd o.ok o.sp o.rs = true from h, codeO_t] at this
  exact this
theorem ck_f {o : Op} {v : Value} (w : World) (hv : Rgs w v o.rs) (hn : o.rs.length ≤ 17592186044416) (hG : Ord w) (h : o.may = false) : Calls Tryz.prog 109 #[.agg #[.int .i64 o.m, .int .i64 o.c, .int .i64 o.t, .int .i64 o.ec, .bool o.sd, .bool o.ok, .bool o.sp, v]] w fun e w' => e = .returned (.int .i64 70) ∧ Below w.heap.size w w' := by
  have := check_o o.m o.c o.t o.ec o.sd o.ok o.sp v o.rs w hv hn hG
  rw [show mayO o.m o.c o.t o.ec o.sd o.ok o.sp o.rs = false from h, codeO_f] at this
  exact this
set_option maxHeartbeats 4000000 in
theorem may_s (s : Sg) (v : Value) (w : World) (hv : Rgs w v s.o.rs) (hn : s.o.rs.length ≤ 17592186044416) (hG : Ord w) :
    Calls Tryz.prog 90 #[.agg #[.int .i64 s.fr, .int .i64 s.dt, .int .i64 s.sq, .int .i64 s.ak, .int .i64 s.fl, .int .i64 s.wi, .int .i64 s.ur, .int .i64 s.o.m, .int .i64 s.o.c, .int .i64 s.o.t, .int .i64 s.o.ec, .bool s.o.sd, .bool s.o.ok, .bool s.o.sp, v, .string s.da]] w fun e w' => e = .returned (.bool (mayG s)) ∧ Below w.heap.size w w' := by
  have hA := At.box w #[.int .i64 s.fr, .int .i64 s.dt, .int .i64 s.sq, .int .i64 s.ak, .int .i64 s.fl, .int .i64 s.wi, .int .i64 s.ur, .int .i64 s.o.m, .int .i64 s.o.c, .int .i64 s.o.t, .int .i64 s.o.ec, .bool s.o.sd, .bool s.o.ok, .bool s.o.sp, v, .string s.da] 54
  have hl := bel1 w (.cells #[.int .i64 s.fr, .int .i64 s.dt, .int .i64 s.sq, .int .i64 s.ak, .int .i64 s.fl, .int .i64 s.wi, .int .i64 s.ur, .int .i64 s.o.m, .int .i64 s.o.c, .int .i64 s.o.t, .int .i64 s.o.ec, .bool s.o.sd, .bool s.o.ok, .bool s.o.sp, v, .string s.da] 54)
  have hr := hv.later hl
  replace hG := hG.later hl
  clear hv
  obtain ⟨⟨c0, c1, c2, c3, c4, c5, c6, c7, c8, c9, c10, c11, c12, c13, c14, c15⟩, -, -⟩ := hA.sixteen
  go_enter Tryz.func90, Tryz.ntmps90
  rcases (Bool.eq_false_or_eq_true (fitsB s.fr 65535)).symm with h1 | h1
  · go_wp2_with fail
    refine (fs_f _ h1).mono ?_
    rintro e w' ⟨rfl, rfl⟩
    have HM : Hid (mayG s = false) := by show _ = _; simp [mayG, preG, h1]
    go_wp2
    go_ret
    exact ⟨by rw [HM.out]; first | rfl | (congr 2; simp; omega), hl⟩
  go_wp2_with fail
  refine (fs_t _ h1).mono ?_
  rintro e w' ⟨rfl, rfl⟩
  rcases (Bool.eq_false_or_eq_true (fitsB s.dt 65535)).symm with h2 | h2
  · go_wp2_with fail
    refine (fs_f _ h2).mono ?_
    rintro e w' ⟨rfl, rfl⟩
    have HM : Hid (mayG s = false) := by show _ = _; simp [mayG, preG, h2]
    go_wp2
    go_ret
    exact ⟨by rw [HM.out]; first | rfl | (congr 2; simp; omega), hl⟩
  go_wp2_with fail
  refine (fs_t _ h2).mono ?_
  rintro e w' ⟨rfl, rfl⟩
  rcases (Bool.eq_false_or_eq_true (numB s.sq)).symm with h3 | h3
  · go_wp2_with fail
    refine (nm_f _ h3).mono ?_
    rintro e w' ⟨rfl, rfl⟩
    have HM : Hid (mayG s = false) := by show _ = _; simp [mayG, preG, h3]
    go_wp2
    go_ret
    exact ⟨by rw [HM.out]; first | rfl | (congr 2; simp; omega), hl⟩
  go_wp2_with fail
  refine (nm_t _ h3).mono ?_
  rintro e w' ⟨rfl, rfl⟩
  rcases (Bool.eq_false_or_eq_true (numB s.ak)).symm with h4 | h4
  · go_wp2_with fail
    refine (nm_f _ h4).mono ?_
    rintro e w' ⟨rfl, rfl⟩
    have HM : Hid (mayG s = false) := by show _ = _; simp [mayG, preG, h4]
    go_wp2
    go_ret
    exact ⟨by rw [HM.out]; first | rfl | (congr 2; simp; omega), hl⟩
  go_wp2_with fail
  refine (nm_t _ h4).mono ?_
  rintro e w' ⟨rfl, rfl⟩
  rcases (Bool.eq_false_or_eq_true (fitsB s.fl 63)).symm with h5 | h5
  · go_wp2_with fail
    refine (fs_f _ h5).mono ?_
    rintro e w' ⟨rfl, rfl⟩
    have HM : Hid (mayG s = false) := by show _ = _; simp [mayG, preG, h5]
    go_wp2
    go_ret
    exact ⟨by rw [HM.out]; first | rfl | (congr 2; simp; omega), hl⟩
  go_wp2_with fail
  refine (fs_t _ h5).mono ?_
  rintro e w' ⟨rfl, rfl⟩
  rcases (Bool.eq_false_or_eq_true (fitsB s.wi 65535)).symm with h6 | h6
  · go_wp2_with fail
    refine (fs_f _ h6).mono ?_
    rintro e w' ⟨rfl, rfl⟩
    have HM : Hid (mayG s = false) := by show _ = _; simp [mayG, preG, h6]
    go_wp2
    go_ret
    exact ⟨by rw [HM.out]; first | rfl | (congr 2; simp; omega), hl⟩
  go_wp2_with fail
  refine (fs_t _ h6).mono ?_
  rintro e w' ⟨rfl, rfl⟩
  rcases (Bool.eq_false_or_eq_true (fitsB s.ur 65535)).symm with h7 | h7
  · go_wp2_with fail
    refine (fs_f _ h7).mono ?_
    rintro e w' ⟨rfl, rfl⟩
    have HM : Hid (mayG s = false) := by show _ = _; simp [mayG, preG, h7]
    go_wp2
    go_ret
    exact ⟨by rw [HM.out]; first | rfl | (congr 2; simp; omega), hl⟩
  go_wp2_with fail
  refine (fs_t _ h7).mono ?_
  rintro e w' ⟨rfl, rfl⟩
  go_wp2_with (refine wpList_loadG 54 _ (by rfl) (by rfl) w.heap.size 0 (by rfl) _ _ hA.range Tryz.underlying54 rfl size54 ?_)
  rcases Bool.eq_false_or_eq_true (hasV s.fl 16) with ha | ha
  · refine (has_t s v 16 _ ha).mono ?_
    rintro e w1 ⟨rfl, hb⟩
    replace hl := bt hl hb
    replace hA := hA.later hb
    replace hr := hr.later hb
    replace hG := hG.later hb
    clear hb c0 c1 c2 c3 c4 c5 c6 c7 c8 c9 c10 c11 c12 c13 c14 c15
    obtain ⟨⟨c0, c1, c2, c3, c4, c5, c6, c7, c8, c9, c10, c11, c12, c13, c14, c15⟩, -, -⟩ := hA.sixteen
    go_wp2_with (refine wpList_loadG 54 _ (by rfl) (by rfl) w.heap.size 0 (by rfl) _ _ hA.range Tryz.underlying54 rfl size54 ?_)
    rcases Bool.eq_false_or_eq_true (hasV s.fl 32) with hu | hu
    · refine (has_t s v 32 _ hu).mono ?_
      rintro e w2 ⟨rfl, hb⟩
      replace hl := bt hl hb
      replace hA := hA.later hb
      replace hr := hr.later hb
      replace hG := hG.later hb
      clear hb c0 c1 c2 c3 c4 c5 c6 c7 c8 c9 c10 c11 c12 c13 c14 c15
      obtain ⟨⟨c0, c1, c2, c3, c4, c5, c6, c7, c8, c9, c10, c11, c12, c13, c14, c15⟩, -, -⟩ := hA.sixteen
      go_wp2_with (refine wpList_loadG 52 _ (by rfl) (by rfl) w.heap.size 7 (by rfl) _ _ hA.opts Tryz.underlying52 rfl size52 ?_)
      rcases (Bool.eq_false_or_eq_true s.o.may).symm with hm | hm
      · refine (ck_f _ hr hn hG hm).mono ?_
        rintro e w3 ⟨rfl, hb⟩
        replace hl := bt hl hb
        replace hA := hA.later hb
        replace hr := hr.later hb
        replace hG := hG.later hb
        clear hb c0 c1 c2 c3 c4 c5 c6 c7 c8 c9 c10 c11 c12 c13 c14 c15
        obtain ⟨⟨c0, c1, c2, c3, c4, c5, c6, c7, c8, c9, c10, c11, c12, c13, c14, c15⟩, -, -⟩ := hA.sixteen
        have HM : Hid (mayG s = false) := by show _ = _; simp [mayG, hm]
        go_wp2
        go_ret
        exact ⟨by rw [HM.out]; first | rfl | (congr 2; simp; omega), hl⟩
      refine (ck_t _ hr hn hG hm).mono ?_
      rintro e w3 ⟨rfl, hb⟩
      replace hl := bt hl hb
      replace hA := hA.later hb
      replace hr := hr.later hb
      replace hG := hG.later hb
      clear hb c0 c1 c2 c3 c4 c5 c6 c7 c8 c9 c10 c11 c12 c13 c14 c15
      obtain ⟨⟨c0, c1, c2, c3, c4, c5, c6, c7, c8, c9, c10, c11, c12, c13, c14, c15⟩, -, -⟩ := hA.sixteen
      by_cases hd : s.da.size ≤ 1480
      · have hd1 : (s.da.size : Int) ≤ 1480 := by omega
        have HM : Hid (mayG s = true) := by show _ = _; exact mayG_t h1 h2 h3 h4 h5 h6 h7 (.inl ha) (.inl hu) hm hd
        go_wp2
        go_ret
        exact ⟨by rw [HM.out]; first | rfl | (congr 2; simp; omega), hl⟩
      · have hd1 : ¬ (s.da.size : Int) ≤ 1480 := by omega
        have HM : Hid (mayG s = false) := by show _ = _; simp [mayG, hd]
        go_wp2
        go_ret
        exact ⟨by rw [HM.out]; first | rfl | (congr 2; simp; omega), hl⟩
    · refine (has_f s v 32 _ hu).mono ?_
      rintro e w2 ⟨rfl, hb⟩
      replace hl := bt hl hb
      replace hA := hA.later hb
      replace hr := hr.later hb
      replace hG := hG.later hb
      clear hb c0 c1 c2 c3 c4 c5 c6 c7 c8 c9 c10 c11 c12 c13 c14 c15
      obtain ⟨⟨c0, c1, c2, c3, c4, c5, c6, c7, c8, c9, c10, c11, c12, c13, c14, c15⟩, -, -⟩ := hA.sixteen
      by_cases ku : s.ur = 0
      · have ku1 : (s.ur == 0) = true := by simpa using ku
        have KU : Hid (s.ur = 0) := ku
        clear ku
        go_wp2_with (refine wpList_loadG 52 _ (by rfl) (by rfl) w.heap.size 7 (by rfl) _ _ hA.opts Tryz.underlying52 rfl size52 ?_)
        rcases (Bool.eq_false_or_eq_true s.o.may).symm with hm | hm
        · refine (ck_f _ hr hn hG hm).mono ?_
          rintro e w3 ⟨rfl, hb⟩
          replace hl := bt hl hb
          replace hA := hA.later hb
          replace hr := hr.later hb
          replace hG := hG.later hb
          clear hb c0 c1 c2 c3 c4 c5 c6 c7 c8 c9 c10 c11 c12 c13 c14 c15
          obtain ⟨⟨c0, c1, c2, c3, c4, c5, c6, c7, c8, c9, c10, c11, c12, c13, c14, c15⟩, -, -⟩ := hA.sixteen
          have HM : Hid (mayG s = false) := by show _ = _; simp [mayG, hm]
          go_wp2
          go_ret
          exact ⟨by rw [HM.out]; first | rfl | (congr 2; simp; omega), hl⟩
        refine (ck_t _ hr hn hG hm).mono ?_
        rintro e w3 ⟨rfl, hb⟩
        replace hl := bt hl hb
        replace hA := hA.later hb
        replace hr := hr.later hb
        replace hG := hG.later hb
        clear hb c0 c1 c2 c3 c4 c5 c6 c7 c8 c9 c10 c11 c12 c13 c14 c15
        obtain ⟨⟨c0, c1, c2, c3, c4, c5, c6, c7, c8, c9, c10, c11, c12, c13, c14, c15⟩, -, -⟩ := hA.sixteen
        by_cases hd : s.da.size ≤ 1480
        · have hd1 : (s.da.size : Int) ≤ 1480 := by omega
          have HM : Hid (mayG s = true) := by show _ = _; exact mayG_t h1 h2 h3 h4 h5 h6 h7 (.inl ha) (.inr KU.out) hm hd
          go_wp2
          go_ret
          exact ⟨by rw [HM.out]; first | rfl | (congr 2; simp; omega), hl⟩
        · have hd1 : ¬ (s.da.size : Int) ≤ 1480 := by omega
          have HM : Hid (mayG s = false) := by show _ = _; simp [mayG, hd]
          go_wp2
          go_ret
          exact ⟨by rw [HM.out]; first | rfl | (congr 2; simp; omega), hl⟩
      · have ku1 : (s.ur == 0) = false := by simpa using ku
        have HM : Hid (mayG s = false) := by show _ = _; simp [mayG, hu, ku]
        go_wp2
        go_ret
        exact ⟨by rw [HM.out]; first | rfl | (congr 2; simp; omega), hl⟩
  · refine (has_f s v 16 _ ha).mono ?_
    rintro e w1 ⟨rfl, hb⟩
    replace hl := bt hl hb
    replace hA := hA.later hb
    replace hr := hr.later hb
    replace hG := hG.later hb
    clear hb c0 c1 c2 c3 c4 c5 c6 c7 c8 c9 c10 c11 c12 c13 c14 c15
    obtain ⟨⟨c0, c1, c2, c3, c4, c5, c6, c7, c8, c9, c10, c11, c12, c13, c14, c15⟩, -, -⟩ := hA.sixteen
    by_cases ka : s.ak = 0
    · have ka1 : (s.ak == 0) = true := by simpa using ka
      have KA : Hid (s.ak = 0) := ka
      clear ka
      go_wp2_with (refine wpList_loadG 54 _ (by rfl) (by rfl) w.heap.size 0 (by rfl) _ _ hA.range Tryz.underlying54 rfl size54 ?_)
      rcases Bool.eq_false_or_eq_true (hasV s.fl 32) with hu | hu
      · refine (has_t s v 32 _ hu).mono ?_
        rintro e w2 ⟨rfl, hb⟩
        replace hl := bt hl hb
        replace hA := hA.later hb
        replace hr := hr.later hb
        replace hG := hG.later hb
        clear hb c0 c1 c2 c3 c4 c5 c6 c7 c8 c9 c10 c11 c12 c13 c14 c15
        obtain ⟨⟨c0, c1, c2, c3, c4, c5, c6, c7, c8, c9, c10, c11, c12, c13, c14, c15⟩, -, -⟩ := hA.sixteen
        go_wp2_with (refine wpList_loadG 52 _ (by rfl) (by rfl) w.heap.size 7 (by rfl) _ _ hA.opts Tryz.underlying52 rfl size52 ?_)
        rcases (Bool.eq_false_or_eq_true s.o.may).symm with hm | hm
        · refine (ck_f _ hr hn hG hm).mono ?_
          rintro e w3 ⟨rfl, hb⟩
          replace hl := bt hl hb
          replace hA := hA.later hb
          replace hr := hr.later hb
          replace hG := hG.later hb
          clear hb c0 c1 c2 c3 c4 c5 c6 c7 c8 c9 c10 c11 c12 c13 c14 c15
          obtain ⟨⟨c0, c1, c2, c3, c4, c5, c6, c7, c8, c9, c10, c11, c12, c13, c14, c15⟩, -, -⟩ := hA.sixteen
          have HM : Hid (mayG s = false) := by show _ = _; simp [mayG, hm]
          go_wp2
          go_ret
          exact ⟨by rw [HM.out]; first | rfl | (congr 2; simp; omega), hl⟩
        refine (ck_t _ hr hn hG hm).mono ?_
        rintro e w3 ⟨rfl, hb⟩
        replace hl := bt hl hb
        replace hA := hA.later hb
        replace hr := hr.later hb
        replace hG := hG.later hb
        clear hb c0 c1 c2 c3 c4 c5 c6 c7 c8 c9 c10 c11 c12 c13 c14 c15
        obtain ⟨⟨c0, c1, c2, c3, c4, c5, c6, c7, c8, c9, c10, c11, c12, c13, c14, c15⟩, -, -⟩ := hA.sixteen
        by_cases hd : s.da.size ≤ 1480
        · have hd1 : (s.da.size : Int) ≤ 1480 := by omega
          have HM : Hid (mayG s = true) := by show _ = _; exact mayG_t h1 h2 h3 h4 h5 h6 h7 (.inr KA.out) (.inl hu) hm hd
          go_wp2
          go_ret
          exact ⟨by rw [HM.out]; first | rfl | (congr 2; simp; omega), hl⟩
        · have hd1 : ¬ (s.da.size : Int) ≤ 1480 := by omega
          have HM : Hid (mayG s = false) := by show _ = _; simp [mayG, hd]
          go_wp2
          go_ret
          exact ⟨by rw [HM.out]; first | rfl | (congr 2; simp; omega), hl⟩
      · refine (has_f s v 32 _ hu).mono ?_
        rintro e w2 ⟨rfl, hb⟩
        replace hl := bt hl hb
        replace hA := hA.later hb
        replace hr := hr.later hb
        replace hG := hG.later hb
        clear hb c0 c1 c2 c3 c4 c5 c6 c7 c8 c9 c10 c11 c12 c13 c14 c15
        obtain ⟨⟨c0, c1, c2, c3, c4, c5, c6, c7, c8, c9, c10, c11, c12, c13, c14, c15⟩, -, -⟩ := hA.sixteen
        by_cases ku : s.ur = 0
        · have ku1 : (s.ur == 0) = true := by simpa using ku
          have KU : Hid (s.ur = 0) := ku
          clear ku
          go_wp2_with (refine wpList_loadG 52 _ (by rfl) (by rfl) w.heap.size 7 (by rfl) _ _ hA.opts Tryz.underlying52 rfl size52 ?_)
          rcases (Bool.eq_false_or_eq_true s.o.may).symm with hm | hm
          · refine (ck_f _ hr hn hG hm).mono ?_
            rintro e w3 ⟨rfl, hb⟩
            replace hl := bt hl hb
            replace hA := hA.later hb
            replace hr := hr.later hb
            replace hG := hG.later hb
            clear hb c0 c1 c2 c3 c4 c5 c6 c7 c8 c9 c10 c11 c12 c13 c14 c15
            obtain ⟨⟨c0, c1, c2, c3, c4, c5, c6, c7, c8, c9, c10, c11, c12, c13, c14, c15⟩, -, -⟩ := hA.sixteen
            have HM : Hid (mayG s = false) := by show _ = _; simp [mayG, hm]
            go_wp2
            go_ret
            exact ⟨by rw [HM.out]; first | rfl | (congr 2; simp; omega), hl⟩
          refine (ck_t _ hr hn hG hm).mono ?_
          rintro e w3 ⟨rfl, hb⟩
          replace hl := bt hl hb
          replace hA := hA.later hb
          replace hr := hr.later hb
          replace hG := hG.later hb
          clear hb c0 c1 c2 c3 c4 c5 c6 c7 c8 c9 c10 c11 c12 c13 c14 c15
          obtain ⟨⟨c0, c1, c2, c3, c4, c5, c6, c7, c8, c9, c10, c11, c12, c13, c14, c15⟩, -, -⟩ := hA.sixteen
          by_cases hd : s.da.size ≤ 1480
          · have hd1 : (s.da.size : Int) ≤ 1480 := by omega
            have HM : Hid (mayG s = true) := by show _ = _; exact mayG_t h1 h2 h3 h4 h5 h6 h7 (.inr KA.out) (.inr KU.out) hm hd
            go_wp2
            go_ret
            exact ⟨by rw [HM.out]; first | rfl | (congr 2; simp; omega), hl⟩
          · have hd1 : ¬ (s.da.size : Int) ≤ 1480 := by omega
            have HM : Hid (mayG s = false) := by show _ = _; simp [mayG, hd]
            go_wp2
            go_ret
            exact ⟨by rw [HM.out]; first | rfl | (congr 2; simp; omega), hl⟩
        · have ku1 : (s.ur == 0) = false := by simpa using ku
          have HM : Hid (mayG s = false) := by show _ = _; simp [mayG, hu, ku]
          go_wp2
          go_ret
          exact ⟨by rw [HM.out]; first | rfl | (congr 2; simp; omega), hl⟩
    · have ka1 : (s.ak == 0) = false := by simpa using ka
      have HM : Hid (mayG s = false) := by show _ = _; simp [mayG, ha, ka]
      go_wp2
      go_ret
      exact ⟨by rw [HM.out]; first | rfl | (congr 2; simp; omega), hl⟩
end Go.Proofs.YthjbmloemmggaaaGreatDoor

namespace Go.Proofs.YthjbmloemmggaaaGreatDoor
open Go.RowKit
set_option maxRecDepth 100000
set_option linter.unusedVariables false

theorem Below.setCells {B : Nat} {w0 : World} {b : Nat} (hb : B ≤ b) : ∀ (vs : List Value) (o : Nat) (w : World), Below B w0 w → Below B w0 (w.setCells b o vs)
  | [], _, _, h => h
  | v :: vs, o, w, h => by
    rw [World.setCells]
    exact Below.setCells hb vs (o + 1) _ (h.setCell (p := ⟨b, o, none⟩) hb v)
theorem size_setCells (b : Nat) : ∀ (vs : List Value) (o : Nat) (w : World), (w.setCells b o vs).heap.size = w.heap.size
  | [], _, _ => rfl
  | v :: vs, o, w => by rw [World.setCells, size_setCells b vs (o + 1) _, World.size_setCell]
theorem At.there {W : World} {b : Nat} {vs : Array Value} (h : At W b vs) : W.there b 0 vs.size := fun j hj => by
  obtain ⟨c, f⟩ := h.2 j vs[j] (Array.getElem?_eq_getElem hj)
  rw [Nat.zero_add]
  exact ⟨by rw [c]; rfl, f⟩
theorem At.whole {W : World} {b : Nat} {old vs : Array Value} (h : At W b old) (hs : old.size = vs.size) : At (W.setCells b 0 vs.toList) b vs := by
  refine ⟨by rw [size_setCells]; exact h.1, fun i v hi => ⟨?_, ?_⟩⟩
  · have hr := World.rangeAt_setCells_same W b 0 vs.toList (by rw [show vs.toList.length = old.size by rw [hs]; simp]; exact h.there)
    have := hr i v (by simpa using hi)
    rwa [Nat.zero_add] at this
  · rw [World.frozen?_setCells]
    have hlt : i < old.size := by rw [hs]; exact (Array.getElem?_eq_some_iff.1 hi).1
    exact (h.2 i old[i] (Array.getElem?_eq_getElem hlt)).2
theorem At.apart {W : World} {b c : Nat} {vs : Array Value} (h : At W c vs) (hne : b ≠ c) (o : Nat) (us : List Value) : At (W.setCells b o us) c vs := by
  refine ⟨by rw [size_setCells]; exact h.1, fun i v hi => ⟨?_, ?_⟩⟩
  · rw [World.cell?_setCells_out b us o W ⟨c, i, none⟩ (fun e _ => absurd e.symm hne)]
    exact (h.2 i v hi).1
  · rw [World.frozen?_setCells]; exact (h.2 i v hi).2
theorem ret_cell {fn : Func} {i j : Nat} (hres : fn.results = #[.cell i 54, .tmp j]) {tmps : Array Value} {W : World} {b : Nat} {vs : Array Value} {x : Value} (hA : At W b vs) (hs : vs.size = 16) (hi : tmps.getD i undef = .pointer (some ⟨b, 0, none⟩)) (hj : tmps.getD j undef = x) : (results fn tmps).run Tryz.prog W = .ok (.tuple #[.agg vs, x]) W := by
  have hl := run_loadVar_mid (P := Tryz.prog) W b 0 54 vs.toList _ hA.range Tryz.underlying54 rfl (by rw [show vs.toList.length = 16 by simpa using hs]; exact size54)
  rw [Array.getD_eq_getD_getElem?] at hi hj
  unfold results
  rw [hres]
  simp [hi, hj, asAddr, hl]
end Go.Proofs.YthjbmloemmggaaaGreatDoor

namespace Go.Proofs.YthjbmloemmggaaaGreatDoor
open Go.RowKit
set_option maxRecDepth 100000
set_option linter.unusedVariables false
def psS (f t : Int) (n : Nat) : ByteArray := txt f 4 ++ txt t 4 ++ txt 6 2 ++ txt (n : Int) 2
theorem psS_size (f t : Int) (n : Nat) : (psS f t n).size = 12 := by unfold psS; simp only [ByteArray.size_append, txt_size]
theorem pseuV_is (f t : Int) (n : Nat) (hf : numB f = true) (ht : numB t = true) (hn : n ≤ 65535) : pseuV f t 6 (n : Int) = psS f t n := by
  have h1 := of_decide_eq_true hf
  have h2 := of_decide_eq_true ht
  unfold pseuV pseuB psS
  rw [outB_f (by omega), outB_f (by omega), outB_f (by omega), outB_f (by omega)]
  rfl
end Go.Proofs.YthjbmloemmggaaaGreatDoor

namespace Go.Proofs.YthjbmloemmggaaaGreatDoor
open Go.RowKit
set_option maxRecDepth 100000
set_option linter.unusedVariables false

def by12 (b : ByteArray) : Nat := (b.data.toList.getD 12 0).toNat
def hdN (b : ByteArray) : Nat := by12 b / 16 * 4
def gotS (b : ByteArray) (o : Op) : Sg := ⟨numS (b.extract 0 2), numS (b.extract 2 4), numS (b.extract 4 8), numS (b.extract 8 12), numS (b.extract 13 14), numS (b.extract 14 16), numS (b.extract 18 20), o, b.extract (hdN b) b.size⟩
def shapeB (b : ByteArray) : Bool := decide (20 ≤ b.size ∧ b.size ≤ 1540 ∧ 20 ≤ hdN b ∧ hdN b ≤ b.size)
def wholeB (f t : Int) (b : ByteArray) : Bool := sumS (psS f t b.size ++ b) == 0
def lastB (b : ByteArray) (o : Op) : Bool := decide (by12 b % 16 = 0) && mayG (gotS b o)
def finG (b : ByteArray) (r : Option Op) : Except Int Sg := match r with
  | none => .error 70
  | some o => if lastB b o = true then .ok (gotS b o) else .error 80
def decG (f t : Int) (b : ByteArray) : Except Int Sg :=
  if (numB f && numB t) = true then
    (if shapeB b = true then
      (if wholeB f t b = true then finG b (decO (b.extract 20 (hdN b)).data.toList) else .error 20)
    else .error 80)
  else .error 1
theorem by12_le (b : ByteArray) : by12 b ≤ 255 := by unfold by12; have := (b.data.toList.getD 12 0).toNat_lt; omega
theorem by12_at (b : ByteArray) (h : 12 < b.size) : (b[12].toNat : Int) = (by12 b : Int) := by
  unfold by12
  have hl : 12 < b.data.toList.length := by rw [len_toList]; exact h
  rw [List.getD_eq_getElem?_getD, List.getElem?_eq_getElem hl]
  rfl
theorem decG_range {f t : Int} {b : ByteArray} (h : (numB f && numB t) = false) : decG f t b = .error 1 := by unfold decG; rw [h]; rfl
theorem decG_shape {f t : Int} {b : ByteArray} (h : (numB f && numB t) = true) (h1 : shapeB b = false) : decG f t b = .error 80 := by unfold decG; rw [h, h1]; rfl
theorem decG_sum {f t : Int} {b : ByteArray} (h : (numB f && numB t) = true) (h1 : shapeB b = true) (h2 : wholeB f t b = false) : decG f t b = .error 20 := by unfold decG; rw [h, h1, h2]; rfl
theorem decG_fin {f t : Int} {b : ByteArray} (h : (numB f && numB t) = true) (h1 : shapeB b = true) (h2 : wholeB f t b = true) : decG f t b = finG b (decO (b.extract 20 (hdN b)).data.toList) := by unfold decG; rw [h, h1, h2]; rfl
end Go.Proofs.YthjbmloemmggaaaGreatDoor
