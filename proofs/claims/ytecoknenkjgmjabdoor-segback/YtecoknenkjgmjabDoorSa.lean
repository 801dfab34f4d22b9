/- Segments as plain data: which may be, how long they are; and the contracts of the small calls of package seg: each returns just the value named here; nothing that was there turns. -/
import Derived.Test.YtecoknenkjgmjabDoorOe
import Derived.Test.YtecoknenkjgmjabDoorOk
import Derived.Test.YtecoknenkjgmjabDoorTurns
import Derived.Test.YtecoknenkjgmjabDoorSeals
import Derived.Deep.MidRow
namespace Go.Proofs.YtecoknenkjgmjabDoor
open Go.RowKit
set_option maxRecDepth 100000
set_option linter.unusedVariables false

/-- A segment. -/
structure Sg where
  fr : Int
  dt : Int
  sq : Int
  ak : Int
  fl : Int
  wi : Int
  ur : Int
  o : Op
  da : ByteArray
theorem At.sixteen {W : World} {b : Nat} {v0 v1 v2 v3 v4 v5 v6 v7 v8 v9 v10 v11 v12 v13 v14 v15 : Value} (h : At W b #[v0, v1, v2, v3, v4, v5, v6, v7, v8, v9, v10, v11, v12, v13, v14, v15]) : (W.cell? ⟨b, 0, none⟩ = some v0 ∧ W.cell? ⟨b, 1, none⟩ = some v1 ∧ W.cell? ⟨b, 2, none⟩ = some v2 ∧ W.cell? ⟨b, 3, none⟩ = some v3 ∧ W.cell? ⟨b, 4, none⟩ = some v4 ∧ W.cell? ⟨b, 5, none⟩ = some v5 ∧ W.cell? ⟨b, 6, none⟩ = some v6 ∧ W.cell? ⟨b, 7, none⟩ = some v7 ∧ W.cell? ⟨b, 8, none⟩ = some v8 ∧ W.cell? ⟨b, 9, none⟩ = some v9 ∧ W.cell? ⟨b, 10, none⟩ = some v10 ∧ W.cell? ⟨b, 11, none⟩ = some v11 ∧ W.cell? ⟨b, 12, none⟩ = some v12 ∧ W.cell? ⟨b, 13, none⟩ = some v13 ∧ W.cell? ⟨b, 14, none⟩ = some v14 ∧ W.cell? ⟨b, 15, none⟩ = some v15) ∧ (W.frozen? ⟨b, 0, none⟩ = false ∧ W.frozen? ⟨b, 1, none⟩ = false ∧ W.frozen? ⟨b, 2, none⟩ = false ∧ W.frozen? ⟨b, 3, none⟩ = false ∧ W.frozen? ⟨b, 4, none⟩ = false ∧ W.frozen? ⟨b, 5, none⟩ = false ∧ W.frozen? ⟨b, 6, none⟩ = false ∧ W.frozen? ⟨b, 7, none⟩ = false ∧ W.frozen? ⟨b, 8, none⟩ = false ∧ W.frozen? ⟨b, 9, none⟩ = false ∧ W.frozen? ⟨b, 10, none⟩ = false ∧ W.frozen? ⟨b, 11, none⟩ = false ∧ W.frozen? ⟨b, 12, none⟩ = false ∧ W.frozen? ⟨b, 13, none⟩ = false ∧ W.frozen? ⟨b, 14, none⟩ = false ∧ W.frozen? ⟨b, 15, none⟩ = false) ∧ b < W.heap.size :=
  ⟨⟨(h.2 0 _ rfl).1, (h.2 1 _ rfl).1, (h.2 2 _ rfl).1, (h.2 3 _ rfl).1, (h.2 4 _ rfl).1, (h.2 5 _ rfl).1, (h.2 6 _ rfl).1, (h.2 7 _ rfl).1, (h.2 8 _ rfl).1, (h.2 9 _ rfl).1, (h.2 10 _ rfl).1, (h.2 11 _ rfl).1, (h.2 12 _ rfl).1, (h.2 13 _ rfl).1, (h.2 14 _ rfl).1, (h.2 15 _ rfl).1⟩, ⟨(h.2 0 _ rfl).2, (h.2 1 _ rfl).2, (h.2 2 _ rfl).2, (h.2 3 _ rfl).2, (h.2 4 _ rfl).2, (h.2 5 _ rfl).2, (h.2 6 _ rfl).2, (h.2 7 _ rfl).2, (h.2 8 _ rfl).2, (h.2 9 _ rfl).2, (h.2 10 _ rfl).2, (h.2 11 _ rfl).2, (h.2 12 _ rfl).2, (h.2 13 _ rfl).2, (h.2 14 _ rfl).2, (h.2 15 _ rfl).2⟩, h.1⟩
theorem At.load16 {W : World} {b : Nat} {vs : Array Value} (h : At W b vs) (hs : vs.size = 16) : (Instr.loadAt 28 (.pointer (some ⟨b, 0, none⟩))).run Tryd.prog W = .ok (.agg vs) W :=
  run_loadAt_mid W b 0 28 vs.toList _ (fun j v hv => by rw [Nat.zero_add]; exact (h.2 j v (by simpa using hv)).1) Tryd.underlying28 rfl (by rw [show vs.toList.length = 16 by simpa using hs]; kernel_rfl)
theorem At.range {W : World} {b : Nat} {vs : Array Value} (h : At W b vs) : W.rangeAt b 0 vs.toList := fun j v hv => by rw [Nat.zero_add]; exact (h.2 j v (by simpa using hv)).1
/-- A whole struct is read, where the operation is wanted. -/
theorem wpList_loadG {P : Program} {ops : Array Oper} {rest : List Oper} {op : Oper} {a : Act} {w : World} {Q : Exit → Act → World → Prop} (ty : TypeId) (x : Operand) (ho : op.op = .load ty x) (hw : Region.wanted op (yielded ops a.tmps) = true)
    (b o : Nat) (hx : a.eval x = .pointer (some ⟨b, o, none⟩)) (cs : List Value) (d : TypeDesc) (hc : w.rangeAt b o cs)
    (hu : P.underlying ty = some d) (hd : d.isRow = true) (hi : (P.info? ty).map (·.size) = some cs.length)
    (h : wpList P ops Q rest (a.put op.dst (.agg cs.toArray)) w) : wpList P ops Q (op :: rest) a w :=
  wpList_step fun K hK => by rw [if_pos hw]; exact wp_load_mid ty x ho b o hx cs d hc hu hd hi (hK _ _ h)
theorem size28 : (Tryd.prog.info? 28).map (·.size) = some 16 := by kernel_rfl
/-- All of these flags are set. -/
def hasV (f k : Int) : Bool := bits .and .i64 f k == k
def preG (s : Sg) : Bool := fitsB s.fr 65535 && fitsB s.dt 65535 && numB s.sq && numB s.ak && fitsB s.fl 63 && fitsB s.wi 65535 && fitsB s.ur 65535
/-- A segment that may be. -/
def mayG (s : Sg) : Bool := preG s && (hasV s.fl 16 || decide (s.ak = 0)) && (hasV s.fl 32 || decide (s.ur = 0)) && s.o.may && decide (s.da.size ≤ 1480)
def codeG (b : Bool) : Int := if b = true then 0 else 80
/-- How many sequence numbers a segment takes. -/
def lenG (s : Sg) : Int := (s.da.size : Int) + (if hasV s.fl 2 = true then 1 else 0) + (if hasV s.fl 1 = true then 1 else 0)
theorem fits_s (n most : Int) (w : World) : Calls Tryd.prog 51 #[.int .i64 n, .int .i64 most] w fun e w' => e = .returned (.bool (fitsB n most)) ∧ w' = w := by
  unfold fitsB
  by_cases h0 : 0 ≤ n
  · by_cases h1 : n ≤ most
    · rw [decide_eq_true ⟨h0, h1⟩]
      go_enter Tryd.func51, Tryd.ntmps51
      go_wp2
      go_ret
      exact ⟨by first | rfl | (simp; omega), rfl⟩
    · rw [decide_eq_false (fun h => h1 h.2)]
      go_enter Tryd.func51, Tryd.ntmps51
      go_wp2
      go_ret
      exact ⟨by first | rfl | (simp; omega), rfl⟩
  · rw [decide_eq_false (fun h => h0 h.1)]
    go_enter Tryd.func51, Tryd.ntmps51
    go_wp2
    go_ret
    exact ⟨rfl, rfl⟩
theorem fs_t {n most : Int} (w : World) (h : fitsB n most = true) : Calls Tryd.prog 51 #[.int .i64 n, .int .i64 most] w fun e w' => e = .returned (.bool true) ∧ w' = w := by have := fits_s n most w; rw [h] at this; exact this
theorem fs_f {n most : Int} (w : World) (h : fitsB n most = false) : Calls Tryd.prog 51 #[.int .i64 n, .int .i64 most] w fun e w' => e = .returned (.bool false) ∧ w' = w := by have := fits_s n most w; rw [h] at this; exact this
theorem number_s (n : Int) (w : World) : Calls Tryd.prog 52 #[.int .i64 n] w fun e w' => e = .returned (.bool (numB n)) ∧ w' = w := by
  have hc := check_any n w
  rcases Bool.eq_false_or_eq_true (numB n) with h | h
  all_goals
    rw [h] at hc ⊢
    go_enter Tryd.func52, Tryd.ntmps52
    go_wp2_with fail
    refine hc.mono ?_
    rintro e w' ⟨rfl, rfl⟩
    go_wp2
    go_ret
    exact ⟨rfl, rfl⟩
theorem nm_t {n : Int} (w : World) (h : numB n = true) : Calls Tryd.prog 52 #[.int .i64 n] w fun e w' => e = .returned (.bool true) ∧ w' = w := by have := number_s n w; rw [h] at this; exact this
theorem nm_f {n : Int} (w : World) (h : numB n = false) : Calls Tryd.prog 52 #[.int .i64 n] w fun e w' => e = .returned (.bool false) ∧ w' = w := by have := number_s n w; rw [h] at this; exact this
theorem addr_any (f t : Int) (w : World) : Calls Tryd.prog 27 #[.int .i64 f, .int .i64 t] w fun e w' => e = .returned (.bool (numB f && numB t)) ∧ w' = w := by
  have e1 : fitsB f 4294967295 = numB f := rfl
  have e2 : fitsB t 4294967295 = numB t := rfl
  rw [← e1, ← e2]
  rcases Bool.eq_false_or_eq_true (fitsB f 4294967295) with h | h
  all_goals
    rcases Bool.eq_false_or_eq_true (fitsB t 4294967295) with h2 | h2
    all_goals
      rw [h, h2]
      go_enter Tryd.func27, Tryd.ntmps27
      go_wp2_with (first | (go_at_call 51; refine (fs_t _ (by assumption)).mono ?_; rintro e w' ⟨rfl, rfl⟩) | (go_at_call 51; refine (fs_f _ (by assumption)).mono ?_; rintro e w' ⟨rfl, rfl⟩))
      go_ret
      exact ⟨rfl, rfl⟩
theorem has_any (s : Sg) (v : Value) (k : Int) (w : World) : Calls Tryd.prog 15 #[.agg #[.int .i64 s.fr, .int .i64 s.dt, .int .i64 s.sq, .int .i64 s.ak, .int .i64 s.fl, .int .i64 s.wi, .int .i64 s.ur, .int .i64 s.o.m, .int .i64 s.o.c, .int .i64 s.o.t, .int .i64 s.o.ec, .bool s.o.sd, .bool s.o.ok, .bool s.o.sp, v, .string s.da], .int .i64 k] w fun e w' => e = .returned (.bool (hasV s.fl k)) ∧ Below w.heap.size w w' := by
  obtain ⟨⟨c0, c1, c2, c3, c4, c5, c6, c7, c8, c9, c10, c11, c12, c13, c14, c15⟩, -, -⟩ := (At.box w #[.int .i64 s.fr, .int .i64 s.dt, .int .i64 s.sq, .int .i64 s.ak, .int .i64 s.fl, .int .i64 s.wi, .int .i64 s.ur, .int .i64 s.o.m, .int .i64 s.o.c, .int .i64 s.o.t, .int .i64 s.o.ec, .bool s.o.sd, .bool s.o.ok, .bool s.o.sp, v, .string s.da] 28).sixteen
  have hl := bel1 w (.cells #[.int .i64 s.fr, .int .i64 s.dt, .int .i64 s.sq, .int .i64 s.ak, .int .i64 s.fl, .int .i64 s.wi, .int .i64 s.ur, .int .i64 s.o.m, .int .i64 s.o.c, .int .i64 s.o.t, .int .i64 s.o.ec, .bool s.o.sd, .bool s.o.ok, .bool s.o.sp, v, .string s.da] 28)
  go_enter Tryd.func15, Tryd.ntmps15
  go_wp2
  go_ret
  exact ⟨rfl, hl⟩
theorem rhas_any (s : Sg) (v : Value) (k : Int) (w : World) : Calls Tryd.prog 16 #[.agg #[.int .i64 s.fr, .int .i64 s.dt, .int .i64 s.sq, .int .i64 s.ak, .int .i64 s.fl, .int .i64 s.wi, .int .i64 s.ur, .int .i64 s.o.m, .int .i64 s.o.c, .int .i64 s.o.t, .int .i64 s.o.ec, .bool s.o.sd, .bool s.o.ok, .bool s.o.sp, v, .string s.da], .int .i64 k] w fun e w' => e = .returned (.bool (hasV s.fl k)) ∧ Below w.heap.size w w' := by
  obtain ⟨⟨c0, c1, c2, c3, c4, c5, c6, c7, c8, c9, c10, c11, c12, c13, c14, c15⟩, -, -⟩ := (At.box w #[.int .i64 s.fr, .int .i64 s.dt, .int .i64 s.sq, .int .i64 s.ak, .int .i64 s.fl, .int .i64 s.wi, .int .i64 s.ur, .int .i64 s.o.m, .int .i64 s.o.c, .int .i64 s.o.t, .int .i64 s.o.ec, .bool s.o.sd, .bool s.o.ok, .bool s.o.sp, v, .string s.da] 28).sixteen
  have hl := bel1 w (.cells #[.int .i64 s.fr, .int .i64 s.dt, .int .i64 s.sq, .int .i64 s.ak, .int .i64 s.fl, .int .i64 s.wi, .int .i64 s.ur, .int .i64 s.o.m, .int .i64 s.o.c, .int .i64 s.o.t, .int .i64 s.o.ec, .bool s.o.sd, .bool s.o.ok, .bool s.o.sp, v, .string s.da] 28)
  go_enter Tryd.func16, Tryd.ntmps16
  go_wp2
  go_ret
  exact ⟨rfl, hl⟩
theorem has_t (s : Sg) (v : Value) (k : Int) (w : World) (h : hasV s.fl k = true) : Calls Tryd.prog 15 #[.agg #[.int .i64 s.fr, .int .i64 s.dt, .int .i64 s.sq, .int .i64 s.ak, .int .i64 s.fl, .int .i64 s.wi, .int .i64 s.ur, .int .i64 s.o.m, .int .i64 s.o.c, .int .i64 s.o.t, .int .i64 s.o.ec, .bool s.o.sd, .bool s.o.ok, .bool s.o.sp, v, .string s.da], .int .i64 k] w fun e w' => e = .returned (.bool true) ∧ Below w.heap.size w w' := by have := has_any s v k w; rw [h] at this; exact this
theorem has_f (s : Sg) (v : Value) (k : Int) (w : World) (h : hasV s.fl k = false) : Calls Tryd.prog 15 #[.agg #[.int .i64 s.fr, .int .i64 s.dt, .int .i64 s.sq, .int .i64 s.ak, .int .i64 s.fl, .int .i64 s.wi, .int .i64 s.ur, .int .i64 s.o.m, .int .i64 s.o.c, .int .i64 s.o.t, .int .i64 s.o.ec, .bool s.o.sd, .bool s.o.ok, .bool s.o.sp, v, .string s.da], .int .i64 k] w fun e w' => e = .returned (.bool false) ∧ Below w.heap.size w w' := by have := has_any s v k w; rw [h] at this; exact this
theorem rhas_t (s : Sg) (v : Value) (k : Int) (w : World) (h : hasV s.fl k = true) : Calls Tryd.prog 16 #[.agg #[.int .i64 s.fr, .int .i64 s.dt, .int .i64 s.sq, .int .i64 s.ak, .int .i64 s.fl, .int .i64 s.wi, .int .i64 s.ur, .int .i64 s.o.m, .int .i64 s.o.c, .int .i64 s.o.t, .int .i64 s.o.ec, .bool s.o.sd, .bool s.o.ok, .bool s.o.sp, v, .string s.da], .int .i64 k] w fun e w' => e = .returned (.bool true) ∧ Below w.heap.size w w' := by have := rhas_any s v k w; rw [h] at this; exact this
theorem rhas_f (s : Sg) (v : Value) (k : Int) (w : World) (h : hasV s.fl k = false) : Calls Tryd.prog 16 #[.agg #[.int .i64 s.fr, .int .i64 s.dt, .int .i64 s.sq, .int .i64 s.ak, .int .i64 s.fl, .int .i64 s.wi, .int .i64 s.ur, .int .i64 s.o.m, .int .i64 s.o.c, .int .i64 s.o.t, .int .i64 s.o.ec, .bool s.o.sd, .bool s.o.ok, .bool s.o.sp, v, .string s.da], .int .i64 k] w fun e w' => e = .returned (.bool false) ∧ Below w.heap.size w w' := by have := rhas_any s v k w; rw [h] at this; exact this
theorem len_any (s : Sg) (v : Value) (w : World) (hd : s.da.size ≤ 140737488355328) : Calls Tryd.prog 13 #[.agg #[.int .i64 s.fr, .int .i64 s.dt, .int .i64 s.sq, .int .i64 s.ak, .int .i64 s.fl, .int .i64 s.wi, .int .i64 s.ur, .int .i64 s.o.m, .int .i64 s.o.c, .int .i64 s.o.t, .int .i64 s.o.ec, .bool s.o.sd, .bool s.o.ok, .bool s.o.sp, v, .string s.da]] w fun e w' => e = .returned (.int .i64 (lenG s)) ∧ Below w.heap.size w w' := by
  have hA := At.box w #[.int .i64 s.fr, .int .i64 s.dt, .int .i64 s.sq, .int .i64 s.ak, .int .i64 s.fl, .int .i64 s.wi, .int .i64 s.ur, .int .i64 s.o.m, .int .i64 s.o.c, .int .i64 s.o.t, .int .i64 s.o.ec, .bool s.o.sd, .bool s.o.ok, .bool s.o.sp, v, .string s.da] 28
  have hl := bel1 w (.cells #[.int .i64 s.fr, .int .i64 s.dt, .int .i64 s.sq, .int .i64 s.ak, .int .i64 s.fl, .int .i64 s.wi, .int .i64 s.ur, .int .i64 s.o.m, .int .i64 s.o.c, .int .i64 s.o.t, .int .i64 s.o.ec, .bool s.o.sd, .bool s.o.ok, .bool s.o.sp, v, .string s.da] 28)
  have cd := (hA.2 15 _ rfl).1
  have hd' : (s.da.size : Int) ≤ 140737488355328 := by omega
  rcases Bool.eq_false_or_eq_true (hasV s.fl 2) with h2 | h2
  · rcases Bool.eq_false_or_eq_true (hasV s.fl 1) with h1 | h1
    · have HE : Hid (lenG s = (s.da.size : Int) + 1 + 1) := by
        show _ = _
        unfold lenG
        rw [h1, h2]
        simp
      go_enter Tryd.func13, Tryd.ntmps13
      go_wp2_with (refine wpList_loadG 28 _ (by rfl) (by rfl) w.heap.size 0 (by rfl) _ _ hA.range Tryd.underlying28 rfl size28 ?_)
      refine (has_t s v 2 _ h2).mono ?_
      rintro e w1 ⟨rfl, hb⟩
      replace hl := bt hl hb
      replace hA := hA.later hb
      clear cd hb
      go_wp2_with (refine wpList_loadG 28 _ (by rfl) (by rfl) w.heap.size 0 (by rfl) _ _ hA.range Tryd.underlying28 rfl size28 ?_)
      refine (has_t s v 1 _ h1).mono ?_
      rintro e w2 ⟨rfl, hb⟩
      go_wp2
      go_ret
      exact ⟨by rw [HE.out]; rfl, bt hl hb⟩
    · have HE : Hid (lenG s = (s.da.size : Int) + 1) := by
        show _ = _
        unfold lenG
        rw [h1, h2]
        simp
      go_enter Tryd.func13, Tryd.ntmps13
      go_wp2_with (refine wpList_loadG 28 _ (by rfl) (by rfl) w.heap.size 0 (by rfl) _ _ hA.range Tryd.underlying28 rfl size28 ?_)
      refine (has_t s v 2 _ h2).mono ?_
      rintro e w1 ⟨rfl, hb⟩
      replace hl := bt hl hb
      replace hA := hA.later hb
      clear cd hb
      go_wp2_with (refine wpList_loadG 28 _ (by rfl) (by rfl) w.heap.size 0 (by rfl) _ _ hA.range Tryd.underlying28 rfl size28 ?_)
      refine (has_f s v 1 _ h1).mono ?_
      rintro e w2 ⟨rfl, hb⟩
      go_wp2
      go_ret
      exact ⟨by rw [HE.out]; rfl, bt hl hb⟩
  · rcases Bool.eq_false_or_eq_true (hasV s.fl 1) with h1 | h1
    · have HE : Hid (lenG s = (s.da.size : Int) + 1) := by
        show _ = _
        unfold lenG
        rw [h1, h2]
        simp
      go_enter Tryd.func13, Tryd.ntmps13
      go_wp2_with (refine wpList_loadG 28 _ (by rfl) (by rfl) w.heap.size 0 (by rfl) _ _ hA.range Tryd.underlying28 rfl size28 ?_)
      refine (has_f s v 2 _ h2).mono ?_
      rintro e w1 ⟨rfl, hb⟩
      replace hl := bt hl hb
      replace hA := hA.later hb
      clear cd hb
      go_wp2_with (refine wpList_loadG 28 _ (by rfl) (by rfl) w.heap.size 0 (by rfl) _ _ hA.range Tryd.underlying28 rfl size28 ?_)
      refine (has_t s v 1 _ h1).mono ?_
      rintro e w2 ⟨rfl, hb⟩
      go_wp2
      go_ret
      exact ⟨by rw [HE.out]; rfl, bt hl hb⟩
    · have HE : Hid (lenG s = (s.da.size : Int)) := by
        show _ = _
        unfold lenG
        rw [h1, h2]
        simp
      go_enter Tryd.func13, Tryd.ntmps13
      go_wp2_with (refine wpList_loadG 28 _ (by rfl) (by rfl) w.heap.size 0 (by rfl) _ _ hA.range Tryd.underlying28 rfl size28 ?_)
      refine (has_f s v 2 _ h2).mono ?_
      rintro e w1 ⟨rfl, hb⟩
      replace hl := bt hl hb
      replace hA := hA.later hb
      clear cd hb
      go_wp2_with (refine wpList_loadG 28 _ (by rfl) (by rfl) w.heap.size 0 (by rfl) _ _ hA.range Tryd.underlying28 rfl size28 ?_)
      refine (has_f s v 1 _ h1).mono ?_
      rintro e w2 ⟨rfl, hb⟩
      go_wp2
      go_ret
      exact ⟨by rw [HE.out]; rfl, bt hl hb⟩
theorem rlen_any (s : Sg) (v : Value) (w : World) (hd : s.da.size ≤ 140737488355328) : Calls Tryd.prog 14 #[.agg #[.int .i64 s.fr, .int .i64 s.dt, .int .i64 s.sq, .int .i64 s.ak, .int .i64 s.fl, .int .i64 s.wi, .int .i64 s.ur, .int .i64 s.o.m, .int .i64 s.o.c, .int .i64 s.o.t, .int .i64 s.o.ec, .bool s.o.sd, .bool s.o.ok, .bool s.o.sp, v, .string s.da]] w fun e w' => e = .returned (.int .i64 (lenG s)) ∧ Below w.heap.size w w' := by
  have hA := At.box w #[.int .i64 s.fr, .int .i64 s.dt, .int .i64 s.sq, .int .i64 s.ak, .int .i64 s.fl, .int .i64 s.wi, .int .i64 s.ur, .int .i64 s.o.m, .int .i64 s.o.c, .int .i64 s.o.t, .int .i64 s.o.ec, .bool s.o.sd, .bool s.o.ok, .bool s.o.sp, v, .string s.da] 28
  have hl := bel1 w (.cells #[.int .i64 s.fr, .int .i64 s.dt, .int .i64 s.sq, .int .i64 s.ak, .int .i64 s.fl, .int .i64 s.wi, .int .i64 s.ur, .int .i64 s.o.m, .int .i64 s.o.c, .int .i64 s.o.t, .int .i64 s.o.ec, .bool s.o.sd, .bool s.o.ok, .bool s.o.sp, v, .string s.da] 28)
  have cd := (hA.2 15 _ rfl).1
  have hd' : (s.da.size : Int) ≤ 140737488355328 := by omega
  rcases Bool.eq_false_or_eq_true (hasV s.fl 2) with h2 | h2
  · rcases Bool.eq_false_or_eq_true (hasV s.fl 1) with h1 | h1
    · have HE : Hid (lenG s = (s.da.size : Int) + 1 + 1) := by
        show _ = _
        unfold lenG
        rw [h1, h2]
        simp
      go_enter Tryd.func14, Tryd.ntmps14
      go_wp2_with (refine wpList_loadG 28 _ (by rfl) (by rfl) w.heap.size 0 (by rfl) _ _ hA.range Tryd.underlying28 rfl size28 ?_)
      refine (rhas_t s v 2 _ h2).mono ?_
      rintro e w1 ⟨rfl, hb⟩
      replace hl := bt hl hb
      replace hA := hA.later hb
      clear cd hb
      go_wp2_with (refine wpList_loadG 28 _ (by rfl) (by rfl) w.heap.size 0 (by rfl) _ _ hA.range Tryd.underlying28 rfl size28 ?_)
      refine (rhas_t s v 1 _ h1).mono ?_
      rintro e w2 ⟨rfl, hb⟩
      go_wp2
      go_ret
      exact ⟨by rw [HE.out]; rfl, bt hl hb⟩
    · have HE : Hid (lenG s = (s.da.size : Int) + 1) := by
        show _ = _
        unfold lenG
        rw [h1, h2]
        simp
      go_enter Tryd.func14, Tryd.ntmps14
      go_wp2_with (refine wpList_loadG 28 _ (by rfl) (by rfl) w.heap.size 0 (by rfl) _ _ hA.range Tryd.underlying28 rfl size28 ?_)
      refine (rhas_t s v 2 _ h2).mono ?_
      rintro e w1 ⟨rfl, hb⟩
      replace hl := bt hl hb
      replace hA := hA.later hb
      clear cd hb
      go_wp2_with (refine wpList_loadG 28 _ (by rfl) (by rfl) w.heap.size 0 (by rfl) _ _ hA.range Tryd.underlying28 rfl size28 ?_)
      refine (rhas_f s v 1 _ h1).mono ?_
      rintro e w2 ⟨rfl, hb⟩
      go_wp2
      go_ret
      exact ⟨by rw [HE.out]; rfl, bt hl hb⟩
  · rcases Bool.eq_false_or_eq_true (hasV s.fl 1) with h1 | h1
    · have HE : Hid (lenG s = (s.da.size : Int) + 1) := by
        show _ = _
        unfold lenG
        rw [h1, h2]
        simp
      go_enter Tryd.func14, Tryd.ntmps14
      go_wp2_with (refine wpList_loadG 28 _ (by rfl) (by rfl) w.heap.size 0 (by rfl) _ _ hA.range Tryd.underlying28 rfl size28 ?_)
      refine (rhas_f s v 2 _ h2).mono ?_
      rintro e w1 ⟨rfl, hb⟩
      replace hl := bt hl hb
      replace hA := hA.later hb
      clear cd hb
      go_wp2_with (refine wpList_loadG 28 _ (by rfl) (by rfl) w.heap.size 0 (by rfl) _ _ hA.range Tryd.underlying28 rfl size28 ?_)
      refine (rhas_t s v 1 _ h1).mono ?_
      rintro e w2 ⟨rfl, hb⟩
      go_wp2
      go_ret
      exact ⟨by rw [HE.out]; rfl, bt hl hb⟩
    · have HE : Hid (lenG s = (s.da.size : Int)) := by
        show _ = _
        unfold lenG
        rw [h1, h2]
        simp
      go_enter Tryd.func14, Tryd.ntmps14
      go_wp2_with (refine wpList_loadG 28 _ (by rfl) (by rfl) w.heap.size 0 (by rfl) _ _ hA.range Tryd.underlying28 rfl size28 ?_)
      refine (rhas_f s v 2 _ h2).mono ?_
      rintro e w1 ⟨rfl, hb⟩
      replace hl := bt hl hb
      replace hA := hA.later hb
      clear cd hb
      go_wp2_with (refine wpList_loadG 28 _ (by rfl) (by rfl) w.heap.size 0 (by rfl) _ _ hA.range Tryd.underlying28 rfl size28 ?_)
      refine (rhas_f s v 1 _ h1).mono ?_
      rintro e w2 ⟨rfl, hb⟩
      go_wp2
      go_ret
      exact ⟨by rw [HE.out]; rfl, bt hl hb⟩
theorem put_s (n k : Int) (w : World) : Calls Tryd.prog 55 #[.int .i64 n, .int .i64 k] w fun e w' => e = .returned (.string (putV n k)) ∧ Below w.heap.size w w' := by
  go_enter Tryd.func55, Tryd.ntmps55
  go_wp2_with fail
  refine (pput_any n k _).mono ?_
  rintro e w' ⟨rfl, hb⟩
  go_wp2
  go_ret
  exact ⟨rfl, hb⟩
theorem get_s (s : ByteArray) (off k : Int) (w : World) (hs : s.size ≤ maxLen) : Calls Tryd.prog 64 #[.string s, .int .i64 off, .int .i64 k] w fun e w' => e = .returned (.int .i64 (getV s off k)) ∧ Below w.heap.size w w' := by
  go_enter Tryd.func64, Tryd.ntmps64
  go_wp2_with fail
  refine (get_any s off k _ hs).mono ?_
  rintro e w' ⟨rfl, hb⟩
  go_wp2
  go_ret
  exact ⟨rfl, hb⟩
theorem pseudo_s (f t l : Int) (w : World) : Calls Tryd.prog 30 #[.int .i64 f, .int .i64 t, .int .i64 l] w fun e w' => e = .returned (.string (pseuV f t 6 l)) ∧ Below w.heap.size w w' := by
  go_enter Tryd.func30, Tryd.ntmps30
  go_wp2_with fail
  refine (pseudo_any f t 6 l _).mono ?_
  rintro e w' ⟨rfl, hb⟩
  go_wp2
  go_ret
  exact ⟨rfl, hb⟩
end Go.Proofs.YtecoknenkjgmjabDoor
