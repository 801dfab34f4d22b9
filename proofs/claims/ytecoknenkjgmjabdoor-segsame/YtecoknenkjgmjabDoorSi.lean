/- The contract of the document's Reset of layer 8: what answers a segment that belongs to nothing, or nothing; nothing that was there turns. -/
import Derived.Test.YtecoknenkjgmjabDoorSg
import Derived.Test.YtecoknenkjgmjabDoorSd
import Derived.Test.YtecoknenkjgmjabDoorSf
namespace Go.Proofs.YtecoknenkjgmjabDoor
open Go.RowKit
set_option maxRecDepth 100000
set_option linter.unusedVariables false

theorem rreset_n (s : Sg) (v : Value) (w : World) (hv : Rgs w v s.o.rs) (hn : s.o.rs.length ≤ 17592186044416) (h : mayG s = false ∨ (mayG s = true ∧ hasV s.fl 4 = true)) :
    Calls Tryd.prog 22 #[.agg #[.int .i64 s.fr, .int .i64 s.dt, .int .i64 s.sq, .int .i64 s.ak, .int .i64 s.fl, .int .i64 s.wi, .int .i64 s.ur, .int .i64 s.o.m, .int .i64 s.o.c, .int .i64 s.o.t, .int .i64 s.o.ec, .bool s.o.sd, .bool s.o.ok, .bool s.o.sp, v, .string s.da]] w fun e w' => e = .returned (.tuple #[.agg #[.int .i64 0, .int .i64 0, .int .i64 0, .int .i64 0, .int .i64 0, .int .i64 0, .int .i64 0, .int .i64 0, .int .i64 0, .int .i64 0, .int .i64 0, .bool false, .bool false, .bool false, .slice none 0 0, .string ⟨#[]⟩], .bool false]) ∧ Below w.heap.size w w' := by
  have hb1 := bel1 w (.cells #[.int .i64 s.fr, .int .i64 s.dt, .int .i64 s.sq, .int .i64 s.ak, .int .i64 s.fl, .int .i64 s.wi, .int .i64 s.ur, .int .i64 s.o.m, .int .i64 s.o.c, .int .i64 s.o.t, .int .i64 s.o.ec, .bool s.o.sd, .bool s.o.ok, .bool s.o.sp, v, .string s.da] 28)
  have hb2 := bel1 (w.alloc (.cells #[.int .i64 s.fr, .int .i64 s.dt, .int .i64 s.sq, .int .i64 s.ak, .int .i64 s.fl, .int .i64 s.wi, .int .i64 s.ur, .int .i64 s.o.m, .int .i64 s.o.c, .int .i64 s.o.t, .int .i64 s.o.ec, .bool s.o.sd, .bool s.o.ok, .bool s.o.sp, v, .string s.da] 28)) (.cells #[.int .i64 0, .int .i64 0, .int .i64 0, .int .i64 0, .int .i64 0, .int .i64 0, .int .i64 0, .int .i64 0, .int .i64 0, .int .i64 0, .int .i64 0, .bool false, .bool false, .bool false, .slice none 0 0, .string ⟨#[]⟩] 28)
  have hA := (At.box w #[.int .i64 s.fr, .int .i64 s.dt, .int .i64 s.sq, .int .i64 s.ak, .int .i64 s.fl, .int .i64 s.wi, .int .i64 s.ur, .int .i64 s.o.m, .int .i64 s.o.c, .int .i64 s.o.t, .int .i64 s.o.ec, .bool s.o.sd, .bool s.o.ok, .bool s.o.sp, v, .string s.da] 28).later hb2
  have hR := At.box2 w (.cells #[.int .i64 s.fr, .int .i64 s.dt, .int .i64 s.sq, .int .i64 s.ak, .int .i64 s.fl, .int .i64 s.wi, .int .i64 s.ur, .int .i64 s.o.m, .int .i64 s.o.c, .int .i64 s.o.t, .int .i64 s.o.ec, .bool s.o.sd, .bool s.o.ok, .bool s.o.sp, v, .string s.da] 28) #[.int .i64 0, .int .i64 0, .int .i64 0, .int .i64 0, .int .i64 0, .int .i64 0, .int .i64 0, .int .i64 0, .int .i64 0, .int .i64 0, .int .i64 0, .bool false, .bool false, .bool false, .slice none 0 0, .string ⟨#[]⟩] 28
  have hl := bt hb1 hb2
  have hsz : w.heap.size + 2 ≤ ((w.alloc (.cells #[.int .i64 s.fr, .int .i64 s.dt, .int .i64 s.sq, .int .i64 s.ak, .int .i64 s.fl, .int .i64 s.wi, .int .i64 s.ur, .int .i64 s.o.m, .int .i64 s.o.c, .int .i64 s.o.t, .int .i64 s.o.ec, .bool s.o.sd, .bool s.o.ok, .bool s.o.sp, v, .string s.da] 28)).alloc (.cells #[.int .i64 0, .int .i64 0, .int .i64 0, .int .i64 0, .int .i64 0, .int .i64 0, .int .i64 0, .int .i64 0, .int .i64 0, .int .i64 0, .int .i64 0, .bool false, .bool false, .bool false, .slice none 0 0, .string ⟨#[]⟩] 28)).heap.size := by simp
  have hz : ∀ W, (Instr.build 28 #[]).run Tryd.prog W = .ok (.agg #[.int .i64 0, .int .i64 0, .int .i64 0, .int .i64 0, .int .i64 0, .int .i64 0, .int .i64 0, .int .i64 0, .int .i64 0, .int .i64 0, .int .i64 0, .bool false, .bool false, .bool false, .slice none 0 0, .string ⟨#[]⟩]) W := fun W => run_build W 28 #[] _ (by kernel_rfl)
  have hm := rchk_s s v _ (hv.later hl) hn
  rcases h with h | ⟨h, h4⟩
  · rw [h] at hm
    go_enter Tryd.func22, Tryd.ntmps22
    go_wp2_with (refine wpList_loadG 28 _ (by rfl) (by rfl) (w.heap.size) 0 (by rfl) _ _ hA.range Tryd.underlying28 rfl size28 ?_)
    refine hm.mono ?_
    rintro e w1 ⟨rfl, hb⟩
    replace hl := bt hl hb
    replace hR := hR.later hb
    clear hb hb1 hb2 hm
    go_wp2_with (refine wpList_store_mid (by rfl) 28 _ _ (by rfl) (w.heap.size + 1) 0 #[.int .i64 0, .int .i64 0, .int .i64 0, .int .i64 0, .int .i64 0, .int .i64 0, .int .i64 0, .int .i64 0, .int .i64 0, .int .i64 0, .int .i64 0, .bool false, .bool false, .bool false, .slice none 0 0, .string ⟨#[]⟩] (by rfl) (by rfl) hR.there size28 (by simp [Value.oneCell']) ?_)
    go_wp2
    exact bodyPost_ret (v := .tuple #[.agg #[.int .i64 0, .int .i64 0, .int .i64 0, .int .i64 0, .int .i64 0, .int .i64 0, .int .i64 0, .int .i64 0, .int .i64 0, .int .i64 0, .int .i64 0, .bool false, .bool false, .bool false, .slice none 0 0, .string ⟨#[]⟩], .bool false]) (ret_cell (by rfl) (At.whole (vs := #[.int .i64 0, .int .i64 0, .int .i64 0, .int .i64 0, .int .i64 0, .int .i64 0, .int .i64 0, .int .i64 0, .int .i64 0, .int .i64 0, .int .i64 0, .bool false, .bool false, .bool false, .slice none 0 0, .string ⟨#[]⟩]) hR rfl) rfl (by rfl) (by rfl)) (by rfl) ⟨rfl, Below.setCells (by omega) _ _ _ hl⟩
  · rw [h] at hm
    go_enter Tryd.func22, Tryd.ntmps22
    go_wp2_with (refine wpList_loadG 28 _ (by rfl) (by rfl) (w.heap.size) 0 (by rfl) _ _ hA.range Tryd.underlying28 rfl size28 ?_)
    refine hm.mono ?_
    rintro e w1 ⟨rfl, hb⟩
    replace hl := bt hl hb
    replace hA := hA.later hb
    replace hR := hR.later hb
    clear hb hb1 hb2 hm
    go_wp2_with (refine wpList_loadG 28 _ (by rfl) (by rfl) (w.heap.size) 0 (by rfl) _ _ hA.range Tryd.underlying28 rfl size28 ?_)
    refine (rhas_t s v 4 _ h4).mono ?_
    rintro e w2 ⟨rfl, hb⟩
    replace hl := bt hl hb
    replace hR := hR.later hb
    clear hb
    go_wp2_with (refine wpList_store_mid (by rfl) 28 _ _ (by rfl) (w.heap.size + 1) 0 #[.int .i64 0, .int .i64 0, .int .i64 0, .int .i64 0, .int .i64 0, .int .i64 0, .int .i64 0, .int .i64 0, .int .i64 0, .int .i64 0, .int .i64 0, .bool false, .bool false, .bool false, .slice none 0 0, .string ⟨#[]⟩] (by rfl) (by rfl) hR.there size28 (by simp [Value.oneCell']) ?_)
    go_wp2
    exact bodyPost_ret (v := .tuple #[.agg #[.int .i64 0, .int .i64 0, .int .i64 0, .int .i64 0, .int .i64 0, .int .i64 0, .int .i64 0, .int .i64 0, .int .i64 0, .int .i64 0, .int .i64 0, .bool false, .bool false, .bool false, .slice none 0 0, .string ⟨#[]⟩], .bool false]) (ret_cell (by rfl) (At.whole (vs := #[.int .i64 0, .int .i64 0, .int .i64 0, .int .i64 0, .int .i64 0, .int .i64 0, .int .i64 0, .int .i64 0, .int .i64 0, .int .i64 0, .int .i64 0, .bool false, .bool false, .bool false, .slice none 0 0, .string ⟨#[]⟩]) hR rfl) rfl (by rfl) (by rfl)) (by rfl) ⟨rfl, Below.setCells (by omega) _ _ _ hl⟩
set_option maxHeartbeats 4000000 in
theorem rreset_a (s : Sg) (v : Value) (w : World) (hv : Rgs w v s.o.rs) (hn : s.o.rs.length ≤ 17592186044416) (h : mayG s = true) (h4 : hasV s.fl 4 = false) (h16 : hasV s.fl 16 = true) :
    Calls Tryd.prog 22 #[.agg #[.int .i64 s.fr, .int .i64 s.dt, .int .i64 s.sq, .int .i64 s.ak, .int .i64 s.fl, .int .i64 s.wi, .int .i64 s.ur, .int .i64 s.o.m, .int .i64 s.o.c, .int .i64 s.o.t, .int .i64 s.o.ec, .bool s.o.sd, .bool s.o.ok, .bool s.o.sp, v, .string s.da]] w fun e w' => e = .returned (.tuple #[.agg #[.int .i64 s.dt, .int .i64 s.fr, .int .i64 s.ak, .int .i64 0, .int .i64 4, .int .i64 0, .int .i64 0, .int .i64 0, .int .i64 0, .int .i64 0, .int .i64 0, .bool false, .bool false, .bool false, .slice none 0 0, .string ⟨#[]⟩], .bool true]) ∧ Below w.heap.size w w' := by
  have hb1 := bel1 w (.cells #[.int .i64 s.fr, .int .i64 s.dt, .int .i64 s.sq, .int .i64 s.ak, .int .i64 s.fl, .int .i64 s.wi, .int .i64 s.ur, .int .i64 s.o.m, .int .i64 s.o.c, .int .i64 s.o.t, .int .i64 s.o.ec, .bool s.o.sd, .bool s.o.ok, .bool s.o.sp, v, .string s.da] 28)
  have hb2 := bel1 (w.alloc (.cells #[.int .i64 s.fr, .int .i64 s.dt, .int .i64 s.sq, .int .i64 s.ak, .int .i64 s.fl, .int .i64 s.wi, .int .i64 s.ur, .int .i64 s.o.m, .int .i64 s.o.c, .int .i64 s.o.t, .int .i64 s.o.ec, .bool s.o.sd, .bool s.o.ok, .bool s.o.sp, v, .string s.da] 28)) (.cells #[.int .i64 0, .int .i64 0, .int .i64 0, .int .i64 0, .int .i64 0, .int .i64 0, .int .i64 0, .int .i64 0, .int .i64 0, .int .i64 0, .int .i64 0, .bool false, .bool false, .bool false, .slice none 0 0, .string ⟨#[]⟩] 28)
  have hA := (At.box w #[.int .i64 s.fr, .int .i64 s.dt, .int .i64 s.sq, .int .i64 s.ak, .int .i64 s.fl, .int .i64 s.wi, .int .i64 s.ur, .int .i64 s.o.m, .int .i64 s.o.c, .int .i64 s.o.t, .int .i64 s.o.ec, .bool s.o.sd, .bool s.o.ok, .bool s.o.sp, v, .string s.da] 28).later hb2
  have hR := At.box2 w (.cells #[.int .i64 s.fr, .int .i64 s.dt, .int .i64 s.sq, .int .i64 s.ak, .int .i64 s.fl, .int .i64 s.wi, .int .i64 s.ur, .int .i64 s.o.m, .int .i64 s.o.c, .int .i64 s.o.t, .int .i64 s.o.ec, .bool s.o.sd, .bool s.o.ok, .bool s.o.sp, v, .string s.da] 28) #[.int .i64 0, .int .i64 0, .int .i64 0, .int .i64 0, .int .i64 0, .int .i64 0, .int .i64 0, .int .i64 0, .int .i64 0, .int .i64 0, .int .i64 0, .bool false, .bool false, .bool false, .slice none 0 0, .string ⟨#[]⟩] 28
  have hl := bt hb1 hb2
  have hsz : w.heap.size + 2 ≤ ((w.alloc (.cells #[.int .i64 s.fr, .int .i64 s.dt, .int .i64 s.sq, .int .i64 s.ak, .int .i64 s.fl, .int .i64 s.wi, .int .i64 s.ur, .int .i64 s.o.m, .int .i64 s.o.c, .int .i64 s.o.t, .int .i64 s.o.ec, .bool s.o.sd, .bool s.o.ok, .bool s.o.sp, v, .string s.da] 28)).alloc (.cells #[.int .i64 0, .int .i64 0, .int .i64 0, .int .i64 0, .int .i64 0, .int .i64 0, .int .i64 0, .int .i64 0, .int .i64 0, .int .i64 0, .int .i64 0, .bool false, .bool false, .bool false, .slice none 0 0, .string ⟨#[]⟩] 28)).heap.size := by simp
  have hz : ∀ W, (Instr.build 28 #[]).run Tryd.prog W = .ok (.agg #[.int .i64 0, .int .i64 0, .int .i64 0, .int .i64 0, .int .i64 0, .int .i64 0, .int .i64 0, .int .i64 0, .int .i64 0, .int .i64 0, .int .i64 0, .bool false, .bool false, .bool false, .slice none 0 0, .string ⟨#[]⟩]) W := fun W => run_build W 28 #[] _ (by kernel_rfl)
  have hm := rchk_s s v _ (hv.later hl) hn
  rw [h] at hm
  have hba : ∀ W, (Instr.build 28 #[(0, .int .i64 s.dt), (1, .int .i64 s.fr), (4, .int .i64 4), (2, .int .i64 s.ak)]).run Tryd.prog W = .ok (.agg #[.int .i64 s.dt, .int .i64 s.fr, .int .i64 s.ak, .int .i64 0, .int .i64 4, .int .i64 0, .int .i64 0, .int .i64 0, .int .i64 0, .int .i64 0, .int .i64 0, .bool false, .bool false, .bool false, .slice none 0 0, .string ⟨#[]⟩]) W := fun W => run_build W 28 _ _ (by kernel_rfl)
  go_enter Tryd.func22, Tryd.ntmps22
  go_wp2_with (refine wpList_loadG 28 _ (by rfl) (by rfl) (w.heap.size) 0 (by rfl) _ _ hA.range Tryd.underlying28 rfl size28 ?_)
  refine hm.mono ?_
  rintro e w1 ⟨rfl, hb⟩
  replace hl := bt hl hb
  replace hA := hA.later hb
  replace hR := hR.later hb
  replace hsz := Nat.le_trans hsz hb.size
  clear hb hb1 hb2 hm
  go_wp2_with (refine wpList_loadG 28 _ (by rfl) (by rfl) (w.heap.size) 0 (by rfl) _ _ hA.range Tryd.underlying28 rfl size28 ?_)
  refine (rhas_f s v 4 _ h4).mono ?_
  rintro e w2 ⟨rfl, hb⟩
  replace hl := bt hl hb
  replace hA := hA.later hb
  replace hR := hR.later hb
  replace hsz := Nat.le_trans hsz hb.size
  clear hb
  go_wp2_with (refine wpList_loadG 28 _ (by rfl) (by rfl) (w.heap.size) 0 (by rfl) _ _ hA.range Tryd.underlying28 rfl size28 ?_)
  refine (rhas_t s v 16 _ h16).mono ?_
  rintro e w3 ⟨rfl, hb⟩
  replace hl := bt hl hb
  replace hA := hA.later hb
  replace hR := hR.later hb
  clear hb
  obtain ⟨⟨c0, c1, c2, c3, c4, c5, c6, c7, c8, c9, c10, c11, c12, c13, c14, c15⟩, -, -⟩ := hA.sixteen
  go_wp2_with (refine wpList_store_mid (by rfl) 28 _ _ (by rfl) (w.heap.size + 1) 0 #[.int .i64 s.dt, .int .i64 s.fr, .int .i64 s.ak, .int .i64 0, .int .i64 4, .int .i64 0, .int .i64 0, .int .i64 0, .int .i64 0, .int .i64 0, .int .i64 0, .bool false, .bool false, .bool false, .slice none 0 0, .string ⟨#[]⟩] (by rfl) (by rfl) hR.there size28 (by simp [Value.oneCell']) ?_)
  go_wp2
  exact bodyPost_ret (v := .tuple #[.agg #[.int .i64 s.dt, .int .i64 s.fr, .int .i64 s.ak, .int .i64 0, .int .i64 4, .int .i64 0, .int .i64 0, .int .i64 0, .int .i64 0, .int .i64 0, .int .i64 0, .bool false, .bool false, .bool false, .slice none 0 0, .string ⟨#[]⟩], .bool true]) (ret_cell (by rfl) (At.whole (vs := #[.int .i64 s.dt, .int .i64 s.fr, .int .i64 s.ak, .int .i64 0, .int .i64 4, .int .i64 0, .int .i64 0, .int .i64 0, .int .i64 0, .int .i64 0, .int .i64 0, .bool false, .bool false, .bool false, .slice none 0 0, .string ⟨#[]⟩]) hR rfl) rfl (by rfl) (by rfl)) (by rfl) ⟨rfl, Below.setCells (by omega) _ _ _ hl⟩
theorem wp_build4 {P : Program} {Q : Exit → Act → World → Prop} {o : Oper} {a : Act} {w : World} {K : Act → World → Prop} (t : TypeId) (i j k l : Operand) (x y z u : Value) (cells : Array Value) (ho : o.op = .build t #[(0, i), (1, j), (4, k), (3, l)]) (hi : a.eval i = x) (hj : a.eval j = y) (hk : a.eval k = z) (hl : a.eval l = u)
    (hrun : P.built t [(0, x), (1, y), (4, z), (3, u)] = some cells) (h : K (a.put o.dst (.agg cells)) w) : Oper.wp P o a w K Q := by
  have e : (#[(0, i), (1, j), (4, k), (3, l)].map fun (p : Nat × Operand) => (p.1, a.eval p.2)).toList = [(0, x), (1, y), (4, z), (3, u)] := by simp [hi, hj, hk, hl]
  refine wp_build t _ ho ?_ ?_
  · show (P.built t (#[(0, i), (1, j), (4, k), (3, l)].map fun (p : Nat × Operand) => (p.1, a.eval p.2)).toList).isSome = true
    rw [e, hrun]; rfl
  · show K (a.put o.dst (.agg ((P.built t (#[(0, i), (1, j), (4, k), (3, l)].map fun (p : Nat × Operand) => (p.1, a.eval p.2)).toList).getD #[]))) w
    rw [e, hrun]; exact h
set_option maxHeartbeats 4000000 in
theorem rreset_s (s : Sg) (v : Value) (w : World) (hv : Rgs w v s.o.rs) (hn : s.o.rs.length ≤ 17592186044416) (h : mayG s = true) (h4 : hasV s.fl 4 = false) (h16 : hasV s.fl 16 = false) (A : Int) (hAV : A = addV s.sq (lenG s)) :
    Calls Tryd.prog 22 #[.agg #[.int .i64 s.fr, .int .i64 s.dt, .int .i64 s.sq, .int .i64 s.ak, .int .i64 s.fl, .int .i64 s.wi, .int .i64 s.ur, .int .i64 s.o.m, .int .i64 s.o.c, .int .i64 s.o.t, .int .i64 s.o.ec, .bool s.o.sd, .bool s.o.ok, .bool s.o.sp, v, .string s.da]] w fun e w' => e = .returned (.tuple #[.agg #[.int .i64 s.dt, .int .i64 s.fr, .int .i64 0, .int .i64 A, .int .i64 20, .int .i64 0, .int .i64 0, .int .i64 0, .int .i64 0, .int .i64 0, .int .i64 0, .bool false, .bool false, .bool false, .slice none 0 0, .string ⟨#[]⟩], .bool true]) ∧ Below w.heap.size w w' := by
  have hb1 := bel1 w (.cells #[.int .i64 s.fr, .int .i64 s.dt, .int .i64 s.sq, .int .i64 s.ak, .int .i64 s.fl, .int .i64 s.wi, .int .i64 s.ur, .int .i64 s.o.m, .int .i64 s.o.c, .int .i64 s.o.t, .int .i64 s.o.ec, .bool s.o.sd, .bool s.o.ok, .bool s.o.sp, v, .string s.da] 28)
  have hb2 := bel1 (w.alloc (.cells #[.int .i64 s.fr, .int .i64 s.dt, .int .i64 s.sq, .int .i64 s.ak, .int .i64 s.fl, .int .i64 s.wi, .int .i64 s.ur, .int .i64 s.o.m, .int .i64 s.o.c, .int .i64 s.o.t, .int .i64 s.o.ec, .bool s.o.sd, .bool s.o.ok, .bool s.o.sp, v, .string s.da] 28)) (.cells #[.int .i64 0, .int .i64 0, .int .i64 0, .int .i64 0, .int .i64 0, .int .i64 0, .int .i64 0, .int .i64 0, .int .i64 0, .int .i64 0, .int .i64 0, .bool false, .bool false, .bool false, .slice none 0 0, .string ⟨#[]⟩] 28)
  have hA := (At.box w #[.int .i64 s.fr, .int .i64 s.dt, .int .i64 s.sq, .int .i64 s.ak, .int .i64 s.fl, .int .i64 s.wi, .int .i64 s.ur, .int .i64 s.o.m, .int .i64 s.o.c, .int .i64 s.o.t, .int .i64 s.o.ec, .bool s.o.sd, .bool s.o.ok, .bool s.o.sp, v, .string s.da] 28).later hb2
  have hR := At.box2 w (.cells #[.int .i64 s.fr, .int .i64 s.dt, .int .i64 s.sq, .int .i64 s.ak, .int .i64 s.fl, .int .i64 s.wi, .int .i64 s.ur, .int .i64 s.o.m, .int .i64 s.o.c, .int .i64 s.o.t, .int .i64 s.o.ec, .bool s.o.sd, .bool s.o.ok, .bool s.o.sp, v, .string s.da] 28) #[.int .i64 0, .int .i64 0, .int .i64 0, .int .i64 0, .int .i64 0, .int .i64 0, .int .i64 0, .int .i64 0, .int .i64 0, .int .i64 0, .int .i64 0, .bool false, .bool false, .bool false, .slice none 0 0, .string ⟨#[]⟩] 28
  have hl := bt hb1 hb2
  have hsz : w.heap.size + 2 ≤ ((w.alloc (.cells #[.int .i64 s.fr, .int .i64 s.dt, .int .i64 s.sq, .int .i64 s.ak, .int .i64 s.fl, .int .i64 s.wi, .int .i64 s.ur, .int .i64 s.o.m, .int .i64 s.o.c, .int .i64 s.o.t, .int .i64 s.o.ec, .bool s.o.sd, .bool s.o.ok, .bool s.o.sp, v, .string s.da] 28)).alloc (.cells #[.int .i64 0, .int .i64 0, .int .i64 0, .int .i64 0, .int .i64 0, .int .i64 0, .int .i64 0, .int .i64 0, .int .i64 0, .int .i64 0, .int .i64 0, .bool false, .bool false, .bool false, .slice none 0 0, .string ⟨#[]⟩] 28)).heap.size := by simp
  have hz : ∀ W, (Instr.build 28 #[]).run Tryd.prog W = .ok (.agg #[.int .i64 0, .int .i64 0, .int .i64 0, .int .i64 0, .int .i64 0, .int .i64 0, .int .i64 0, .int .i64 0, .int .i64 0, .int .i64 0, .int .i64 0, .bool false, .bool false, .bool false, .slice none 0 0, .string ⟨#[]⟩]) W := fun W => run_build W 28 #[] _ (by kernel_rfl)
  have hm := rchk_s s v _ (hv.later hl) hn
  rw [h] at hm
  obtain ⟨-, -, h3, -, -, -, h7⟩ := may_parts h
  have hlb := lenG_bd s h7
  have hs1 := numB_t h3
  have hst : stepB (lenG s) = true := decide_eq_true ⟨by omega, by omega⟩
  have hA2 : A = (s.sq + lenG s) % 4294967296 := by
    rw [hAV]
    unfold addV
    rw [h3, hst, if_pos (by rfl)]
  have hln := fun W => rlen_any s v W (by omega)
  have hmo := fun W => mod_any (s.sq + lenG s) W
  rw [← hA2] at hmo
  generalize lenG s = LN at *
  have HLN : Hid (∀ W, Calls Tryd.prog 14 #[.agg #[.int .i64 s.fr, .int .i64 s.dt, .int .i64 s.sq, .int .i64 s.ak, .int .i64 s.fl, .int .i64 s.wi, .int .i64 s.ur, .int .i64 s.o.m, .int .i64 s.o.c, .int .i64 s.o.t, .int .i64 s.o.ec, .bool s.o.sd, .bool s.o.ok, .bool s.o.sp, v, .string s.da]] W fun e w' => e = .returned (.int .i64 LN) ∧ Below W.heap.size W w') := hln
  have HMO : Hid (∀ W, Calls Tryd.prog 44 #[.int .i64 (s.sq + LN)] W fun e w' => e = .returned (.int .i64 A) ∧ w' = W) := hmo
  have HB : Hid ((0 ≤ s.sq ∧ s.sq ≤ 4294967295) ∧ 0 ≤ LN ∧ LN ≤ 1482) := ⟨hs1, hlb⟩
  clear hln hmo hA2 hAV hst hlb hs1 h3 h7 h
  go_enter Tryd.func22, Tryd.ntmps22
  go_wp2_with (refine wpList_loadG 28 _ (by rfl) (by rfl) (w.heap.size) 0 (by rfl) _ _ hA.range Tryd.underlying28 rfl size28 ?_)
  refine hm.mono ?_
  rintro e w1 ⟨rfl, hb⟩
  replace hl := bt hl hb
  replace hA := hA.later hb
  replace hR := hR.later hb
  replace hsz := Nat.le_trans hsz hb.size
  clear hb hb1 hb2 hm
  go_wp2_with (refine wpList_loadG 28 _ (by rfl) (by rfl) (w.heap.size) 0 (by rfl) _ _ hA.range Tryd.underlying28 rfl size28 ?_)
  refine (rhas_f s v 4 _ h4).mono ?_
  rintro e w2 ⟨rfl, hb⟩
  replace hl := bt hl hb
  replace hA := hA.later hb
  replace hR := hR.later hb
  replace hsz := Nat.le_trans hsz hb.size
  clear hb
  go_upto_region 3 with fail
  go_cut [13] from 4 (fun q W => q = .bool false ∧ Below w.heap.size w W ∧ At W w.heap.size #[.int .i64 s.fr, .int .i64 s.dt, .int .i64 s.sq, .int .i64 s.ak, .int .i64 s.fl, .int .i64 s.wi, .int .i64 s.ur, .int .i64 s.o.m, .int .i64 s.o.c, .int .i64 s.o.t, .int .i64 s.o.ec, .bool s.o.sd, .bool s.o.ok, .bool s.o.sp, v, .string s.da] ∧ At W (w.heap.size + 1) #[.int .i64 0, .int .i64 0, .int .i64 0, .int .i64 0, .int .i64 0, .int .i64 0, .int .i64 0, .int .i64 0, .int .i64 0, .int .i64 0, .int .i64 0, .bool false, .bool false, .bool false, .slice none 0 0, .string ⟨#[]⟩])
  case first =>
    clear HLN HMO HB
    go_wp2_with (refine wpList_loadG 28 _ (by rfl) (by rfl) (w.heap.size) 0 (by rfl) _ _ hA.range Tryd.underlying28 rfl size28 ?_)
    refine (rhas_f s v 16 _ h16).mono ?_
    rintro e w3 ⟨rfl, hb⟩
    go_wp2
    go_meet
    case rel => exact ⟨rfl, bt hl hb, hA.later hb, hR.later hb⟩
  case rest =>
  clear hl hA hR
  obtain ⟨rfl, hl, hA, hR⟩ := hcut
  have HA : Hid (At wc w.heap.size #[.int .i64 s.fr, .int .i64 s.dt, .int .i64 s.sq, .int .i64 s.ak, .int .i64 s.fl, .int .i64 s.wi, .int .i64 s.ur, .int .i64 s.o.m, .int .i64 s.o.c, .int .i64 s.o.t, .int .i64 s.o.ec, .bool s.o.sd, .bool s.o.ok, .bool s.o.sp, v, .string s.da]) := hA
  have HR : Hid (At wc (w.heap.size + 1) #[.int .i64 0, .int .i64 0, .int .i64 0, .int .i64 0, .int .i64 0, .int .i64 0, .int .i64 0, .int .i64 0, .int .i64 0, .int .i64 0, .int .i64 0, .bool false, .bool false, .bool false, .slice none 0 0, .string ⟨#[]⟩]) := hR
  clear hA hR hz
  go_wp2
  refine wp_region_any (by kernel_rfl) ?_
  refine region_facts_end (fun W => Below wc.heap.size wc W) (GE (fun qq => match qq with | 0 => .pointer (some ⟨w.heap.size, 1, none⟩) | 1 => .int .i64 s.dt | 2 => .pointer (some ⟨w.heap.size, 0, none⟩) | 3 => .int .i64 s.fr | 4 => .pointer (some ⟨w.heap.size, 2, none⟩) | 5 => .int .i64 s.sq | 6 => .agg #[.int .i64 s.fr, .int .i64 s.dt, .int .i64 s.sq, .int .i64 s.ak, .int .i64 s.fl, .int .i64 s.wi, .int .i64 s.ur, .int .i64 s.o.m, .int .i64 s.o.c, .int .i64 s.o.t, .int .i64 s.o.ec, .bool s.o.sd, .bool s.o.ok, .bool s.o.sp, v, .string s.da] | 7 => .int .i64 LN | 8 => .int .i64 (s.sq + LN) | 9 => .int .i64 A | 10 => .agg #[.int .i64 s.dt, .int .i64 s.fr, .int .i64 0, .int .i64 A, .int .i64 20, .int .i64 0, .int .i64 0, .int .i64 0, .int .i64 0, .int .i64 0, .int .i64 0, .bool false, .bool false, .bool false, .slice none 0 0, .string ⟨#[]⟩] | _ => undef) (fun _ => none)) (n := 32) 11 8 (by kernel_rfl) (by kernel_rfl) rfl (by kernel_rfl) (GE_later _ _ (fun _ _ h => by cases h)) ?_ ?_ ((Below.refl _ _).drew) (Nat.le_refl _)
  · clear HR
    refine ⟨?_, ?_, ?_, ?_, ?_, ?_, ?_, ?_, ?_, ?_, ?_, trivial⟩
    · intro ac w1 hS hT hB hD K hK
      rw [if_pos (by rfl)]
      have d1 : ac.tmps.getD 1 undef = .pointer (some ⟨w.heap.size, 0, none⟩) := hB 1 (by kernel_rfl)
      clear hB hD hT
      go_simp
      exact hK _ _ hS (Below.refl _ _) rfl
    · intro ac w1 hS hT hB hD K hK
      rw [if_pos (by rfl)]
      have d21 : ac.tmps.getD 21 undef = .pointer (some ⟨w.heap.size, 1, none⟩) := hD ⟨0, .data⟩ (by simp) rfl _ 21 rfl rfl
      clear hB hD hT
      have hc := (HA.out.later hS).sixteen.1
      go_simp
      exact hK _ _ hS (Below.refl _ _) rfl
    · intro ac w1 hS hT hB hD K hK
      rw [if_pos (by rfl)]
      have d1 : ac.tmps.getD 1 undef = .pointer (some ⟨w.heap.size, 0, none⟩) := hB 1 (by kernel_rfl)
      clear hB hD hT
      go_simp
      exact hK _ _ hS (Below.refl _ _) rfl
    · intro ac w1 hS hT hB hD K hK
      rw [if_pos (by rfl)]
      have d23 : ac.tmps.getD 23 undef = .pointer (some ⟨w.heap.size, 0, none⟩) := hD ⟨2, .data⟩ (by simp) rfl _ 23 rfl rfl
      clear hB hD hT
      have hc := (HA.out.later hS).sixteen.1
      go_simp
      exact hK _ _ hS (Below.refl _ _) rfl
    · intro ac w1 hS hT hB hD K hK
      rw [if_pos (by rfl)]
      have d1 : ac.tmps.getD 1 undef = .pointer (some ⟨w.heap.size, 0, none⟩) := hB 1 (by kernel_rfl)
      clear hB hD hT
      go_simp
      exact hK _ _ hS (Below.refl _ _) rfl
    · intro ac w1 hS hT hB hD K hK
      rw [if_pos (by rfl)]
      have d25 : ac.tmps.getD 25 undef = .pointer (some ⟨w.heap.size, 2, none⟩) := hD ⟨4, .data⟩ (by simp) rfl _ 25 rfl rfl
      clear hB hD hT
      have hc := (HA.out.later hS).sixteen.1
      go_simp
      exact hK _ _ hS (Below.refl _ _) rfl
    · intro ac w1 hS hT hB hD K hK
      rw [if_pos (by rfl)]
      have d1 : ac.tmps.getD 1 undef = .pointer (some ⟨w.heap.size, 0, none⟩) := hB 1 (by kernel_rfl)
      clear hB hD hT
      exact wp_load_mid 28 (.tmp 1) rfl w.heap.size 0 d1 _ _ (HA.out.later hS).range Tryd.underlying28 rfl size28 (hK _ _ hS (Below.refl _ _) rfl)
    · intro ac w1 hS hT hB hD K hK
      rw [if_pos (by rfl)]
      have d27 : ac.tmps.getD 27 undef = .agg #[.int .i64 s.fr, .int .i64 s.dt, .int .i64 s.sq, .int .i64 s.ak, .int .i64 s.fl, .int .i64 s.wi, .int .i64 s.ur, .int .i64 s.o.m, .int .i64 s.o.c, .int .i64 s.o.t, .int .i64 s.o.ec, .bool s.o.sd, .bool s.o.ok, .bool s.o.sp, v, .string s.da] := hD ⟨6, .data⟩ (by simp) rfl _ 27 rfl rfl
      clear hB hD hT
      go_simp
      refine (HLN.out _).mono ?_
      rintro e w' ⟨rfl, hb⟩
      exact hK _ _ (bt hS hb) hb rfl
    · intro ac w1 hS hT hB hD K hK
      rw [if_pos (by rfl)]
      have d26 : ac.tmps.getD 26 undef = .int .i64 s.sq := hD ⟨5, .data⟩ (by simp) rfl _ 26 rfl rfl
      have d28 : ac.tmps.getD 28 undef = .int .i64 LN := hD ⟨7, .data⟩ (by simp) rfl _ 28 rfl rfl
      clear hB hD hT
      have hw1 : IntKind.i64.wrap (s.sq + LN) = s.sq + LN := by rw [IntKind.wrap_i64]; have := HB.out; omega
      go_simp
      exact hK _ _ hS (Below.refl _ _) rfl
    · intro ac w1 hS hT hB hD K hK
      rw [if_pos (by rfl)]
      have d29 : ac.tmps.getD 29 undef = .int .i64 (s.sq + LN) := hD ⟨8, .data⟩ (by simp) rfl _ 29 rfl rfl
      clear hB hD hT
      go_simp
      refine (HMO.out _).mono ?_
      rintro e w' ⟨rfl, rfl⟩
      exact hK _ _ hS (Below.refl _ _) rfl
    · intro ac w1 hS hT hB hD K hK
      rw [if_pos (by rfl)]
      have d22 : ac.tmps.getD 22 undef = .int .i64 s.dt := hD ⟨1, .data⟩ (by simp) rfl _ 22 rfl rfl
      have d24 : ac.tmps.getD 24 undef = .int .i64 s.fr := hD ⟨3, .data⟩ (by simp) rfl _ 24 rfl rfl
      have d30 : ac.tmps.getD 30 undef = .int .i64 A := hD ⟨9, .data⟩ (by simp) rfl _ 30 rfl rfl
      clear hB hD hT
      exact wp_build4 28 (.tmp 22) (.tmp 24) (.const (.int .i64 20)) (.tmp 30) _ _ _ _ _ rfl d22 d24 rfl d30 (by kernel_rfl) (hK _ _ hS (Below.refl _ _) rfl)
  · intro ac w1 hS hT hdf hB hF
    have hfr : ac.tmps = #[.agg #[.int .i64 s.fr, .int .i64 s.dt, .int .i64 s.sq, .int .i64 s.ak, .int .i64 s.fl, .int .i64 s.wi, .int .i64 s.ur, .int .i64 s.o.m, .int .i64 s.o.c, .int .i64 s.o.t, .int .i64 s.o.ec, .bool s.o.sd, .bool s.o.ok, .bool s.o.sp, v, .string s.da], .pointer (some ⟨w.heap.size, 0, none⟩), .pointer (some ⟨w.heap.size + 1, 0, none⟩), (ac.tmps.getD 3 undef), u4, u5, u6, u7, u8, u9, u10, u11, u12, .bool false, u14, u15, u16, u17, u18, u19, u20, (ac.tmps.getD 21 undef), (ac.tmps.getD 22 undef), (ac.tmps.getD 23 undef), (ac.tmps.getD 24 undef), (ac.tmps.getD 25 undef), (ac.tmps.getD 26 undef), (ac.tmps.getD 27 undef), (ac.tmps.getD 28 undef), (ac.tmps.getD 29 undef), (ac.tmps.getD 30 undef), (ac.tmps.getD 31 undef)] := (frame_eq hT rfl hB).trans (by kernel_rfl)
    obtain ⟨T, df⟩ := ac
    have s31 : T.getD 31 undef = .agg #[.int .i64 s.dt, .int .i64 s.fr, .int .i64 0, .int .i64 A, .int .i64 20, .int .i64 0, .int .i64 0, .int .i64 0, .int .i64 0, .int .i64 0, .int .i64 0, .bool false, .bool false, .bool false, .slice none 0 0, .string ⟨#[]⟩] := hF 10 _ 31 (by decide) rfl rfl
    have sdf : df = [] := hdf
    simp only at hfr
    clear hB hF hT hdf HLN HMO HB
    generalize T.getD 21 undef = y21 at *
    generalize T.getD 22 undef = y22 at *
    generalize T.getD 23 undef = y23 at *
    generalize T.getD 24 undef = y24 at *
    generalize T.getD 25 undef = y25 at *
    generalize T.getD 26 undef = y26 at *
    generalize T.getD 27 undef = y27 at *
    generalize T.getD 28 undef = y28 at *
    generalize T.getD 29 undef = y29 at *
    generalize T.getD 30 undef = y30 at *
    generalize T.getD 31 undef = y31 at *
    generalize T.getD 3 undef = y3 at *
    subst hfr s31 sdf
    replace hl := bt hl hS
    have hR := HR.out.later hS
    clear HA HR hS
    intro Kc hKc
    rw [if_pos (by rfl)]
    refine wp_store_mid 28 (.tmp 2) (.tmp 31) (by rfl) (w.heap.size + 1) 0 #[.int .i64 s.dt, .int .i64 s.fr, .int .i64 0, .int .i64 A, .int .i64 20, .int .i64 0, .int .i64 0, .int .i64 0, .int .i64 0, .int .i64 0, .int .i64 0, .bool false, .bool false, .bool false, .slice none 0 0, .string ⟨#[]⟩] (by rfl) (by rfl) hR.there size28 (by simp [Value.oneCell']) ?_
    apply hKc
    clear hKc Kc
    intro Kc hKc
    rw [if_pos (by rfl)]
    go_simp
    apply hKc
    clear hKc Kc
    refine TailOk_nil ?_
    go_wp2
    exact bodyPost_ret (v := .tuple #[.agg #[.int .i64 s.dt, .int .i64 s.fr, .int .i64 0, .int .i64 A, .int .i64 20, .int .i64 0, .int .i64 0, .int .i64 0, .int .i64 0, .int .i64 0, .int .i64 0, .bool false, .bool false, .bool false, .slice none 0 0, .string ⟨#[]⟩], .bool true]) (ret_cell (by rfl) (At.whole (vs := #[.int .i64 s.dt, .int .i64 s.fr, .int .i64 0, .int .i64 A, .int .i64 20, .int .i64 0, .int .i64 0, .int .i64 0, .int .i64 0, .int .i64 0, .int .i64 0, .bool false, .bool false, .bool false, .slice none 0 0, .string ⟨#[]⟩]) hR rfl) rfl (by rfl) (by rfl)) (by rfl) ⟨rfl, Below.setCells (by omega) _ _ _ hl⟩
end Go.Proofs.YtecoknenkjgmjabDoor
