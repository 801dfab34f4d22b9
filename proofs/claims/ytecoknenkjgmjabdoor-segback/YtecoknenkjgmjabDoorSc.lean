/- What is said of memory where a whole segment is stored; and the contract of Reset of package seg: what answers a segment that belongs to nothing, or nothing; nothing that was there turns. -/
import Derived.Test.YtecoknenkjgmjabDoorSb
import Derived.Test.YtecoknenkjgmjabDoorFactsF
import Derived.Test.YtecoknenkjgmjabDoorGx
import Derived.Deep.MidRow
import Derived.Deep.Cut
namespace Go.Proofs.YtecoknenkjgmjabDoor
open Go.RowKit
set_option maxRecDepth 100000
set_option linter.unusedVariables false

theorem Below.setCells {B : Nat} {w0 : World} {b : Nat} (hb : B ≤ b) : ∀ (vs : List Value) (o : Nat) (w : World), Below B w0 w → Below B w0 (w.setCells b o vs)
  | [], _, _, h => h
  | v :: vs, o, w, h => by
    rw [World.setCells]
    exact Below.setCells hb vs (o + 1) _ (h.setCell (p := ⟨b, o, none⟩) hb v)
theorem size_setCells (b : Nat) : ∀ (vs : List Value) (o : Nat) (w : World), (w.setCells b o vs).heap.size = w.heap.size
  | [], _, _ => rfl
  | v :: vs, o, w => by rw [World.setCells, size_setCells b vs (o + 1) _, World.size_setCell]
theorem At.there {W : World} {b : Nat} {vs : Array Value} (h : At W b vs) : W.there b 0 vs.size := fun j hj => by
  obtain ⟨c, f⟩ := h.2 j vs[j] (Array.getElem?_eq_getElem hj)
  rw [Nat.zero_add]
  exact ⟨by rw [c]; rfl, f⟩
theorem At.whole {W : World} {b : Nat} {old vs : Array Value} (h : At W b old) (hs : old.size = vs.size) : At (W.setCells b 0 vs.toList) b vs := by
  refine ⟨by rw [size_setCells]; exact h.1, fun i v hi => ⟨?_, ?_⟩⟩
  · have hr := World.rangeAt_setCells_same W b 0 vs.toList (by rw [show vs.toList.length = old.size by rw [hs]; simp]; exact h.there)
    have := hr i v (by simpa using hi)
    rwa [Nat.zero_add] at this
  · rw [World.frozen?_setCells]
    have hlt : i < old.size := by rw [hs]; exact (Array.getElem?_eq_some_iff.1 hi).1
    exact (h.2 i old[i] (Array.getElem?_eq_getElem hlt)).2
theorem At.apart {W : World} {b c : Nat} {vs : Array Value} (h : At W c vs) (hne : b ≠ c) (o : Nat) (us : List Value) : At (W.setCells b o us) c vs := by
  refine ⟨by rw [size_setCells]; exact h.1, fun i v hi => ⟨?_, ?_⟩⟩
  · rw [World.cell?_setCells_out b us o W ⟨c, i, none⟩ (fun e _ => absurd e.symm hne)]
    exact (h.2 i v hi).1
  · rw [World.frozen?_setCells]; exact (h.2 i v hi).2
theorem ret_cell {fn : Func} {i j : Nat} (hres : fn.results = #[.cell i 28, .tmp j]) {tmps : Array Value} {W : World} {b : Nat} {vs : Array Value} {x : Value} (hA : At W b vs) (hs : vs.size = 16) (hi : tmps.getD i undef = .pointer (some ⟨b, 0, none⟩)) (hj : tmps.getD j undef = x) : (results fn tmps).run Tryd.prog W = .ok (.tuple #[.agg vs, x]) W := by
  have hl := run_loadVar_mid (P := Tryd.prog) W b 0 28 vs.toList _ hA.range Tryd.underlying28 rfl (by rw [show vs.toList.length = 16 by simpa using hs]; exact size28)
  rw [Array.getD_eq_getD_getElem?] at hi hj
  unfold results
  rw [hres]
  simp [hi, hj, asAddr, hl]
/-- What Reset answers with. -/
def resA (s : Sg) : Sg := ⟨s.dt, s.fr, s.ak, 0, 4, 0, 0, Op.zero, ⟨#[]⟩⟩
def resS (s : Sg) : Sg := ⟨s.dt, s.fr, 0, addV s.sq (lenG s), 20, 0, 0, Op.zero, ⟨#[]⟩⟩
theorem reset_n (s : Sg) (v : Value) (w : World) (hv : Rgs w v s.o.rs) (hn : s.o.rs.length ≤ 17592186044416) (hG : Ord w) (h : mayG s = false ∨ (mayG s = true ∧ hasV s.fl 4 = true)) :
    Calls Tryd.prog 21 #[.agg #[.int .i64 s.fr, .int .i64 s.dt, .int .i64 s.sq, .int .i64 s.ak, .int .i64 s.fl, .int .i64 s.wi, .int .i64 s.ur, .int .i64 s.o.m, .int .i64 s.o.c, .int .i64 s.o.t, .int .i64 s.o.ec, .bool s.o.sd, .bool s.o.ok, .bool s.o.sp, v, .string s.da]] w fun e w' => e = .returned (.tuple #[.agg #[.int .i64 0, .int .i64 0, .int .i64 0, .int .i64 0, .int .i64 0, .int .i64 0, .int .i64 0, .int .i64 0, .int .i64 0, .int .i64 0, .int .i64 0, .bool false, .bool false, .bool false, .slice none 0 0, .string ⟨#[]⟩], .bool false]) ∧ Below w.heap.size w w' := by
  have hb1 := bel1 w (.cells #[.int .i64 s.fr, .int .i64 s.dt, .int .i64 s.sq, .int .i64 s.ak, .int .i64 s.fl, .int .i64 s.wi, .int .i64 s.ur, .int .i64 s.o.m, .int .i64 s.o.c, .int .i64 s.o.t, .int .i64 s.o.ec, .bool s.o.sd, .bool s.o.ok, .bool s.o.sp, v, .string s.da] 28)
  have hb2 := bel1 (w.alloc (.cells #[.int .i64 s.fr, .int .i64 s.dt, .int .i64 s.sq, .int .i64 s.ak, .int .i64 s.fl, .int .i64 s.wi, .int .i64 s.ur, .int .i64 s.o.m, .int .i64 s.o.c, .int .i64 s.o.t, .int .i64 s.o.ec, .bool s.o.sd, .bool s.o.ok, .bool s.o.sp, v, .string s.da] 28)) (.cells #[.int .i64 0, .int .i64 0, .int .i64 0, .int .i64 0, .int .i64 0, .int .i64 0, .int .i64 0, .int .i64 0, .int .i64 0, .int .i64 0, .int .i64 0, .bool false, .bool false, .bool false, .slice none 0 0, .string ⟨#[]⟩] 28)
  have hA := (At.box w #[.int .i64 s.fr, .int .i64 s.dt, .int .i64 s.sq, .int .i64 s.ak, .int .i64 s.fl, .int .i64 s.wi, .int .i64 s.ur, .int .i64 s.o.m, .int .i64 s.o.c, .int .i64 s.o.t, .int .i64 s.o.ec, .bool s.o.sd, .bool s.o.ok, .bool s.o.sp, v, .string s.da] 28).later hb2
  have hR := At.box2 w (.cells #[.int .i64 s.fr, .int .i64 s.dt, .int .i64 s.sq, .int .i64 s.ak, .int .i64 s.fl, .int .i64 s.wi, .int .i64 s.ur, .int .i64 s.o.m, .int .i64 s.o.c, .int .i64 s.o.t, .int .i64 s.o.ec, .bool s.o.sd, .bool s.o.ok, .bool s.o.sp, v, .string s.da] 28) #[.int .i64 0, .int .i64 0, .int .i64 0, .int .i64 0, .int .i64 0, .int .i64 0, .int .i64 0, .int .i64 0, .int .i64 0, .int .i64 0, .int .i64 0, .bool false, .bool false, .bool false, .slice none 0 0, .string ⟨#[]⟩] 28
  have hl := bt hb1 hb2
  have hsz : w.heap.size + 2 ≤ ((w.alloc (.cells #[.int .i64 s.fr, .int .i64 s.dt, .int .i64 s.sq, .int .i64 s.ak, .int .i64 s.fl, .int .i64 s.wi, .int .i64 s.ur, .int .i64 s.o.m, .int .i64 s.o.c, .int .i64 s.o.t, .int .i64 s.o.ec, .bool s.o.sd, .bool s.o.ok, .bool s.o.sp, v, .string s.da] 28)).alloc (.cells #[.int .i64 0, .int .i64 0, .int .i64 0, .int .i64 0, .int .i64 0, .int .i64 0, .int .i64 0, .int .i64 0, .int .i64 0, .int .i64 0, .int .i64 0, .bool false, .bool false, .bool false, .slice none 0 0, .string ⟨#[]⟩] 28)).heap.size := by simp
  have hz : ∀ W, (Instr.build 28 #[]).run Tryd.prog W = .ok (.agg #[.int .i64 0, .int .i64 0, .int .i64 0, .int .i64 0, .int .i64 0, .int .i64 0, .int .i64 0, .int .i64 0, .int .i64 0, .int .i64 0, .int .i64 0, .bool false, .bool false, .bool false, .slice none 0 0, .string ⟨#[]⟩]) W := fun W => run_build W 28 #[] _ (by kernel_rfl)
  have hm := may_s s v _ (hv.later hl) hn (hG.later hl)
  rcases h with h | ⟨h, h4⟩
  · rw [h] at hm
    go_enter Tryd.func21, Tryd.ntmps21
    go_wp2_with (refine wpList_loadG 28 _ (by rfl) (by rfl) (w.heap.size) 0 (by rfl) _ _ hA.range Tryd.underlying28 rfl size28 ?_)
    refine hm.mono ?_
    rintro e w1 ⟨rfl, hb⟩
    replace hl := bt hl hb
    replace hR := hR.later hb
    clear hb hb1 hb2 hm
    go_wp2_with (refine wpList_store_mid (by rfl) 28 _ _ (by rfl) (w.heap.size + 1) 0 #[.int .i64 0, .int .i64 0, .int .i64 0, .int .i64 0, .int .i64 0, .int .i64 0, .int .i64 0, .int .i64 0, .int .i64 0, .int .i64 0, .int .i64 0, .bool false, .bool false, .bool false, .slice none 0 0, .string ⟨#[]⟩] (by rfl) (by rfl) hR.there size28 (by simp [Value.oneCell']) ?_)
    go_wp2
    exact bodyPost_ret (v := .tuple #[.agg #[.int .i64 0, .int .i64 0, .int .i64 0, .int .i64 0, .int .i64 0, .int .i64 0, .int .i64 0, .int .i64 0, .int .i64 0, .int .i64 0, .int .i64 0, .bool false, .bool false, .bool false, .slice none 0 0, .string ⟨#[]⟩], .bool false]) (ret_cell (by rfl) (At.whole (vs := #[.int .i64 0, .int .i64 0, .int .i64 0, .int .i64 0, .int .i64 0, .int .i64 0, .int .i64 0, .int .i64 0, .int .i64 0, .int .i64 0, .int .i64 0, .bool false, .bool false, .bool false, .slice none 0 0, .string ⟨#[]⟩]) hR rfl) rfl (by rfl) (by rfl)) (by rfl) ⟨rfl, Below.setCells (by omega) _ _ _ hl⟩
  · rw [h] at hm
    go_enter Tryd.func21, Tryd.ntmps21
    go_wp2_with (refine wpList_loadG 28 _ (by rfl) (by rfl) (w.heap.size) 0 (by rfl) _ _ hA.range Tryd.underlying28 rfl size28 ?_)
    refine hm.mono ?_
    rintro e w1 ⟨rfl, hb⟩
    replace hl := bt hl hb
    replace hA := hA.later hb
    replace hR := hR.later hb
    clear hb hb1 hb2 hm
    go_wp2_with (refine wpList_loadG 28 _ (by rfl) (by rfl) (w.heap.size) 0 (by rfl) _ _ hA.range Tryd.underlying28 rfl size28 ?_)
    refine (has_t s v 4 _ h4).mono ?_
    rintro e w2 ⟨rfl, hb⟩
    replace hl := bt hl hb
    replace hR := hR.later hb
    clear hb
    go_wp2_with (refine wpList_store_mid (by rfl) 28 _ _ (by rfl) (w.heap.size + 1) 0 #[.int .i64 0, .int .i64 0, .int .i64 0, .int .i64 0, .int .i64 0, .int .i64 0, .int .i64 0, .int .i64 0, .int .i64 0, .int .i64 0, .int .i64 0, .bool false, .bool false, .bool false, .slice none 0 0, .string ⟨#[]⟩] (by rfl) (by rfl) hR.there size28 (by simp [Value.oneCell']) ?_)
    go_wp2
    exact bodyPost_ret (v := .tuple #[.agg #[.int .i64 0, .int .i64 0, .int .i64 0, .int .i64 0, .int .i64 0, .int .i64 0, .int .i64 0, .int .i64 0, .int .i64 0, .int .i64 0, .int .i64 0, .bool false, .bool false, .bool false, .slice none 0 0, .string ⟨#[]⟩], .bool false]) (ret_cell (by rfl) (At.whole (vs := #[.int .i64 0, .int .i64 0, .int .i64 0, .int .i64 0, .int .i64 0, .int .i64 0, .int .i64 0, .int .i64 0, .int .i64 0, .int .i64 0, .int .i64 0, .bool false, .bool false, .bool false, .slice none 0 0, .string ⟨#[]⟩]) hR rfl) rfl (by rfl) (by rfl)) (by rfl) ⟨rfl, Below.setCells (by omega) _ _ _ hl⟩
set_option maxHeartbeats 4000000 in
theorem reset_a (s : Sg) (v : Value) (w : World) (hv : Rgs w v s.o.rs) (hn : s.o.rs.length ≤ 17592186044416) (hG : Ord w) (h : mayG s = true) (h4 : hasV s.fl 4 = false) (h16 : hasV s.fl 16 = true) :
    Calls Tryd.prog 21 #[.agg #[.int .i64 s.fr, .int .i64 s.dt, .int .i64 s.sq, .int .i64 s.ak, .int .i64 s.fl, .int .i64 s.wi, .int .i64 s.ur, .int .i64 s.o.m, .int .i64 s.o.c, .int .i64 s.o.t, .int .i64 s.o.ec, .bool s.o.sd, .bool s.o.ok, .bool s.o.sp, v, .string s.da]] w fun e w' => e = .returned (.tuple #[.agg #[.int .i64 s.dt, .int .i64 s.fr, .int .i64 s.ak, .int .i64 0, .int .i64 4, .int .i64 0, .int .i64 0, .int .i64 0, .int .i64 0, .int .i64 0, .int .i64 0, .bool false, .bool false, .bool false, .slice none 0 0, .string ⟨#[]⟩], .bool true]) ∧ Below w.heap.size w w' := by
  have hb1 := bel1 w (.cells #[.int .i64 s.fr, .int .i64 s.dt, .int .i64 s.sq, .int .i64 s.ak, .int .i64 s.fl, .int .i64 s.wi, .int .i64 s.ur, .int .i64 s.o.m, .int .i64 s.o.c, .int .i64 s.o.t, .int .i64 s.o.ec, .bool s.o.sd, .bool s.o.ok, .bool s.o.sp, v, .string s.da] 28)
  have hb2 := bel1 (w.alloc (.cells #[.int .i64 s.fr, .int .i64 s.dt, .int .i64 s.sq, .int .i64 s.ak, .int .i64 s.fl, .int .i64 s.wi, .int .i64 s.ur, .int .i64 s.o.m, .int .i64 s.o.c, .int .i64 s.o.t, .int .i64 s.o.ec, .bool s.o.sd, .bool s.o.ok, .bool s.o.sp, v, .string s.da] 28)) (.cells #[.int .i64 0, .int .i64 0, .int .i64 0, .int .i64 0, .int .i64 0, .int .i64 0, .int .i64 0, .int .i64 0, .int .i64 0, .int .i64 0, .int .i64 0, .bool false, .bool false, .bool false, .slice none 0 0, .string ⟨#[]⟩] 28)
  have hA := (At.box w #[.int .i64 s.fr, .int .i64 s.dt, .int .i64 s.sq, .int .i64 s.ak, .int .i64 s.fl, .int .i64 s.wi, .int .i64 s.ur, .int .i64 s.o.m, .int .i64 s.o.c, .int .i64 s.o.t, .int .i64 s.o.ec, .bool s.o.sd, .bool s.o.ok, .bool s.o.sp, v, .string s.da] 28).later hb2
  have hR := At.box2 w (.cells #[.int .i64 s.fr, .int .i64 s.dt, .int .i64 s.sq, .int .i64 s.ak, .int .i64 s.fl, .int .i64 s.wi, .int .i64 s.ur, .int .i64 s.o.m, .int .i64 s.o.c, .int .i64 s.o.t, .int .i64 s.o.ec, .bool s.o.sd, .bool s.o.ok, .bool s.o.sp, v, .string s.da] 28) #[.int .i64 0, .int .i64 0, .int .i64 0, .int .i64 0, .int .i64 0, .int .i64 0, .int .i64 0, .int .i64 0, .int .i64 0, .int .i64 0, .int .i64 0, .bool false, .bool false, .bool false, .slice none 0 0, .string ⟨#[]⟩] 28
  have hl := bt hb1 hb2
  have hsz : w.heap.size + 2 ≤ ((w.alloc (.cells #[.int .i64 s.fr, .int .i64 s.dt, .int .i64 s.sq, .int .i64 s.ak, .int .i64 s.fl, .int .i64 s.wi, .int .i64 s.ur, .int .i64 s.o.m, .int .i64 s.o.c, .int .i64 s.o.t, .int .i64 s.o.ec, .bool s.o.sd, .bool s.o.ok, .bool s.o.sp, v, .string s.da] 28)).alloc (.cells #[.int .i64 0, .int .i64 0, .int .i64 0, .int .i64 0, .int .i64 0, .int .i64 0, .int .i64 0, .int .i64 0, .int .i64 0, .int .i64 0, .int .i64 0, .bool false, .bool false, .bool false, .slice none 0 0, .string ⟨#[]⟩] 28)).heap.size := by simp
  have hz : ∀ W, (Instr.build 28 #[]).run Tryd.prog W = .ok (.agg #[.int .i64 0, .int .i64 0, .int .i64 0, .int .i64 0, .int .i64 0, .int .i64 0, .int .i64 0, .int .i64 0, .int .i64 0, .int .i64 0, .int .i64 0, .bool false, .bool false, .bool false, .slice none 0 0, .string ⟨#[]⟩]) W := fun W => run_build W 28 #[] _ (by kernel_rfl)
  have hm := may_s s v _ (hv.later hl) hn (hG.later hl)
  rw [h] at hm
  go_enter Tryd.func21, Tryd.ntmps21
  go_wp2_with (refine wpList_loadG 28 _ (by rfl) (by rfl) (w.heap.size) 0 (by rfl) _ _ hA.range Tryd.underlying28 rfl size28 ?_)
  refine hm.mono ?_
  rintro e w1 ⟨rfl, hb⟩
  replace hl := bt hl hb
  replace hA := hA.later hb
  replace hR := hR.later hb
  replace hsz := Nat.le_trans hsz hb.size
  clear hb hb1 hb2 hm
  go_wp2_with (refine wpList_loadG 28 _ (by rfl) (by rfl) (w.heap.size) 0 (by rfl) _ _ hA.range Tryd.underlying28 rfl size28 ?_)
  refine (has_f s v 4 _ h4).mono ?_
  rintro e w2 ⟨rfl, hb⟩
  replace hl := bt hl hb
  replace hA := hA.later hb
  replace hR := hR.later hb
  replace hsz := Nat.le_trans hsz hb.size
  clear hb
  obtain ⟨⟨c0, c1, c2, c3, c4, c5, c6, c7, c8, c9, c10, c11, c12, c13, c14, c15⟩, -, -⟩ := hA.sixteen
  have h3 : ∀ W, (Instr.build 28 #[(0, .int .i64 s.dt), (1, .int .i64 s.fr), (4, .int .i64 4)]).run Tryd.prog W = .ok (.agg #[.int .i64 s.dt, .int .i64 s.fr, .int .i64 0, .int .i64 0, .int .i64 4, .int .i64 0, .int .i64 0, .int .i64 0, .int .i64 0, .int .i64 0, .int .i64 0, .bool false, .bool false, .bool false, .slice none 0 0, .string ⟨#[]⟩]) W := fun W => run_build W 28 _ _ (by kernel_rfl)
  go_upto_region 4 with fail
  clear c0 c1 c2 c3 c4 c5 c6 c7 c8 c9 c10 c11 c12 c13 c14 c15
  have hX' := At.box w2 #[.int .i64 s.dt, .int .i64 s.fr, .int .i64 0, .int .i64 0, .int .i64 4, .int .i64 0, .int .i64 0, .int .i64 0, .int .i64 0, .int .i64 0, .int .i64 0, .bool false, .bool false, .bool false, .slice none 0 0, .string ⟨#[]⟩] 28
  have hbs := bel1 w2 (.cells #[.int .i64 s.dt, .int .i64 s.fr, .int .i64 0, .int .i64 0, .int .i64 4, .int .i64 0, .int .i64 0, .int .i64 0, .int .i64 0, .int .i64 0, .int .i64 0, .bool false, .bool false, .bool false, .slice none 0 0, .string ⟨#[]⟩] 28)
  replace hl := bt hl hbs
  replace hA := hA.later hbs
  replace hR := hR.later hbs
  have hsz3 : w2.heap.size + 1 ≤ (w2.alloc (.cells #[.int .i64 s.dt, .int .i64 s.fr, .int .i64 0, .int .i64 0, .int .i64 4, .int .i64 0, .int .i64 0, .int .i64 0, .int .i64 0, .int .i64 0, .int .i64 0, .bool false, .bool false, .bool false, .slice none 0 0, .string ⟨#[]⟩] 28)).heap.size := by simp
  generalize w2.alloc (.cells #[.int .i64 s.dt, .int .i64 s.fr, .int .i64 0, .int .i64 0, .int .i64 4, .int .i64 0, .int .i64 0, .int .i64 0, .int .i64 0, .int .i64 0, .int .i64 0, .bool false, .bool false, .bool false, .slice none 0 0, .string ⟨#[]⟩] 28) = w3 at *
  clear hbs
  go_wp2_with (refine wpList_loadG 28 _ (by rfl) (by rfl) (w.heap.size) 0 (by rfl) _ _ hA.range Tryd.underlying28 rfl size28 ?_)
  refine (has_t s v 16 _ h16).mono ?_
  rintro e w4 ⟨rfl, hb⟩
  replace hl := bt hl hb
  replace hA := hA.later hb
  replace hR := hR.later hb
  replace hX' := hX'.later hb
  replace hsz3 := Nat.le_trans hsz3 hb.size
  clear hb
  obtain ⟨⟨c0, c1, c2, c3, c4, c5, c6, c7, c8, c9, c10, c11, c12, c13, c14, c15⟩, -, -⟩ := hA.sixteen
  obtain ⟨⟨r0, r1, r2, r3, r4, r5, r6, r7, r8, r9, r10, r11, r12, r13, r14, r15⟩, ⟨g0, g1, g2, g3, g4, g5, g6, g7, g8, g9, g10, g11, g12, g13, g14, g15⟩, -⟩ := hX'.sixteen
  have hXs := hX'.set 2 (.int .i64 s.ak)
  have hXs' : At (w4.setCell ⟨w2.heap.size, 2, none⟩ (.int .i64 s.ak)) w2.heap.size #[.int .i64 s.dt, .int .i64 s.fr, .int .i64 s.ak, .int .i64 0, .int .i64 4, .int .i64 0, .int .i64 0, .int .i64 0, .int .i64 0, .int .i64 0, .int .i64 0, .bool false, .bool false, .bool false, .slice none 0 0, .string ⟨#[]⟩] := hXs
  have hRs := hR.keep (b := w2.heap.size) (by omega) 2 (.int .i64 s.ak)
  have hls : Below w.heap.size w (w4.setCell ⟨w2.heap.size, 2, none⟩ (.int .i64 s.ak)) := hl.setCell (p := ⟨w2.heap.size, 2, none⟩) (by show w.heap.size ≤ w2.heap.size; omega) _
  clear hXs
  go_wp2_with (first | (refine wpList_loadG 28 _ (by rfl) (by rfl) (w2.heap.size) 0 (by rfl) _ _ hXs'.range Tryd.underlying28 rfl size28 ?_) | (refine wpList_store_mid (by rfl) 28 _ _ (by rfl) (w.heap.size + 1) 0 #[.int .i64 s.dt, .int .i64 s.fr, .int .i64 s.ak, .int .i64 0, .int .i64 4, .int .i64 0, .int .i64 0, .int .i64 0, .int .i64 0, .int .i64 0, .int .i64 0, .bool false, .bool false, .bool false, .slice none 0 0, .string ⟨#[]⟩] (by rfl) (by rfl) hRs.there size28 (by simp [Value.oneCell']) ?_))
  go_wp2
  exact bodyPost_ret (v := .tuple #[.agg #[.int .i64 s.dt, .int .i64 s.fr, .int .i64 s.ak, .int .i64 0, .int .i64 4, .int .i64 0, .int .i64 0, .int .i64 0, .int .i64 0, .int .i64 0, .int .i64 0, .bool false, .bool false, .bool false, .slice none 0 0, .string ⟨#[]⟩], .bool true]) (ret_cell (by rfl) (At.whole (vs := #[.int .i64 s.dt, .int .i64 s.fr, .int .i64 s.ak, .int .i64 0, .int .i64 4, .int .i64 0, .int .i64 0, .int .i64 0, .int .i64 0, .int .i64 0, .int .i64 0, .bool false, .bool false, .bool false, .slice none 0 0, .string ⟨#[]⟩]) hRs rfl) rfl (by rfl) (by rfl)) (by rfl) ⟨rfl, Below.setCells (by omega) _ _ _ hls⟩
end Go.Proofs.YtecoknenkjgmjabDoor
