/- The contract of the document's Encode of segments: it returns just the values named here; nothing that was there turns. -/
import Derived.Test.YtecoknenkjgmjabDoorTe
import Derived.Test.YtecoknenkjgmjabDoorSg
namespace Go.Proofs.YtecoknenkjgmjabDoor
open Go.RowKit
set_option maxRecDepth 100000
set_option linter.unusedVariables false

theorem rencs_r (f t : Int) (s : Sg) (v : Value) (w : World) (h : (numB f && numB t) = false) :
    Calls Tryd.prog 10 #[.int .i64 f, .int .i64 t, .agg #[.int .i64 s.fr, .int .i64 s.dt, .int .i64 s.sq, .int .i64 s.ak, .int .i64 s.fl, .int .i64 s.wi, .int .i64 s.ur, .int .i64 s.o.m, .int .i64 s.o.c, .int .i64 s.o.t, .int .i64 s.o.ec, .bool s.o.sd, .bool s.o.ok, .bool s.o.sp, v, .string s.da]] w fun e w' => e = .returned (.tuple #[.string ⟨#[]⟩, .int .i64 1]) ∧ Below w.heap.size w w' := by
  have hA := At.box w #[.int .i64 s.fr, .int .i64 s.dt, .int .i64 s.sq, .int .i64 s.ak, .int .i64 s.fl, .int .i64 s.wi, .int .i64 s.ur, .int .i64 s.o.m, .int .i64 s.o.c, .int .i64 s.o.t, .int .i64 s.o.ec, .bool s.o.sd, .bool s.o.ok, .bool s.o.sp, v, .string s.da] 28
  have hl := bel1 w (.cells #[.int .i64 s.fr, .int .i64 s.dt, .int .i64 s.sq, .int .i64 s.ak, .int .i64 s.fl, .int .i64 s.wi, .int .i64 s.ur, .int .i64 s.o.m, .int .i64 s.o.c, .int .i64 s.o.t, .int .i64 s.o.ec, .bool s.o.sd, .bool s.o.ok, .bool s.o.sp, v, .string s.da] 28)
  rcases Bool.eq_false_or_eq_true (numB f) with hf | hf
  · have ht : numB t = false := by rw [hf] at h; exact h
    clear h
    go_enter Tryd.func10, Tryd.ntmps10
    go_wp2_with fail
    refine (rchk_t f _ hf).mono ?_
    rintro e w1 ⟨rfl, rfl⟩
    go_wp2_with fail
    refine (rchk_f t _ ht).mono ?_
    rintro e w1 ⟨rfl, rfl⟩
    go_wp2
    go_ret2
    exact ⟨rfl, hl⟩
  · clear h
    go_enter Tryd.func10, Tryd.ntmps10
    go_wp2_with fail
    refine (rchk_f f _ hf).mono ?_
    rintro e w1 ⟨rfl, rfl⟩
    go_wp2
    go_ret2
    exact ⟨rfl, hl⟩
theorem rencs_n (f t : Int) (s : Sg) (v : Value) (w : World) (hv : Rgs w v s.o.rs) (hn : s.o.rs.length ≤ 17592186044416) (h : (numB f && numB t) = true) (hm : mayG s = false) :
    Calls Tryd.prog 10 #[.int .i64 f, .int .i64 t, .agg #[.int .i64 s.fr, .int .i64 s.dt, .int .i64 s.sq, .int .i64 s.ak, .int .i64 s.fl, .int .i64 s.wi, .int .i64 s.ur, .int .i64 s.o.m, .int .i64 s.o.c, .int .i64 s.o.t, .int .i64 s.o.ec, .bool s.o.sd, .bool s.o.ok, .bool s.o.sp, v, .string s.da]] w fun e w' => e = .returned (.tuple #[.string ⟨#[]⟩, .int .i64 80]) ∧ Below w.heap.size w w' := by
  have hA := At.box w #[.int .i64 s.fr, .int .i64 s.dt, .int .i64 s.sq, .int .i64 s.ak, .int .i64 s.fl, .int .i64 s.wi, .int .i64 s.ur, .int .i64 s.o.m, .int .i64 s.o.c, .int .i64 s.o.t, .int .i64 s.o.ec, .bool s.o.sd, .bool s.o.ok, .bool s.o.sp, v, .string s.da] 28
  have hl := bel1 w (.cells #[.int .i64 s.fr, .int .i64 s.dt, .int .i64 s.sq, .int .i64 s.ak, .int .i64 s.fl, .int .i64 s.wi, .int .i64 s.ur, .int .i64 s.o.m, .int .i64 s.o.c, .int .i64 s.o.t, .int .i64 s.o.ec, .bool s.o.sd, .bool s.o.ok, .bool s.o.sp, v, .string s.da] 28)
  obtain ⟨hf, ht⟩ : numB f = true ∧ numB t = true := by simpa using h
  have hq := rchk_s s v _ (hv.later hl) hn
  rw [hm, show codeG false = 80 from rfl] at hq
  clear h hm
  go_enter Tryd.func10, Tryd.ntmps10
  go_wp2_with fail
  refine (rchk_t f _ hf).mono ?_
  rintro e w1 ⟨rfl, rfl⟩
  go_wp2_with fail
  refine (rchk_t t _ ht).mono ?_
  rintro e w1 ⟨rfl, rfl⟩
  go_wp2_with (refine wpList_loadG 28 _ (by rfl) (by rfl) (w.heap.size) 0 (by rfl) _ _ hA.range Tryd.underlying28 rfl size28 ?_)
  refine hq.mono ?_
  rintro e w2 ⟨rfl, hb⟩
  go_wp2
  go_ret2
  exact ⟨rfl, bt hl hb⟩
theorem rencs_y (f t : Int) (s : Sg) (v : Value) (w : World) (hv : Rgs w v s.o.rs) (hn : s.o.rs.length ≤ 17592186044416) (h : (numB f && numB t) = true) (hm : mayG s = true) :
    Calls Tryd.prog 10 #[.int .i64 f, .int .i64 t, .agg #[.int .i64 s.fr, .int .i64 s.dt, .int .i64 s.sq, .int .i64 s.ak, .int .i64 s.fl, .int .i64 s.wi, .int .i64 s.ur, .int .i64 s.o.m, .int .i64 s.o.c, .int .i64 s.o.t, .int .i64 s.o.ec, .bool s.o.sd, .bool s.o.ok, .bool s.o.sp, v, .string s.da]] w fun e w' => e = .returned (.tuple #[.string (encS f t s), .int .i64 0]) ∧ Below w.heap.size w w' := by
  have hA := At.box w #[.int .i64 s.fr, .int .i64 s.dt, .int .i64 s.sq, .int .i64 s.ak, .int .i64 s.fl, .int .i64 s.wi, .int .i64 s.ur, .int .i64 s.o.m, .int .i64 s.o.c, .int .i64 s.o.t, .int .i64 s.o.ec, .bool s.o.sd, .bool s.o.ok, .bool s.o.sp, v, .string s.da] 28
  have hl := bel1 w (.cells #[.int .i64 s.fr, .int .i64 s.dt, .int .i64 s.sq, .int .i64 s.ak, .int .i64 s.fl, .int .i64 s.wi, .int .i64 s.ur, .int .i64 s.o.m, .int .i64 s.o.c, .int .i64 s.o.t, .int .i64 s.o.ec, .bool s.o.sd, .bool s.o.ok, .bool s.o.sp, v, .string s.da] 28)
  obtain ⟨hf, ht⟩ : numB f = true ∧ numB t = true := by simpa using h
  have hq := rchk_s s v _ (hv.later hl) hn
  rw [hm, show codeG true = 0 from rfl] at hq
  have HB : Hid (∀ W, Rgs W v s.o.rs → Calls Tryd.prog 33 #[.int .i64 f, .int .i64 t, .agg #[.int .i64 s.fr, .int .i64 s.dt, .int .i64 s.sq, .int .i64 s.ak, .int .i64 s.fl, .int .i64 s.wi, .int .i64 s.ur, .int .i64 s.o.m, .int .i64 s.o.c, .int .i64 s.o.t, .int .i64 s.o.ec, .bool s.o.sd, .bool s.o.ok, .bool s.o.sp, v, .string s.da]] W fun e w' => e = .returned (.string (encS f t s)) ∧ Below W.heap.size W w') := fun W h1 => rby_s f t s v W h1 hf ht hm
  generalize encS f t s = EN at *
  clear h hm
  go_enter Tryd.func10, Tryd.ntmps10
  go_wp2_with fail
  refine (rchk_t f _ hf).mono ?_
  rintro e w1 ⟨rfl, rfl⟩
  go_wp2_with fail
  refine (rchk_t t _ ht).mono ?_
  rintro e w1 ⟨rfl, rfl⟩
  go_wp2_with (refine wpList_loadG 28 _ (by rfl) (by rfl) (w.heap.size) 0 (by rfl) _ _ hA.range Tryd.underlying28 rfl size28 ?_)
  refine hq.mono ?_
  rintro e w2 ⟨rfl, hb⟩
  replace hl := bt hl hb
  replace hA := hA.later hb
  clear hb hq
  go_wp2_with (refine wpList_loadG 28 _ (by rfl) (by rfl) (w.heap.size) 0 (by rfl) _ _ hA.range Tryd.underlying28 rfl size28 ?_)
  refine (HB.out _ (hv.later hl)).mono ?_
  rintro e w3 ⟨rfl, hb⟩
  go_wp2
  go_ret2
  exact ⟨rfl, bt hl hb⟩
end Go.Proofs.YtecoknenkjgmjabDoor
