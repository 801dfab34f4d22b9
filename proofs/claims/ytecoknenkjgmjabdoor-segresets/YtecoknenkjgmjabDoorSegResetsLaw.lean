/- For all segments: what answers one answers no answer; it goes back; acknowledges just what that has; and has no data; of others nothing is answered; and what came in reads as it did. Conditions: the card's own alone (the order of the kinds is what the program's text lays). -/
import Derived.Test.YtecoknenkjgmjabDoorSf
import Derived.Deep.Cut
import Derived.Deep.QuietTactic
import Derived.BigQuiet
import Derived.WalkSmall
import Derived.Test.YtecoknenkjgmjabDoorFs
import Derived.Test.YtecoknenkjgmjabDoorTie
import Derived.Test.YtecoknenkjgmjabDoorCards
import Derived.SevenTiedAt
import Derived.Stop.Joined
namespace Go.Proofs.YtecoknenkjgmjabDoor.segResets
open Go.ChangeShapes Go.WideShapes Go.ChangeAt Go.RowKit
open Go.ChangeMaps (open_string)
set_option linter.unusedVariables false
set_option maxRecDepth 100000

-- WALK
theorem same_zz (W : World) : Calls Tryd.prog 23 #[.agg #[.int .i64 0, .int .i64 0, .int .i64 0, .int .i64 0, .int .i64 0, .int .i64 0, .int .i64 0, .int .i64 0, .int .i64 0, .int .i64 0, .int .i64 0, .bool false, .bool false, .bool false, .slice none 0 0, .string ⟨#[]⟩], .agg #[.int .i64 0, .int .i64 0, .int .i64 0, .int .i64 0, .int .i64 0, .int .i64 0, .int .i64 0, .int .i64 0, .int .i64 0, .int .i64 0, .int .i64 0, .bool false, .bool false, .bool false, .slice none 0 0, .string ⟨#[]⟩]] W fun e w' => e = .returned (.bool true) ∧ Below W.heap.size W w' := by
  have := same_s ⟨0, 0, 0, 0, 0, 0, 0, Op.zero, ⟨#[]⟩⟩ ⟨0, 0, 0, 0, 0, 0, 0, Op.zero, ⟨#[]⟩⟩ (.slice none 0 0) (.slice none 0 0) W (Rgs.nil W) (Rgs.nil W) (by decide) (by decide)
  rw [show sameG ⟨0, 0, 0, 0, 0, 0, 0, Op.zero, ⟨#[]⟩⟩ ⟨0, 0, 0, 0, 0, 0, 0, Op.zero, ⟨#[]⟩⟩ = true by decide +kernel] at this
  exact this
set_option maxHeartbeats 4000000 in
theorem walk_n (s : Sg) (v : Value) (w : World) (hG : Ord w) (hv : Rgs w v s.o.rs) (hn : s.o.rs.length ≤ 17592186044416) (h : mayG s = false ∨ (mayG s = true ∧ hasV s.fl 4 = true)) :
    Calls Tryd.prog 7 #[.agg #[.int .i64 s.fr, .int .i64 s.dt, .int .i64 s.sq, .int .i64 s.ak, .int .i64 s.fl, .int .i64 s.wi, .int .i64 s.ur, .int .i64 s.o.m, .int .i64 s.o.c, .int .i64 s.o.t, .int .i64 s.o.ec, .bool s.o.sd, .bool s.o.ok, .bool s.o.sp, v, .string s.da]] w fun e w' => e = .returned (.bool true) ∧ Below w.heap.size w w' := by
  have hz : ∀ W, (Instr.build 28 #[]).run Tryd.prog W = .ok (.agg #[.int .i64 0, .int .i64 0, .int .i64 0, .int .i64 0, .int .i64 0, .int .i64 0, .int .i64 0, .int .i64 0, .int .i64 0, .int .i64 0, .int .i64 0, .bool false, .bool false, .bool false, .slice none 0 0, .string ⟨#[]⟩]) W := fun W => run_build W 28 #[] _ (by kernel_rfl)
  have hA := At.box w #[.int .i64 s.fr, .int .i64 s.dt, .int .i64 s.sq, .int .i64 s.ak, .int .i64 s.fl, .int .i64 s.wi, .int .i64 s.ur, .int .i64 s.o.m, .int .i64 s.o.c, .int .i64 s.o.t, .int .i64 s.o.ec, .bool s.o.sd, .bool s.o.ok, .bool s.o.sp, v, .string s.da] 28
  have hl := bel1 w (.cells #[.int .i64 s.fr, .int .i64 s.dt, .int .i64 s.sq, .int .i64 s.ak, .int .i64 s.fl, .int .i64 s.wi, .int .i64 s.ur, .int .i64 s.o.m, .int .i64 s.o.c, .int .i64 s.o.t, .int .i64 s.o.ec, .bool s.o.sd, .bool s.o.ok, .bool s.o.sp, v, .string s.da] 28)
  go_enter Tryd.func7, Tryd.ntmps7
  go_wp2_with fail
  refine (works_s _ (hG.later hl)).mono ?_
  rintro e w1 ⟨rfl, hb⟩
  replace hl := bt hl hb
  replace hA := hA.later hb
  clear hb
  go_wp2_with (refine wpList_loadG 28 _ (by rfl) (by rfl) (w.heap.size) 0 (by rfl) _ _ hA.range Tryd.underlying28 rfl size28 ?_)
  refine (reset_n s v _ (hv.later hl) hn (hG.later hl) h).mono ?_
  rintro e w2 ⟨rfl, hb⟩
  have hX := At.box w2 #[.int .i64 0, .int .i64 0, .int .i64 0, .int .i64 0, .int .i64 0, .int .i64 0, .int .i64 0, .int .i64 0, .int .i64 0, .int .i64 0, .int .i64 0, .bool false, .bool false, .bool false, .slice none 0 0, .string ⟨#[]⟩] 28
  have hbx := bel1 w2 (.cells #[.int .i64 0, .int .i64 0, .int .i64 0, .int .i64 0, .int .i64 0, .int .i64 0, .int .i64 0, .int .i64 0, .int .i64 0, .int .i64 0, .int .i64 0, .bool false, .bool false, .bool false, .slice none 0 0, .string ⟨#[]⟩] 28)
  replace hl := bt (bt hl hb) hbx
  replace hA := hA.later (bt hb hbx)
  clear hb hbx
  go_upto_region 4 with fail
  generalize hw3 : w2.alloc (.cells #[.int .i64 0, .int .i64 0, .int .i64 0, .int .i64 0, .int .i64 0, .int .i64 0, .int .i64 0, .int .i64 0, .int .i64 0, .int .i64 0, .int .i64 0, .bool false, .bool false, .bool false, .slice none 0 0, .string ⟨#[]⟩] 28) = w3 at *
  clear hw3
  go_wp2_with (refine wpList_loadG 28 _ (by rfl) (by rfl) (w2.heap.size) 0 (by rfl) _ _ hX.range Tryd.underlying28 rfl size28 ?_)
  refine (same_zz _).mono ?_
  rintro e w4 ⟨rfl, hb⟩
  replace hl := bt hl hb
  replace hA := hA.later hb
  replace hX := hX.later hb
  clear hb
  go_wp2_with (refine wpList_loadG 28 _ (by rfl) (by rfl) (w.heap.size) 0 (by rfl) _ _ hA.range Tryd.underlying28 rfl size28 ?_)
  rcases h with h | ⟨h, h4⟩
  · have hc := chk_s s v _ (hv.later hl) hn (hG.later hl)
    rw [h] at hc
    refine hc.mono ?_
    rintro e w5 ⟨rfl, hb⟩
    clear hc
    go_wp2
    go_ret
    exact ⟨rfl, bt hl hb⟩
  · have hc := chk_s s v _ (hv.later hl) hn (hG.later hl)
    rw [h] at hc
    refine hc.mono ?_
    rintro e w5 ⟨rfl, hb⟩
    clear hc
    replace hl := bt hl hb
    replace hA := hA.later hb
    replace hX := hX.later hb
    clear hb
    go_wp2_with (refine wpList_loadG 28 _ (by rfl) (by rfl) (w.heap.size) 0 (by rfl) _ _ hA.range Tryd.underlying28 rfl size28 ?_)
    refine (has_t s v 4 _ h4).mono ?_
    rintro e w6 ⟨rfl, hb⟩
    go_wp2
    go_ret
    exact ⟨rfl, bt hl hb⟩
set_option maxHeartbeats 4000000 in
theorem walk_a (s : Sg) (v : Value) (w : World) (hG : Ord w) (hv : Rgs w v s.o.rs) (hn : s.o.rs.length ≤ 17592186044416) (h : mayG s = true) (h4 : hasV s.fl 4 = false) (h16 : hasV s.fl 16 = true) :
    Calls Tryd.prog 7 #[.agg #[.int .i64 s.fr, .int .i64 s.dt, .int .i64 s.sq, .int .i64 s.ak, .int .i64 s.fl, .int .i64 s.wi, .int .i64 s.ur, .int .i64 s.o.m, .int .i64 s.o.c, .int .i64 s.o.t, .int .i64 s.o.ec, .bool s.o.sd, .bool s.o.ok, .bool s.o.sp, v, .string s.da]] w fun e w' => e = .returned (.bool true) ∧ Below w.heap.size w w' := by
  have HRN : Hid (∀ W, Ord W → Calls Tryd.prog 21 #[.agg #[.int .i64 s.dt, .int .i64 s.fr, .int .i64 s.ak, .int .i64 0, .int .i64 4, .int .i64 0, .int .i64 0, .int .i64 0, .int .i64 0, .int .i64 0, .int .i64 0, .bool false, .bool false, .bool false, .slice none 0 0, .string ⟨#[]⟩]] W fun e w' => e = .returned (.tuple #[.agg #[.int .i64 0, .int .i64 0, .int .i64 0, .int .i64 0, .int .i64 0, .int .i64 0, .int .i64 0, .int .i64 0, .int .i64 0, .int .i64 0, .int .i64 0, .bool false, .bool false, .bool false, .slice none 0 0, .string ⟨#[]⟩], .bool false]) ∧ Below W.heap.size W w') := fun W hO => reset_n (resA s) (.slice none 0 0) W (Rgs.nil W) (by show 0 ≤ _; omega) hO (.inr ⟨resA_may h, show hasV 4 4 = true by decide +kernel⟩)
  have HCK : Hid (∀ W, Ord W → Calls Tryd.prog 11 #[.agg #[.int .i64 s.dt, .int .i64 s.fr, .int .i64 s.ak, .int .i64 0, .int .i64 4, .int .i64 0, .int .i64 0, .int .i64 0, .int .i64 0, .int .i64 0, .int .i64 0, .bool false, .bool false, .bool false, .slice none 0 0, .string ⟨#[]⟩]] W fun e w' => e = .returned (.int .i64 0) ∧ Below W.heap.size W w') := fun W hO => by
    have := chk_s (resA s) (.slice none 0 0) W (Rgs.nil W) (by show 0 ≤ _; omega) hO
    rw [resA_may h] at this
    exact this
  have HRST : Hid (∀ W, Calls Tryd.prog 15 #[.agg #[.int .i64 s.dt, .int .i64 s.fr, .int .i64 s.ak, .int .i64 0, .int .i64 4, .int .i64 0, .int .i64 0, .int .i64 0, .int .i64 0, .int .i64 0, .int .i64 0, .bool false, .bool false, .bool false, .slice none 0 0, .string ⟨#[]⟩], .int .i64 4] W fun e w' => e = .returned (.bool true) ∧ Below W.heap.size W w') := fun W => has_t (resA s) (.slice none 0 0) 4 W (show hasV 4 4 = true by decide +kernel)
  have HRAC : Hid (∀ W, Calls Tryd.prog 15 #[.agg #[.int .i64 s.dt, .int .i64 s.fr, .int .i64 s.ak, .int .i64 0, .int .i64 4, .int .i64 0, .int .i64 0, .int .i64 0, .int .i64 0, .int .i64 0, .int .i64 0, .bool false, .bool false, .bool false, .slice none 0 0, .string ⟨#[]⟩], .int .i64 16] W fun e w' => e = .returned (.bool false) ∧ Below W.heap.size W w') := fun W => has_f (resA s) (.slice none 0 0) 16 W (show hasV 4 16 = false by decide +kernel)
  have hA := At.box w #[.int .i64 s.fr, .int .i64 s.dt, .int .i64 s.sq, .int .i64 s.ak, .int .i64 s.fl, .int .i64 s.wi, .int .i64 s.ur, .int .i64 s.o.m, .int .i64 s.o.c, .int .i64 s.o.t, .int .i64 s.o.ec, .bool s.o.sd, .bool s.o.ok, .bool s.o.sp, v, .string s.da] 28
  have hl := bel1 w (.cells #[.int .i64 s.fr, .int .i64 s.dt, .int .i64 s.sq, .int .i64 s.ak, .int .i64 s.fl, .int .i64 s.wi, .int .i64 s.ur, .int .i64 s.o.m, .int .i64 s.o.c, .int .i64 s.o.t, .int .i64 s.o.ec, .bool s.o.sd, .bool s.o.ok, .bool s.o.sp, v, .string s.da] 28)
  go_enter Tryd.func7, Tryd.ntmps7
  go_wp2_with fail
  refine (works_s _ (hG.later hl)).mono ?_
  rintro e w1 ⟨rfl, hb⟩
  replace hl := bt hl hb
  replace hA := hA.later hb
  clear hb
  go_wp2_with (refine wpList_loadG 28 _ (by rfl) (by rfl) (w.heap.size) 0 (by rfl) _ _ hA.range Tryd.underlying28 rfl size28 ?_)
  refine (reset_a s v _ (hv.later hl) hn (hG.later hl) h h4 h16).mono ?_
  rintro e w2 ⟨rfl, hb⟩
  have hX := At.box w2 #[.int .i64 s.dt, .int .i64 s.fr, .int .i64 s.ak, .int .i64 0, .int .i64 4, .int .i64 0, .int .i64 0, .int .i64 0, .int .i64 0, .int .i64 0, .int .i64 0, .bool false, .bool false, .bool false, .slice none 0 0, .string ⟨#[]⟩] 28
  have hbx := bel1 w2 (.cells #[.int .i64 s.dt, .int .i64 s.fr, .int .i64 s.ak, .int .i64 0, .int .i64 4, .int .i64 0, .int .i64 0, .int .i64 0, .int .i64 0, .int .i64 0, .int .i64 0, .bool false, .bool false, .bool false, .slice none 0 0, .string ⟨#[]⟩] 28)
  replace hl := bt (bt hl hb) hbx
  replace hA := hA.later (bt hb hbx)
  clear hb hbx
  go_upto_region 4 with fail
  generalize hw3 : w2.alloc (.cells #[.int .i64 s.dt, .int .i64 s.fr, .int .i64 s.ak, .int .i64 0, .int .i64 4, .int .i64 0, .int .i64 0, .int .i64 0, .int .i64 0, .int .i64 0, .int .i64 0, .bool false, .bool false, .bool false, .slice none 0 0, .string ⟨#[]⟩] 28) = w3 at *
  clear hw3
  go_wp2_with (refine wpList_loadG 28 _ (by rfl) (by rfl) (w2.heap.size) 0 (by rfl) _ _ hX.range Tryd.underlying28 rfl size28 ?_)
  refine (HRN.out _ (hG.later hl)).mono ?_
  rintro e w4 ⟨rfl, hb⟩
  replace hb := bt hb (bel1 w4 (.cells #[.int .i64 0, .int .i64 0, .int .i64 0, .int .i64 0, .int .i64 0, .int .i64 0, .int .i64 0, .int .i64 0, .int .i64 0, .int .i64 0, .int .i64 0, .bool false, .bool false, .bool false, .slice none 0 0, .string ⟨#[]⟩] 28))
  replace hl := bt hl hb
  replace hA := hA.later hb
  replace hX := hX.later hb
  clear hb
  go_upto_region 7 with fail
  generalize hw5 : w4.alloc (.cells #[.int .i64 0, .int .i64 0, .int .i64 0, .int .i64 0, .int .i64 0, .int .i64 0, .int .i64 0, .int .i64 0, .int .i64 0, .int .i64 0, .int .i64 0, .bool false, .bool false, .bool false, .slice none 0 0, .string ⟨#[]⟩] 28) = w5 at *
  clear hw5
  obtain ⟨⟨c0, c1, c2, c3, c4, c5, c6, c7, c8, c9, c10, c11, c12, c13, c14, c15⟩, -, -⟩ := hA.sixteen
  obtain ⟨⟨r0, r1, r2, r3, r4, r5, r6, r7, r8, r9, r10, r11, r12, r13, r14, r15⟩, -, -⟩ := hX.sixteen
  go_wp2_with (refine wpList_loadG 28 _ (by rfl) (by rfl) (w2.heap.size) 0 (by rfl) _ _ hX.range Tryd.underlying28 rfl size28 ?_)
  clear c0 c1 c2 c3 c4 c5 c6 c7 c8 c9 c10 c11 c12 c13 c14 c15 r0 r1 r2 r3 r4 r5 r6 r7 r8 r9 r10 r11 r12 r13 r14 r15
  refine (HCK.out _ (hG.later hl)).mono ?_
  rintro e w6 ⟨rfl, hb⟩
  replace hl := bt hl hb
  replace hA := hA.later hb
  replace hX := hX.later hb
  clear hb
  go_wp2_with (refine wpList_loadG 28 _ (by rfl) (by rfl) (w2.heap.size) 0 (by rfl) _ _ hX.range Tryd.underlying28 rfl size28 ?_)
  refine (HRST.out _).mono ?_
  rintro e w7 ⟨rfl, hb⟩
  replace hl := bt hl hb
  replace hA := hA.later hb
  replace hX := hX.later hb
  clear hb
  go_wp2_with (refine wpList_loadG 28 _ (by rfl) (by rfl) (w.heap.size) 0 (by rfl) _ _ hA.range Tryd.underlying28 rfl size28 ?_)
  refine (has_t s v 16 _ h16).mono ?_
  rintro e w8 ⟨rfl, hb⟩
  replace hl := bt hl hb
  replace hA := hA.later hb
  replace hX := hX.later hb
  clear hb
  obtain ⟨⟨c0, c1, c2, c3, c4, c5, c6, c7, c8, c9, c10, c11, c12, c13, c14, c15⟩, -, -⟩ := hA.sixteen
  obtain ⟨⟨r0, r1, r2, r3, r4, r5, r6, r7, r8, r9, r10, r11, r12, r13, r14, r15⟩, -, -⟩ := hX.sixteen
  go_wp2_with (refine wpList_loadG 28 _ (by rfl) (by rfl) (w2.heap.size) 0 (by rfl) _ _ hX.range Tryd.underlying28 rfl size28 ?_)
  refine (HRAC.out _).mono ?_
  rintro e w9 ⟨rfl, hb⟩
  go_wp2
  go_ret
  exact ⟨rfl, bt hl hb⟩
theorem keep2 {w W x : World} {p q : Nat} {A B : Array Value} (hb : Below W.heap.size W x) (h : Below w.heap.size w W ∧ At W p A ∧ At W q B) : Below w.heap.size w x ∧ At x p A ∧ At x q B := ⟨bt h.1 hb, h.2.1.later hb, h.2.2.later hb⟩
set_option maxHeartbeats 4000000 in
theorem walk_s (s : Sg) (v : Value) (w : World) (hG : Ord w) (hv : Rgs w v s.o.rs) (hn : s.o.rs.length ≤ 17592186044416) (h : mayG s = true) (h4 : hasV s.fl 4 = false) (h16 : hasV s.fl 16 = false) :
    Calls Tryd.prog 7 #[.agg #[.int .i64 s.fr, .int .i64 s.dt, .int .i64 s.sq, .int .i64 s.ak, .int .i64 s.fl, .int .i64 s.wi, .int .i64 s.ur, .int .i64 s.o.m, .int .i64 s.o.c, .int .i64 s.o.t, .int .i64 s.o.ec, .bool s.o.sd, .bool s.o.ok, .bool s.o.sp, v, .string s.da]] w fun e w' => e = .returned (.bool true) ∧ Below w.heap.size w w' := by
  obtain ⟨A, hAV⟩ : ∃ A, A = addV s.sq (lenG s) := ⟨_, rfl⟩
  have hSV : ∀ u : Value, (resS s).ak = A := fun _ => hAV.symm
  have HRS : Hid (∀ W, Rgs W v s.o.rs → Ord W → Calls Tryd.prog 21 #[.agg #[.int .i64 s.fr, .int .i64 s.dt, .int .i64 s.sq, .int .i64 s.ak, .int .i64 s.fl, .int .i64 s.wi, .int .i64 s.ur, .int .i64 s.o.m, .int .i64 s.o.c, .int .i64 s.o.t, .int .i64 s.o.ec, .bool s.o.sd, .bool s.o.ok, .bool s.o.sp, v, .string s.da]] W fun e w' => e = .returned (.tuple #[.agg #[.int .i64 s.dt, .int .i64 s.fr, .int .i64 0, .int .i64 A, .int .i64 20, .int .i64 0, .int .i64 0, .int .i64 0, .int .i64 0, .int .i64 0, .int .i64 0, .bool false, .bool false, .bool false, .slice none 0 0, .string ⟨#[]⟩], .bool true]) ∧ Below W.heap.size W w') := fun W h1 h2 => reset_s s v W h1 hn h2 h h4 h16 A hAV
  have hrm := resS_ack h
  obtain ⟨h1, h2, h3, -, -, -, h7⟩ := may_parts h
  have hlb := lenG_bd s h7
  have hnA := addV_num s.sq (lenG s)
  rw [← hAV] at hrm hnA
  have hA1 := numB_t hnA
  have hs1 := numB_t h3
  have HRN : Hid (∀ W, Ord W → Calls Tryd.prog 21 #[.agg #[.int .i64 s.dt, .int .i64 s.fr, .int .i64 0, .int .i64 A, .int .i64 20, .int .i64 0, .int .i64 0, .int .i64 0, .int .i64 0, .int .i64 0, .int .i64 0, .bool false, .bool false, .bool false, .slice none 0 0, .string ⟨#[]⟩]] W fun e w' => e = .returned (.tuple #[.agg #[.int .i64 0, .int .i64 0, .int .i64 0, .int .i64 0, .int .i64 0, .int .i64 0, .int .i64 0, .int .i64 0, .int .i64 0, .int .i64 0, .int .i64 0, .bool false, .bool false, .bool false, .slice none 0 0, .string ⟨#[]⟩], .bool false]) ∧ Below W.heap.size W w') := fun W hO => by
    have := reset_n (resS s) (.slice none 0 0) W (Rgs.nil W) (by show 0 ≤ _; omega) hO (.inr ⟨resS_may h, show hasV 20 4 = true by decide +kernel⟩)
    rw [hSV v] at this
    exact this
  have HCK : Hid (∀ W, Ord W → Calls Tryd.prog 11 #[.agg #[.int .i64 s.dt, .int .i64 s.fr, .int .i64 0, .int .i64 A, .int .i64 20, .int .i64 0, .int .i64 0, .int .i64 0, .int .i64 0, .int .i64 0, .int .i64 0, .bool false, .bool false, .bool false, .slice none 0 0, .string ⟨#[]⟩]] W fun e w' => e = .returned (.int .i64 0) ∧ Below W.heap.size W w') := fun W hO => by
    have := chk_s (resS s) (.slice none 0 0) W (Rgs.nil W) (by show 0 ≤ _; omega) hO
    rw [resS_may h, hSV v] at this
    exact this
  have HRST : Hid (∀ W, Calls Tryd.prog 15 #[.agg #[.int .i64 s.dt, .int .i64 s.fr, .int .i64 0, .int .i64 A, .int .i64 20, .int .i64 0, .int .i64 0, .int .i64 0, .int .i64 0, .int .i64 0, .int .i64 0, .bool false, .bool false, .bool false, .slice none 0 0, .string ⟨#[]⟩], .int .i64 4] W fun e w' => e = .returned (.bool true) ∧ Below W.heap.size W w') := fun W => by
    have := has_t (resS s) (.slice none 0 0) 4 W (show hasV 20 4 = true by decide +kernel)
    rw [hSV v] at this
    exact this
  have HRAC : Hid (∀ W, Calls Tryd.prog 15 #[.agg #[.int .i64 s.dt, .int .i64 s.fr, .int .i64 0, .int .i64 A, .int .i64 20, .int .i64 0, .int .i64 0, .int .i64 0, .int .i64 0, .int .i64 0, .int .i64 0, .bool false, .bool false, .bool false, .slice none 0 0, .string ⟨#[]⟩], .int .i64 16] W fun e w' => e = .returned (.bool true) ∧ Below W.heap.size W w') := fun W => by
    have := has_t (resS s) (.slice none 0 0) 16 W (show hasV 20 16 = true by decide +kernel)
    rw [hSV v] at this
    exact this
  have HLN0 := fun W => len_any s v W (by omega)
  clear hSV hnA
  generalize lenG s = LN at *
  have HLN : Hid (∀ W, Calls Tryd.prog 13 #[.agg #[.int .i64 s.fr, .int .i64 s.dt, .int .i64 s.sq, .int .i64 s.ak, .int .i64 s.fl, .int .i64 s.wi, .int .i64 s.ur, .int .i64 s.o.m, .int .i64 s.o.c, .int .i64 s.o.t, .int .i64 s.o.ec, .bool s.o.sd, .bool s.o.ok, .bool s.o.sp, v, .string s.da]] W fun e w' => e = .returned (.int .i64 LN) ∧ Below W.heap.size W w') := HLN0
  have HB : Hid ((0 ≤ A ∧ A ≤ 4294967295) ∧ (0 ≤ s.sq ∧ s.sq ≤ 4294967295) ∧ 0 ≤ LN ∧ LN ≤ 1482) := ⟨hA1, hs1, hlb⟩
  have HRM : Hid ((A - s.sq - LN).tmod 4294967296 = 0) := Int.tmod_eq_zero_of_dvd (Int.dvd_of_emod_eq_zero hrm)
  clear hrm hlb hA1 hs1 hAV HLN0 h1 h2 h3 h7 h
  have hA := At.box w #[.int .i64 s.fr, .int .i64 s.dt, .int .i64 s.sq, .int .i64 s.ak, .int .i64 s.fl, .int .i64 s.wi, .int .i64 s.ur, .int .i64 s.o.m, .int .i64 s.o.c, .int .i64 s.o.t, .int .i64 s.o.ec, .bool s.o.sd, .bool s.o.ok, .bool s.o.sp, v, .string s.da] 28
  have hl := bel1 w (.cells #[.int .i64 s.fr, .int .i64 s.dt, .int .i64 s.sq, .int .i64 s.ak, .int .i64 s.fl, .int .i64 s.wi, .int .i64 s.ur, .int .i64 s.o.m, .int .i64 s.o.c, .int .i64 s.o.t, .int .i64 s.o.ec, .bool s.o.sd, .bool s.o.ok, .bool s.o.sp, v, .string s.da] 28)
  go_enter Tryd.func7, Tryd.ntmps7
  go_wp2_with fail
  refine (works_s _ (hG.later hl)).mono ?_
  rintro e w1 ⟨rfl, hb⟩
  replace hl := bt hl hb
  replace hA := hA.later hb
  clear hb
  go_wp2_with (refine wpList_loadG 28 _ (by rfl) (by rfl) (w.heap.size) 0 (by rfl) _ _ hA.range Tryd.underlying28 rfl size28 ?_)
  refine (HRS.out _ (hv.later hl) (hG.later hl)).mono ?_
  rintro e w2 ⟨rfl, hb⟩
  have hX := At.box w2 #[.int .i64 s.dt, .int .i64 s.fr, .int .i64 0, .int .i64 A, .int .i64 20, .int .i64 0, .int .i64 0, .int .i64 0, .int .i64 0, .int .i64 0, .int .i64 0, .bool false, .bool false, .bool false, .slice none 0 0, .string ⟨#[]⟩] 28
  have hbx := bel1 w2 (.cells #[.int .i64 s.dt, .int .i64 s.fr, .int .i64 0, .int .i64 A, .int .i64 20, .int .i64 0, .int .i64 0, .int .i64 0, .int .i64 0, .int .i64 0, .int .i64 0, .bool false, .bool false, .bool false, .slice none 0 0, .string ⟨#[]⟩] 28)
  replace hl := bt (bt hl hb) hbx
  replace hA := hA.later (bt hb hbx)
  clear hb hbx
  go_upto_region 4 with fail
  generalize hw3 : w2.alloc (.cells #[.int .i64 s.dt, .int .i64 s.fr, .int .i64 0, .int .i64 A, .int .i64 20, .int .i64 0, .int .i64 0, .int .i64 0, .int .i64 0, .int .i64 0, .int .i64 0, .bool false, .bool false, .bool false, .slice none 0 0, .string ⟨#[]⟩] 28) = w3 at *
  clear hw3
  go_wp2_with (refine wpList_loadG 28 _ (by rfl) (by rfl) (w2.heap.size) 0 (by rfl) _ _ hX.range Tryd.underlying28 rfl size28 ?_)
  refine (HRN.out _ (hG.later hl)).mono ?_
  rintro e w4 ⟨rfl, hb⟩
  replace hb := bt hb (bel1 w4 (.cells #[.int .i64 0, .int .i64 0, .int .i64 0, .int .i64 0, .int .i64 0, .int .i64 0, .int .i64 0, .int .i64 0, .int .i64 0, .int .i64 0, .int .i64 0, .bool false, .bool false, .bool false, .slice none 0 0, .string ⟨#[]⟩] 28))
  replace hl := bt hl hb
  replace hA := hA.later hb
  replace hX := hX.later hb
  clear hb
  go_upto_region 7 with fail
  generalize hw5 : w4.alloc (.cells #[.int .i64 0, .int .i64 0, .int .i64 0, .int .i64 0, .int .i64 0, .int .i64 0, .int .i64 0, .int .i64 0, .int .i64 0, .int .i64 0, .int .i64 0, .bool false, .bool false, .bool false, .slice none 0 0, .string ⟨#[]⟩] 28) = w5 at *
  clear hw5
  obtain ⟨⟨c0, c1, c2, c3, c4, c5, c6, c7, c8, c9, c10, c11, c12, c13, c14, c15⟩, -, -⟩ := hA.sixteen
  obtain ⟨⟨r0, r1, r2, r3, r4, r5, r6, r7, r8, r9, r10, r11, r12, r13, r14, r15⟩, -, -⟩ := hX.sixteen
  go_wp2_with (refine wpList_loadG 28 _ (by rfl) (by rfl) (w2.heap.size) 0 (by rfl) _ _ hX.range Tryd.underlying28 rfl size28 ?_)
  clear c0 c1 c2 c3 c4 c5 c6 c7 c8 c9 c10 c11 c12 c13 c14 c15 r0 r1 r2 r3 r4 r5 r6 r7 r8 r9 r10 r11 r12 r13 r14 r15
  refine (HCK.out _ (hG.later hl)).mono ?_
  rintro e w6 ⟨rfl, hb⟩
  replace hl := bt hl hb
  replace hA := hA.later hb
  replace hX := hX.later hb
  clear hb
  go_wp2_with (refine wpList_loadG 28 _ (by rfl) (by rfl) (w2.heap.size) 0 (by rfl) _ _ hX.range Tryd.underlying28 rfl size28 ?_)
  refine (HRST.out _).mono ?_
  rintro e w7 ⟨rfl, hb⟩
  replace hl := bt hl hb
  replace hA := hA.later hb
  replace hX := hX.later hb
  clear hb
  go_upto_region 8 with fail
  go_cut [61] from 8 (fun q W => q = .bool false ∧ Below w.heap.size w W ∧ At W w.heap.size #[.int .i64 s.fr, .int .i64 s.dt, .int .i64 s.sq, .int .i64 s.ak, .int .i64 s.fl, .int .i64 s.wi, .int .i64 s.ur, .int .i64 s.o.m, .int .i64 s.o.c, .int .i64 s.o.t, .int .i64 s.o.ec, .bool s.o.sd, .bool s.o.ok, .bool s.o.sp, v, .string s.da] ∧ At W w2.heap.size #[.int .i64 s.dt, .int .i64 s.fr, .int .i64 0, .int .i64 A, .int .i64 20, .int .i64 0, .int .i64 0, .int .i64 0, .int .i64 0, .int .i64 0, .int .i64 0, .bool false, .bool false, .bool false, .slice none 0 0, .string ⟨#[]⟩])
  case first =>
    clear HLN HB HRM HRAC HRN HCK HRST HRS
    go_wp2_with (refine wpList_loadG 28 _ (by rfl) (by rfl) (w.heap.size) 0 (by rfl) _ _ hA.range Tryd.underlying28 rfl size28 ?_)
    refine (has_f s v 16 _ h16).mono ?_
    rintro e w8 ⟨rfl, hb⟩
    go_wp2
    go_meet
    case rel => exact ⟨rfl, bt hl hb, hA.later hb, hX.later hb⟩
  case rest =>
  clear hl hA hX HRN HCK HRST HRS
  obtain ⟨rfl, hcc⟩ := hcut
  go_wp2
  refine wp_region_any (by kernel_rfl) ?_
  refine region_facts (fun W => Below w.heap.size w W ∧ At W w.heap.size #[.int .i64 s.fr, .int .i64 s.dt, .int .i64 s.sq, .int .i64 s.ak, .int .i64 s.fl, .int .i64 s.wi, .int .i64 s.ur, .int .i64 s.o.m, .int .i64 s.o.c, .int .i64 s.o.t, .int .i64 s.o.ec, .bool s.o.sd, .bool s.o.ok, .bool s.o.sp, v, .string s.da] ∧ At W w2.heap.size #[.int .i64 s.dt, .int .i64 s.fr, .int .i64 0, .int .i64 A, .int .i64 20, .int .i64 0, .int .i64 0, .int .i64 0, .int .i64 0, .int .i64 0, .int .i64 0, .bool false, .bool false, .bool false, .slice none 0 0, .string ⟨#[]⟩]) (GE (fun qq => match qq with | 0 => .bool false | 1 => .bool true | 2 => .bool true | 3 => .bool true | 4 => .bool true | 5 => .bool true | 6 => .pointer (some ⟨w2.heap.size, 2, none⟩) | 7 => .int .i64 0 | 8 => .bool true | 9 => .bool true | 10 => .bool true | 11 => .agg #[.int .i64 s.dt, .int .i64 s.fr, .int .i64 0, .int .i64 A, .int .i64 20, .int .i64 0, .int .i64 0, .int .i64 0, .int .i64 0, .int .i64 0, .int .i64 0, .bool false, .bool false, .bool false, .slice none 0 0, .string ⟨#[]⟩] | 12 => .bool true | 13 => .bool true | 14 => .bool true | 15 => .pointer (some ⟨w2.heap.size, 3, none⟩) | 16 => .int .i64 A | 17 => .pointer (some ⟨w.heap.size, 2, none⟩) | 18 => .int .i64 s.sq | 19 => .int .i64 (A - s.sq) | 20 => .agg #[.int .i64 s.fr, .int .i64 s.dt, .int .i64 s.sq, .int .i64 s.ak, .int .i64 s.fl, .int .i64 s.wi, .int .i64 s.ur, .int .i64 s.o.m, .int .i64 s.o.c, .int .i64 s.o.t, .int .i64 s.o.ec, .bool s.o.sd, .bool s.o.ok, .bool s.o.sp, v, .string s.da] | 21 => .int .i64 LN | 22 => .int .i64 (A - s.sq - LN) | 23 => .int .i64 0 | 24 => .bool true | 25 => .bool true | 26 => .bool true | _ => undef) (fun _ => none)) (n := 105) (by kernel_rfl) rfl (by kernel_rfl) (GE_later _ _ (fun _ _ h => by cases h)) ?_ ?_ (keep2 ((Below.refl _ _).drew) hcc) (Nat.le_refl _)
  · skip
    refine ⟨?_, ?_, ?_, ?_, ?_, ?_, ?_, ?_, ?_, ?_, ?_, ?_, ?_, ?_, ?_, ?_, ?_, ?_, ?_, ?_, ?_, ?_, ?_, ?_, ?_, ?_, ?_, trivial⟩
    · intro ac w1 hS hT hB hD K hK
      rw [if_pos (by rfl)]
      have d6 : ac.tmps.getD 6 undef = .bool false := hB 6 (by kernel_rfl)
      clear hB hD hT
      go_simp
      exact hK _ _ hS (Below.refl _ _) rfl
    · intro ac w1 hS hT hB hD K hK
      rw [if_pos (by rfl)]
      have d79 : ac.tmps.getD 79 undef = .bool false := hD ⟨0, .data⟩ (by simp) rfl _ 79 rfl rfl
      clear hB hD hT
      go_simp
      exact hK _ _ hS (Below.refl _ _) rfl
    · intro ac w1 hS hT hB hD K hK
      rw [if_pos (by rfl)]
      have d80 : ac.tmps.getD 80 undef = .bool true := hD ⟨1, .data⟩ (by simp) rfl _ 80 rfl rfl
      clear hB hD hT
      go_simp
      exact hK _ _ hS (Below.refl _ _) rfl
    · intro ac w1 hS hT hB hD K hK
      have g81 : ac.tmps.getD 81 undef = .bool true := hD ⟨2, .guard⟩ (by simp) rfl _ 81 rfl rfl
      rw [if_pos (want_t (j := 2) (d := 81) rfl rfl g81)]
      clear g81
      have d7 : ac.tmps.getD 7 undef = .bool true := hB 7 (by kernel_rfl)
      clear hB hD hT
      go_simp
      exact hK _ _ hS (Below.refl _ _) rfl
    · intro ac w1 hS hT hB hD K hK
      rw [if_pos (by rfl)]
      have d81 : ac.tmps.getD 81 undef = .bool true := hD ⟨2, .data⟩ (by simp) rfl _ 81 rfl rfl
      have d82 : ac.tmps.getD 82 undef = .bool true := hD ⟨3, .data⟩ (by simp) rfl _ 82 rfl rfl
      clear hB hD hT
      go_simp
      exact hK _ _ hS (Below.refl _ _) rfl
    · intro ac w1 hS hT hB hD K hK
      rw [if_pos (by rfl)]
      have d83 : ac.tmps.getD 83 undef = .bool true := hD ⟨4, .data⟩ (by simp) rfl _ 83 rfl rfl
      clear hB hD hT
      go_simp
      exact hK _ _ hS (Below.refl _ _) rfl
    · intro ac w1 hS hT hB hD K hK
      have g84 : ac.tmps.getD 84 undef = .bool true := hD ⟨5, .guard⟩ (by simp) rfl _ 84 rfl rfl
      rw [if_pos (want_t (j := 5) (d := 84) rfl rfl g84)]
      clear g84
      have d3 : ac.tmps.getD 3 undef = .pointer (some ⟨w2.heap.size, 0, none⟩) := hB 3 (by kernel_rfl)
      clear hB hD hT
      go_simp
      exact hK _ _ hS (Below.refl _ _) rfl
    · intro ac w1 hS hT hB hD K hK
      have g84 : ac.tmps.getD 84 undef = .bool true := hD ⟨5, .guard⟩ (by simp) rfl _ 84 rfl rfl
      rw [if_pos (want_t (j := 5) (d := 84) rfl rfl g84)]
      clear g84
      have d85 : ac.tmps.getD 85 undef = .pointer (some ⟨w2.heap.size, 2, none⟩) := hD ⟨6, .data⟩ (by simp) rfl _ 85 rfl rfl
      clear hB hD hT
      have hc := hS.2.2.sixteen.1
      go_simp
      exact hK _ _ hS (Below.refl _ _) rfl
    · intro ac w1 hS hT hB hD K hK
      have g84 : ac.tmps.getD 84 undef = .bool true := hD ⟨5, .guard⟩ (by simp) rfl _ 84 rfl rfl
      rw [if_pos (want_t (j := 5) (d := 84) rfl rfl g84)]
      clear g84
      have d86 : ac.tmps.getD 86 undef = .int .i64 0 := hD ⟨7, .data⟩ (by simp) rfl _ 86 rfl rfl
      clear hB hD hT
      go_simp
      exact hK _ _ hS (Below.refl _ _) rfl
    · intro ac w1 hS hT hB hD K hK
      rw [if_pos (by rfl)]
      have d84 : ac.tmps.getD 84 undef = .bool true := hD ⟨5, .data⟩ (by simp) rfl _ 84 rfl rfl
      have d87 : ac.tmps.getD 87 undef = .bool true := hD ⟨8, .data⟩ (by simp) rfl _ 87 rfl rfl
      clear hB hD hT
      go_simp
      exact hK _ _ hS (Below.refl _ _) rfl
    · intro ac w1 hS hT hB hD K hK
      rw [if_pos (by rfl)]
      have d88 : ac.tmps.getD 88 undef = .bool true := hD ⟨9, .data⟩ (by simp) rfl _ 88 rfl rfl
      clear hB hD hT
      go_simp
      exact hK _ _ hS (Below.refl _ _) rfl
    · intro ac w1 hS hT hB hD K hK
      have g89 : ac.tmps.getD 89 undef = .bool true := hD ⟨10, .guard⟩ (by simp) rfl _ 89 rfl rfl
      rw [if_pos (want_t (j := 10) (d := 89) rfl rfl g89)]
      clear g89
      have d3 : ac.tmps.getD 3 undef = .pointer (some ⟨w2.heap.size, 0, none⟩) := hB 3 (by kernel_rfl)
      clear hB hD hT
      exact wp_load_mid 28 (.tmp 3) rfl (w2.heap.size) 0 d3 _ _ hS.2.2.range Tryd.underlying28 rfl size28 (hK _ _ hS (Below.refl _ _) rfl)
    · intro ac w1 hS hT hB hD K hK
      have g89 : ac.tmps.getD 89 undef = .bool true := hD ⟨10, .guard⟩ (by simp) rfl _ 89 rfl rfl
      rw [if_pos (want_t (j := 10) (d := 89) rfl rfl g89)]
      clear g89
      have d90 : ac.tmps.getD 90 undef = .agg #[.int .i64 s.dt, .int .i64 s.fr, .int .i64 0, .int .i64 A, .int .i64 20, .int .i64 0, .int .i64 0, .int .i64 0, .int .i64 0, .int .i64 0, .int .i64 0, .bool false, .bool false, .bool false, .slice none 0 0, .string ⟨#[]⟩] := hD ⟨11, .data⟩ (by simp) rfl _ 90 rfl rfl
      clear hB hD hT
      go_simp
      refine (HRAC.out _).mono ?_
      rintro e w' ⟨rfl, hb⟩
      exact hK _ _ (keep2 hb hS) hb rfl
    · intro ac w1 hS hT hB hD K hK
      rw [if_pos (by rfl)]
      have d89 : ac.tmps.getD 89 undef = .bool true := hD ⟨10, .data⟩ (by simp) rfl _ 89 rfl rfl
      have d91 : ac.tmps.getD 91 undef = .bool true := hD ⟨12, .data⟩ (by simp) rfl _ 91 rfl rfl
      clear hB hD hT
      go_simp
      exact hK _ _ hS (Below.refl _ _) rfl
    · intro ac w1 hS hT hB hD K hK
      rw [if_pos (by rfl)]
      have d92 : ac.tmps.getD 92 undef = .bool true := hD ⟨13, .data⟩ (by simp) rfl _ 92 rfl rfl
      clear hB hD hT
      go_simp
      exact hK _ _ hS (Below.refl _ _) rfl
    · intro ac w1 hS hT hB hD K hK
      have g93 : ac.tmps.getD 93 undef = .bool true := hD ⟨14, .guard⟩ (by simp) rfl _ 93 rfl rfl
      rw [if_pos (want_t (j := 14) (d := 93) rfl rfl g93)]
      clear g93
      have d3 : ac.tmps.getD 3 undef = .pointer (some ⟨w2.heap.size, 0, none⟩) := hB 3 (by kernel_rfl)
      clear hB hD hT
      go_simp
      exact hK _ _ hS (Below.refl _ _) rfl
    · intro ac w1 hS hT hB hD K hK
      have g93 : ac.tmps.getD 93 undef = .bool true := hD ⟨14, .guard⟩ (by simp) rfl _ 93 rfl rfl
      rw [if_pos (want_t (j := 14) (d := 93) rfl rfl g93)]
      clear g93
      have d94 : ac.tmps.getD 94 undef = .pointer (some ⟨w2.heap.size, 3, none⟩) := hD ⟨15, .data⟩ (by simp) rfl _ 94 rfl rfl
      clear hB hD hT
      have hc := hS.2.2.sixteen.1
      go_simp
      exact hK _ _ hS (Below.refl _ _) rfl
    · intro ac w1 hS hT hB hD K hK
      have g93 : ac.tmps.getD 93 undef = .bool true := hD ⟨14, .guard⟩ (by simp) rfl _ 93 rfl rfl
      rw [if_pos (want_t (j := 14) (d := 93) rfl rfl g93)]
      clear g93
      have d1 : ac.tmps.getD 1 undef = .pointer (some ⟨w.heap.size, 0, none⟩) := hB 1 (by kernel_rfl)
      clear hB hD hT
      go_simp
      exact hK _ _ hS (Below.refl _ _) rfl
    · intro ac w1 hS hT hB hD K hK
      have g93 : ac.tmps.getD 93 undef = .bool true := hD ⟨14, .guard⟩ (by simp) rfl _ 93 rfl rfl
      rw [if_pos (want_t (j := 14) (d := 93) rfl rfl g93)]
      clear g93
      have d96 : ac.tmps.getD 96 undef = .pointer (some ⟨w.heap.size, 2, none⟩) := hD ⟨17, .data⟩ (by simp) rfl _ 96 rfl rfl
      clear hB hD hT
      have hc := hS.2.1.sixteen.1
      go_simp
      exact hK _ _ hS (Below.refl _ _) rfl
    · intro ac w1 hS hT hB hD K hK
      have g93 : ac.tmps.getD 93 undef = .bool true := hD ⟨14, .guard⟩ (by simp) rfl _ 93 rfl rfl
      rw [if_pos (want_t (j := 14) (d := 93) rfl rfl g93)]
      clear g93
      have d95 : ac.tmps.getD 95 undef = .int .i64 A := hD ⟨16, .data⟩ (by simp) rfl _ 95 rfl rfl
      have d97 : ac.tmps.getD 97 undef = .int .i64 s.sq := hD ⟨18, .data⟩ (by simp) rfl _ 97 rfl rfl
      clear hB hD hT
      have hw1 : IntKind.i64.wrap (A - s.sq) = A - s.sq := by rw [IntKind.wrap_i64]; have := HB.out; omega
      go_simp
      exact hK _ _ hS (Below.refl _ _) rfl
    · intro ac w1 hS hT hB hD K hK
      have g93 : ac.tmps.getD 93 undef = .bool true := hD ⟨14, .guard⟩ (by simp) rfl _ 93 rfl rfl
      rw [if_pos (want_t (j := 14) (d := 93) rfl rfl g93)]
      clear g93
      have d1 : ac.tmps.getD 1 undef = .pointer (some ⟨w.heap.size, 0, none⟩) := hB 1 (by kernel_rfl)
      clear hB hD hT
      exact wp_load_mid 28 (.tmp 1) rfl (w.heap.size) 0 d1 _ _ hS.2.1.range Tryd.underlying28 rfl size28 (hK _ _ hS (Below.refl _ _) rfl)
    · intro ac w1 hS hT hB hD K hK
      have g93 : ac.tmps.getD 93 undef = .bool true := hD ⟨14, .guard⟩ (by simp) rfl _ 93 rfl rfl
      rw [if_pos (want_t (j := 14) (d := 93) rfl rfl g93)]
      clear g93
      have d99 : ac.tmps.getD 99 undef = .agg #[.int .i64 s.fr, .int .i64 s.dt, .int .i64 s.sq, .int .i64 s.ak, .int .i64 s.fl, .int .i64 s.wi, .int .i64 s.ur, .int .i64 s.o.m, .int .i64 s.o.c, .int .i64 s.o.t, .int .i64 s.o.ec, .bool s.o.sd, .bool s.o.ok, .bool s.o.sp, v, .string s.da] := hD ⟨20, .data⟩ (by simp) rfl _ 99 rfl rfl
      clear hB hD hT
      go_simp
      refine (HLN.out _).mono ?_
      rintro e w' ⟨rfl, hb⟩
      exact hK _ _ (keep2 hb hS) hb rfl
    · intro ac w1 hS hT hB hD K hK
      have g93 : ac.tmps.getD 93 undef = .bool true := hD ⟨14, .guard⟩ (by simp) rfl _ 93 rfl rfl
      rw [if_pos (want_t (j := 14) (d := 93) rfl rfl g93)]
      clear g93
      have d98 : ac.tmps.getD 98 undef = .int .i64 (A - s.sq) := hD ⟨19, .data⟩ (by simp) rfl _ 98 rfl rfl
      have d100 : ac.tmps.getD 100 undef = .int .i64 LN := hD ⟨21, .data⟩ (by simp) rfl _ 100 rfl rfl
      clear hB hD hT
      have hw1 : IntKind.i64.wrap (A - s.sq - LN) = A - s.sq - LN := by rw [IntKind.wrap_i64]; have := HB.out; omega
      go_simp
      exact hK _ _ hS (Below.refl _ _) rfl
    · intro ac w1 hS hT hB hD K hK
      have g93 : ac.tmps.getD 93 undef = .bool true := hD ⟨14, .guard⟩ (by simp) rfl _ 93 rfl rfl
      rw [if_pos (want_t (j := 14) (d := 93) rfl rfl g93)]
      clear g93
      have d101 : ac.tmps.getD 101 undef = .int .i64 (A - s.sq - LN) := hD ⟨22, .data⟩ (by simp) rfl _ 101 rfl rfl
      clear hB hD hT
      have hq := HRM.out
      go_simp
      exact hK _ _ hS (Below.refl _ _) rfl
    · intro ac w1 hS hT hB hD K hK
      have g93 : ac.tmps.getD 93 undef = .bool true := hD ⟨14, .guard⟩ (by simp) rfl _ 93 rfl rfl
      rw [if_pos (want_t (j := 14) (d := 93) rfl rfl g93)]
      clear g93
      have d102 : ac.tmps.getD 102 undef = .int .i64 0 := hD ⟨23, .data⟩ (by simp) rfl _ 102 rfl rfl
      clear hB hD hT
      go_simp
      exact hK _ _ hS (Below.refl _ _) rfl
    · intro ac w1 hS hT hB hD K hK
      rw [if_pos (by rfl)]
      have d93 : ac.tmps.getD 93 undef = .bool true := hD ⟨14, .data⟩ (by simp) rfl _ 93 rfl rfl
      have d103 : ac.tmps.getD 103 undef = .bool true := hD ⟨24, .data⟩ (by simp) rfl _ 103 rfl rfl
      clear hB hD hT
      go_simp
      exact hK _ _ hS (Below.refl _ _) rfl
    · intro ac w1 hS hT hB hD K hK
      rw [if_pos (by rfl)]
      have d104 : ac.tmps.getD 104 undef = .bool true := hD ⟨25, .data⟩ (by simp) rfl _ 104 rfl rfl
      clear hB hD hT
      go_simp
      exact hK _ _ hS (Below.refl _ _) rfl
  · clear HLN HB HRM HRAC
    intro ac w9 hS hT hdf hB hF
    have hfr : ac.tmps = #[.agg #[.int .i64 s.fr, .int .i64 s.dt, .int .i64 s.sq, .int .i64 s.ak, .int .i64 s.fl, .int .i64 s.wi, .int .i64 s.ur, .int .i64 s.o.m, .int .i64 s.o.c, .int .i64 s.o.t, .int .i64 s.o.ec, .bool s.o.sd, .bool s.o.ok, .bool s.o.sp, v, .string s.da], .pointer (some ⟨w.heap.size, 0, none⟩), (ac.tmps.getD 2 undef), .pointer (some ⟨w2.heap.size, 0, none⟩), .bool true, .pointer (some ⟨w4.heap.size, 0, none⟩), .bool false, .bool true, u8, u9, u10, u11, u12, u13, u14, u15, u16, u17, u18, u19, u20, u21, u22, u23, u24, u25, u26, u27, u28, u29, u30, u31, u32, u33, u34, u35, u36, u37, u38, u39, u40, u41, u42, u43, u44, u45, u46, u47, u48, u49, u50, u51, u52, u53, u54, u55, u56, u57, u58, u59, u60, .bool false, u62, u63, u64, u65, u66, u67, u68, u69, u70, u71, u72, u73, u74, u75, u76, u77, u78, (ac.tmps.getD 79 undef), (ac.tmps.getD 80 undef), (ac.tmps.getD 81 undef), (ac.tmps.getD 82 undef), (ac.tmps.getD 83 undef), (ac.tmps.getD 84 undef), (ac.tmps.getD 85 undef), (ac.tmps.getD 86 undef), (ac.tmps.getD 87 undef), (ac.tmps.getD 88 undef), (ac.tmps.getD 89 undef), (ac.tmps.getD 90 undef), (ac.tmps.getD 91 undef), (ac.tmps.getD 92 undef), (ac.tmps.getD 93 undef), (ac.tmps.getD 94 undef), (ac.tmps.getD 95 undef), (ac.tmps.getD 96 undef), (ac.tmps.getD 97 undef), (ac.tmps.getD 98 undef), (ac.tmps.getD 99 undef), (ac.tmps.getD 100 undef), (ac.tmps.getD 101 undef), (ac.tmps.getD 102 undef), (ac.tmps.getD 103 undef), (ac.tmps.getD 104 undef)] := (frame_eq hT rfl hB).trans (by kernel_rfl)
    obtain ⟨T, df⟩ := ac
    have s2 : T.getD 2 undef = .bool true := hF 26 _ 2 rfl rfl
    have sdf : df = [] := hdf
    simp only at hfr
    clear hB hF hT hdf
    generalize T.getD 79 undef = y79 at *
    generalize T.getD 80 undef = y80 at *
    generalize T.getD 81 undef = y81 at *
    generalize T.getD 82 undef = y82 at *
    generalize T.getD 83 undef = y83 at *
    generalize T.getD 84 undef = y84 at *
    generalize T.getD 85 undef = y85 at *
    generalize T.getD 86 undef = y86 at *
    generalize T.getD 87 undef = y87 at *
    generalize T.getD 88 undef = y88 at *
    generalize T.getD 89 undef = y89 at *
    generalize T.getD 90 undef = y90 at *
    generalize T.getD 91 undef = y91 at *
    generalize T.getD 92 undef = y92 at *
    generalize T.getD 93 undef = y93 at *
    generalize T.getD 94 undef = y94 at *
    generalize T.getD 95 undef = y95 at *
    generalize T.getD 96 undef = y96 at *
    generalize T.getD 97 undef = y97 at *
    generalize T.getD 98 undef = y98 at *
    generalize T.getD 99 undef = y99 at *
    generalize T.getD 100 undef = y100 at *
    generalize T.getD 101 undef = y101 at *
    generalize T.getD 102 undef = y102 at *
    generalize T.getD 103 undef = y103 at *
    generalize T.getD 104 undef = y104 at *
    generalize T.getD 2 undef = y2 at *
    subst hfr s2 sdf
    go_wp2
    go_ret
    exact ⟨rfl, hS.1⟩
theorem walk (s : Sg) (v : Value) (w : World) (hG : Ord w) (hv : Rgs w v s.o.rs) (hz : s.o.rs.length * 16 ≤ 140737488351232) (hd : s.da.size ≤ 140737488351232) :
    Calls Tryd.prog 7 #[.agg #[.int .i64 s.fr, .int .i64 s.dt, .int .i64 s.sq, .int .i64 s.ak, .int .i64 s.fl, .int .i64 s.wi, .int .i64 s.ur, .int .i64 s.o.m, .int .i64 s.o.c, .int .i64 s.o.t, .int .i64 s.o.ec, .bool s.o.sd, .bool s.o.ok, .bool s.o.sp, v, .string s.da]] w fun e w' => e = .returned (.bool true) ∧ Below w.heap.size w w' := by
  have hn : s.o.rs.length ≤ 17592186044416 := by omega
  rcases Bool.eq_false_or_eq_true (mayG s) with h | h
  · rcases Bool.eq_false_or_eq_true (hasV s.fl 4) with h4 | h4
    · exact walk_n s v w hG hv hn (.inr ⟨h, h4⟩)
    · rcases Bool.eq_false_or_eq_true (hasV s.fl 16) with h16 | h16
      · exact walk_a s v w hG hv hn h h4 h16
      · exact walk_s s v w hG hv hn h h4 h16
  · exact walk_n s v w hG hv hn (.inl h)

theorem lifted (os : Os) (started : os.Started) (H : Type) (enc : TypeId × Value → H) :
    ReturnsInHanded {} Tryd.checked os 7 .any (fun w args => (Rows.segResetsSpec.pre enc Tryd.prog Tryd.f7 [] false w args ∧ laidMetH Tryd.prog laidL w) ∧ sizedMet enc Tryd.prog Tryd.f7 (OpenSpec.ofChange Rows.segResetsSpec) false w args)
      (Rows.segResetsSpec.post enc Tryd.prog Tryd.f7 false true false false) := by
  refine returnsInHanded_of_change_and (C := Tryd.checked) (X := fun w _ => laidMetH Tryd.prog laidL w) (fun _ _ _ hh h => h.of_heap hh) ownK started (by kernel_rfl) Tryd.func7
    (ChangeSpec.witness_shaped (enc := enc) (C := Tryd.checked) (os := os) (X := fun w _ => laidMetH Tryd.prog laidL w) false (World.doorLaid Tryd.prog 400 os) #[.agg #[.int .i64 0, .int .i64 0, .int .i64 0, .int .i64 0, .int .i64 0, .int .i64 0, .int .i64 0, .int .i64 0, .int .i64 0, .int .i64 0, .int .i64 0, .bool false, .bool false, .bool false, .slice none 0 0, .string ByteArray.empty]] 8 rfl (World.shaped_of_RefB (by kernel_rfl) (by kernel_rfl)) (by kernel_rfl) (by kernel_rfl) (by kernel_rfl) (door_met os _)) ?_
  intro W base args ds gs before hval0 hW hcnd hsz0 hL _
  have hG := ord_of hL
  have hsz : (DataW.weightsEach Tryd.prog (Tryd.f7.params.toList ++ Rows.segResetsSpec.plain.varTypes Tryd.prog) (ds ++ gs)).all (· ≤ reachBytes) = true := hsz0
  have hval : ∀ (j : Nat) t v, Tryd.f7.params[j]? = some t → args[j]? = some v → Value.okWide Tryd.prog W .any base t v := hval0
  have hW' := hW
  obtain ⟨p, q, hA0, hV, rfl, hfz, hnd⟩ := hW
  have hA : DataW.TrodAll enc Tryd.prog W 0 (fun _ => true) true Tryd.f7.params.toList args.toList ds p := hA0
  rw [Tryd.params7] at hA hval hsz
  obtain ⟨v0, vs0, d0, ds0, p0, q0, hargs, rfl, rfl, h0, r0⟩ := trodAll_cons hA
  obtain ⟨rfl, rfl, rfl⟩ := trodAll_nil r0
  obtain rfl : args = #[v0] := by cases args; simp_all
  obtain ⟨rfl, rfl⟩ := trodVars_none hV
  have k0 := h0
  have lt0 : ∀ x ∈ p0, x.block < W.heap.size := by obtain ⟨m, hm⟩ := k0; exact DataW.trod_lt m _ _ _ hm
  obtain ⟨s0, u0, parts0, oparts0, rfl, hdp0, hp7_0, hp8_0, hr0, hw0⟩ := open28 (hval 0 28 v0 rfl rfl) h0
  have z0 := sized_28 hsz (j := 0) rfl (by rw [hdp0]; rfl) hp7_0 hp8_0 hw0
  clear hA0 hval0
  refine (walk s0 u0 W hG hr0 z0.1 z0.2).mono fun e W' ⟨he, bel⟩ => ?_
  subst he
  exact ⟨_, rfl, _, _, _, [], _, [], hW', trodAll_mk1 (shut_bool Tryd.underlying4 _), (trodAll_cons_mk (Below.trod laidOutK (by kernel_rfl) (of_decide_eq_true (by kernel_rfl)) k0 bel lt0) trodAll_mk0), rfl, bel.frame _, fun h => by cases h⟩

theorem over : Rows.segResetsRow.holds Tryd.pinned (OpenSpec.ofChange Rows.segResetsSpec) :=
  OpenClaim.holds_of_wide 7 Tryd.f7 rfl rfl rfl rfl rfl rfl rfl ⟨rfl, rfl, rfl, rfl, rfl⟩ rfl rfl rfl rfl rfl (by kernel_rfl) Tryd.func7 (by kernel_rfl)
    (of_decide_eq_true (by kernel_rfl)) (by unfold Func.isWrapper; first | (rw [if_pos (by decide +kernel)]; kernel_rfl) | (rw [if_neg (by decide +kernel)]; exact ⟨rfl, rfl⟩))
    (fun os started H enc _ => lifted os started H enc)

end Go.Proofs.YtecoknenkjgmjabDoor.segResets
namespace Go.Proofs.YtecoknenkjgmjabDoor
open Go
theorem segResets_card_holds : Rows.SegResetsCardSaid :=
  Claim7.holds_tied_plain_at .later [] [.data] true (true, "7a383cbcafb2e437da8d427f08dd0d5acda387abc0a856b5ba63ec94711a83ec") false
    segResets.over (fun _ h => by cases h) (by kernel_rfl) (fun _ h => by cases h) segResets_row_tie rfl ⟨rfl, rfl⟩ (by kernel_rfl) rfl
    (fun f fn hf hfn => by
      obtain rfl : f = 7 := Option.some.inj ((show Tryd.prog.funcNamed "sternpost/sternpostlaw08.SegResets" = some 7 by kernel_rfl).symm.trans hf) |>.symm
      obtain rfl : fn = Tryd.f7 := (Option.some.inj (Tryd.func7.symm.trans hfn)).symm
      exact ⟨by kernel_rfl, fun j t ht => by
        rw [Tryd.params7] at ht
        have hm : t ∈ [28] := by simpa using Array.mem_of_getElem? ht
        have hall : ([28].all fun u => !Tryd.prog.wantsStandIn u) = true := by kernel_rfl
        exact (show Tryd.prog.wantsStandIn t = false by simpa using List.all_eq_true.1 hall t hm)⟩)
    (by kernel_rfl)
end Go.Proofs.YtecoknenkjgmjabDoor
