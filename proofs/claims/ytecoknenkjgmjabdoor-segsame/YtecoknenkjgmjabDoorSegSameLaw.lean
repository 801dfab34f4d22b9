/- For all two segments: Same answers as the document's, and Reset of the first as the document's; and what came in reads as it did. Conditions: the card's own alone (the order of the kinds is what the program's text lays). -/
import Derived.Test.YtecoknenkjgmjabDoorSf
import Derived.Test.YtecoknenkjgmjabDoorSh
import Derived.Test.YtecoknenkjgmjabDoorSi
import Derived.Deep.Cut
import Derived.Deep.QuietTactic
import Derived.BigQuiet
import Derived.WalkSmall
import Derived.Test.YtecoknenkjgmjabDoorFs
import Derived.Test.YtecoknenkjgmjabDoorTie
import Derived.Test.YtecoknenkjgmjabDoorCards
import Derived.SevenTiedAt
import Derived.Stop.Joined
namespace Go.Proofs.YtecoknenkjgmjabDoor.segSame
open Go.ChangeShapes Go.WideShapes Go.ChangeAt Go.RowKit
open Go.ChangeMaps (open_string)
set_option linter.unusedVariables false
set_option maxRecDepth 100000

-- WALK
theorem keep5 {w W x : World} {a b c d : Nat} {A B C D : Array Value} (hb : Below W.heap.size W x) (h : Below w.heap.size w W ∧ At W a A ∧ At W b B ∧ At W c C ∧ At W d D) : Below w.heap.size w x ∧ At x a A ∧ At x b B ∧ At x c C ∧ At x d D := ⟨bt h.1 hb, h.2.1.later hb, h.2.2.1.later hb, h.2.2.2.1.later hb, h.2.2.2.2.later hb⟩
set_option maxHeartbeats 4000000 in
theorem walk_k (s t r : Sg) (k : Bool) (v u : Value) (w : World) (hG : Ord w) (hv : Rgs w v s.o.rs) (hu : Rgs w u t.o.rs) (hn : s.o.rs.length ≤ 17592186044416) (hm : t.o.rs.length ≤ 17592186044416)
    (HR : Hid (∀ W, Rgs W v s.o.rs → Ord W → Calls Tryd.prog 21 #[.agg #[.int .i64 s.fr, .int .i64 s.dt, .int .i64 s.sq, .int .i64 s.ak, .int .i64 s.fl, .int .i64 s.wi, .int .i64 s.ur, .int .i64 s.o.m, .int .i64 s.o.c, .int .i64 s.o.t, .int .i64 s.o.ec, .bool s.o.sd, .bool s.o.ok, .bool s.o.sp, v, .string s.da]] W fun e w' => e = .returned (.tuple #[.agg #[.int .i64 r.fr, .int .i64 r.dt, .int .i64 r.sq, .int .i64 r.ak, .int .i64 r.fl, .int .i64 r.wi, .int .i64 r.ur, .int .i64 r.o.m, .int .i64 r.o.c, .int .i64 r.o.t, .int .i64 r.o.ec, .bool r.o.sd, .bool r.o.ok, .bool r.o.sp, (.slice none 0 0), .string r.da], .bool k]) ∧ Below W.heap.size W w'))
    (HRR : Hid (∀ W, Rgs W v s.o.rs → Calls Tryd.prog 22 #[.agg #[.int .i64 s.fr, .int .i64 s.dt, .int .i64 s.sq, .int .i64 s.ak, .int .i64 s.fl, .int .i64 s.wi, .int .i64 s.ur, .int .i64 s.o.m, .int .i64 s.o.c, .int .i64 s.o.t, .int .i64 s.o.ec, .bool s.o.sd, .bool s.o.ok, .bool s.o.sp, v, .string s.da]] W fun e w' => e = .returned (.tuple #[.agg #[.int .i64 r.fr, .int .i64 r.dt, .int .i64 r.sq, .int .i64 r.ak, .int .i64 r.fl, .int .i64 r.wi, .int .i64 r.ur, .int .i64 r.o.m, .int .i64 r.o.c, .int .i64 r.o.t, .int .i64 r.o.ec, .bool r.o.sd, .bool r.o.ok, .bool r.o.sp, (.slice none 0 0), .string r.da], .bool k]) ∧ Below W.heap.size W w'))
    (HSR : Hid (∀ W, Calls Tryd.prog 20 #[.agg #[.int .i64 r.fr, .int .i64 r.dt, .int .i64 r.sq, .int .i64 r.ak, .int .i64 r.fl, .int .i64 r.wi, .int .i64 r.ur, .int .i64 r.o.m, .int .i64 r.o.c, .int .i64 r.o.t, .int .i64 r.o.ec, .bool r.o.sd, .bool r.o.ok, .bool r.o.sp, (.slice none 0 0), .string r.da], .agg #[.int .i64 r.fr, .int .i64 r.dt, .int .i64 r.sq, .int .i64 r.ak, .int .i64 r.fl, .int .i64 r.wi, .int .i64 r.ur, .int .i64 r.o.m, .int .i64 r.o.c, .int .i64 r.o.t, .int .i64 r.o.ec, .bool r.o.sd, .bool r.o.ok, .bool r.o.sp, (.slice none 0 0), .string r.da]] W fun e w' => e = .returned (.bool true) ∧ Below W.heap.size W w')) :
    Calls Tryd.prog 5 #[.agg #[.int .i64 s.fr, .int .i64 s.dt, .int .i64 s.sq, .int .i64 s.ak, .int .i64 s.fl, .int .i64 s.wi, .int .i64 s.ur, .int .i64 s.o.m, .int .i64 s.o.c, .int .i64 s.o.t, .int .i64 s.o.ec, .bool s.o.sd, .bool s.o.ok, .bool s.o.sp, v, .string s.da], .agg #[.int .i64 t.fr, .int .i64 t.dt, .int .i64 t.sq, .int .i64 t.ak, .int .i64 t.fl, .int .i64 t.wi, .int .i64 t.ur, .int .i64 t.o.m, .int .i64 t.o.c, .int .i64 t.o.t, .int .i64 t.o.ec, .bool t.o.sd, .bool t.o.ok, .bool t.o.sp, u, .string t.da]] w fun e w' => e = .returned (.bool true) ∧ Below w.heap.size w w' := by
  have hb1 := bel1 w (.cells #[.int .i64 s.fr, .int .i64 s.dt, .int .i64 s.sq, .int .i64 s.ak, .int .i64 s.fl, .int .i64 s.wi, .int .i64 s.ur, .int .i64 s.o.m, .int .i64 s.o.c, .int .i64 s.o.t, .int .i64 s.o.ec, .bool s.o.sd, .bool s.o.ok, .bool s.o.sp, v, .string s.da] 28)
  have hb2 := bel1 (w.alloc (.cells #[.int .i64 s.fr, .int .i64 s.dt, .int .i64 s.sq, .int .i64 s.ak, .int .i64 s.fl, .int .i64 s.wi, .int .i64 s.ur, .int .i64 s.o.m, .int .i64 s.o.c, .int .i64 s.o.t, .int .i64 s.o.ec, .bool s.o.sd, .bool s.o.ok, .bool s.o.sp, v, .string s.da] 28)) (.cells #[.int .i64 t.fr, .int .i64 t.dt, .int .i64 t.sq, .int .i64 t.ak, .int .i64 t.fl, .int .i64 t.wi, .int .i64 t.ur, .int .i64 t.o.m, .int .i64 t.o.c, .int .i64 t.o.t, .int .i64 t.o.ec, .bool t.o.sd, .bool t.o.ok, .bool t.o.sp, u, .string t.da] 28)
  have hA := (At.box w #[.int .i64 s.fr, .int .i64 s.dt, .int .i64 s.sq, .int .i64 s.ak, .int .i64 s.fl, .int .i64 s.wi, .int .i64 s.ur, .int .i64 s.o.m, .int .i64 s.o.c, .int .i64 s.o.t, .int .i64 s.o.ec, .bool s.o.sd, .bool s.o.ok, .bool s.o.sp, v, .string s.da] 28).later hb2
  have hB := At.box2 w (.cells #[.int .i64 s.fr, .int .i64 s.dt, .int .i64 s.sq, .int .i64 s.ak, .int .i64 s.fl, .int .i64 s.wi, .int .i64 s.ur, .int .i64 s.o.m, .int .i64 s.o.c, .int .i64 s.o.t, .int .i64 s.o.ec, .bool s.o.sd, .bool s.o.ok, .bool s.o.sp, v, .string s.da] 28) #[.int .i64 t.fr, .int .i64 t.dt, .int .i64 t.sq, .int .i64 t.ak, .int .i64 t.fl, .int .i64 t.wi, .int .i64 t.ur, .int .i64 t.o.m, .int .i64 t.o.c, .int .i64 t.o.t, .int .i64 t.o.ec, .bool t.o.sd, .bool t.o.ok, .bool t.o.sp, u, .string t.da] 28
  have hl := bt hb1 hb2
  clear hb1 hb2
  go_enter Tryd.func5, Tryd.ntmps5
  go_upto_region 1 with fail
  generalize hw0 : (w.alloc (.cells #[.int .i64 s.fr, .int .i64 s.dt, .int .i64 s.sq, .int .i64 s.ak, .int .i64 s.fl, .int .i64 s.wi, .int .i64 s.ur, .int .i64 s.o.m, .int .i64 s.o.c, .int .i64 s.o.t, .int .i64 s.o.ec, .bool s.o.sd, .bool s.o.ok, .bool s.o.sp, v, .string s.da] 28)).alloc (.cells #[.int .i64 t.fr, .int .i64 t.dt, .int .i64 t.sq, .int .i64 t.ak, .int .i64 t.fl, .int .i64 t.wi, .int .i64 t.ur, .int .i64 t.o.m, .int .i64 t.o.c, .int .i64 t.o.t, .int .i64 t.o.ec, .bool t.o.sd, .bool t.o.ok, .bool t.o.sp, u, .string t.da] 28) = w0 at *
  clear hw0
  go_wp2_with (refine wpList_loadG 28 _ (by rfl) (by rfl) (w.heap.size) 0 (by rfl) _ _ hA.range Tryd.underlying28 rfl size28 ?_)
  refine (HR.out _ (hv.later hl) (hG.later hl)).mono ?_
  rintro e w2 ⟨rfl, hb⟩
  have hX := At.box w2 #[.int .i64 r.fr, .int .i64 r.dt, .int .i64 r.sq, .int .i64 r.ak, .int .i64 r.fl, .int .i64 r.wi, .int .i64 r.ur, .int .i64 r.o.m, .int .i64 r.o.c, .int .i64 r.o.t, .int .i64 r.o.ec, .bool r.o.sd, .bool r.o.ok, .bool r.o.sp, (.slice none 0 0), .string r.da] 28
  have hbx := bel1 w2 (.cells #[.int .i64 r.fr, .int .i64 r.dt, .int .i64 r.sq, .int .i64 r.ak, .int .i64 r.fl, .int .i64 r.wi, .int .i64 r.ur, .int .i64 r.o.m, .int .i64 r.o.c, .int .i64 r.o.t, .int .i64 r.o.ec, .bool r.o.sd, .bool r.o.ok, .bool r.o.sp, (.slice none 0 0), .string r.da] 28)
  replace hl := bt (bt hl hb) hbx
  replace hA := hA.later (bt hb hbx)
  replace hB := hB.later (bt hb hbx)
  clear hb hbx
  go_upto_region 2 with fail
  generalize hw3 : w2.alloc (.cells #[.int .i64 r.fr, .int .i64 r.dt, .int .i64 r.sq, .int .i64 r.ak, .int .i64 r.fl, .int .i64 r.wi, .int .i64 r.ur, .int .i64 r.o.m, .int .i64 r.o.c, .int .i64 r.o.t, .int .i64 r.o.ec, .bool r.o.sd, .bool r.o.ok, .bool r.o.sp, (.slice none 0 0), .string r.da] 28) = w3 at *
  clear hw3
  go_cut [7, 8] from 9 (fun q z W => ∃ p : Nat, q = .pointer (some ⟨p, 0, none⟩) ∧ z = .bool k ∧ Below w.heap.size w W ∧ At W w.heap.size #[.int .i64 s.fr, .int .i64 s.dt, .int .i64 s.sq, .int .i64 s.ak, .int .i64 s.fl, .int .i64 s.wi, .int .i64 s.ur, .int .i64 s.o.m, .int .i64 s.o.c, .int .i64 s.o.t, .int .i64 s.o.ec, .bool s.o.sd, .bool s.o.ok, .bool s.o.sp, v, .string s.da] ∧ At W (w.heap.size + 1) #[.int .i64 t.fr, .int .i64 t.dt, .int .i64 t.sq, .int .i64 t.ak, .int .i64 t.fl, .int .i64 t.wi, .int .i64 t.ur, .int .i64 t.o.m, .int .i64 t.o.c, .int .i64 t.o.t, .int .i64 t.o.ec, .bool t.o.sd, .bool t.o.ok, .bool t.o.sp, u, .string t.da] ∧ At W w2.heap.size #[.int .i64 r.fr, .int .i64 r.dt, .int .i64 r.sq, .int .i64 r.ak, .int .i64 r.fl, .int .i64 r.wi, .int .i64 r.ur, .int .i64 r.o.m, .int .i64 r.o.c, .int .i64 r.o.t, .int .i64 r.o.ec, .bool r.o.sd, .bool r.o.ok, .bool r.o.sp, (.slice none 0 0), .string r.da] ∧ At W p #[.int .i64 r.fr, .int .i64 r.dt, .int .i64 r.sq, .int .i64 r.ak, .int .i64 r.fl, .int .i64 r.wi, .int .i64 r.ur, .int .i64 r.o.m, .int .i64 r.o.c, .int .i64 r.o.t, .int .i64 r.o.ec, .bool r.o.sd, .bool r.o.ok, .bool r.o.sp, (.slice none 0 0), .string r.da])
  case first =>
    go_wp2_with (refine wpList_loadG 28 _ (by rfl) (by rfl) (w.heap.size) 0 (by rfl) _ _ hA.range Tryd.underlying28 rfl size28 ?_)
    refine (HRR.out _ (hv.later hl)).mono ?_
    rintro e w4 ⟨rfl, hb⟩
    have hY := At.box w4 #[.int .i64 r.fr, .int .i64 r.dt, .int .i64 r.sq, .int .i64 r.ak, .int .i64 r.fl, .int .i64 r.wi, .int .i64 r.ur, .int .i64 r.o.m, .int .i64 r.o.c, .int .i64 r.o.t, .int .i64 r.o.ec, .bool r.o.sd, .bool r.o.ok, .bool r.o.sp, (.slice none 0 0), .string r.da] 28
    have hby := bel1 w4 (.cells #[.int .i64 r.fr, .int .i64 r.dt, .int .i64 r.sq, .int .i64 r.ak, .int .i64 r.fl, .int .i64 r.wi, .int .i64 r.ur, .int .i64 r.o.m, .int .i64 r.o.c, .int .i64 r.o.t, .int .i64 r.o.ec, .bool r.o.sd, .bool r.o.ok, .bool r.o.sp, (.slice none 0 0), .string r.da] 28)
    replace hb := bt hb hby
    go_wp2
    go_meet
    case rel => exact ⟨w4.heap.size, rfl, rfl, bt hl hb, hA.later hb, hB.later hb, hX.later hb, hY⟩
  case rest =>
  clear hl hA hB hX HR HRR
  obtain ⟨p, rfl, rfl, hcc⟩ := hcut
  go_wp2
  refine wp_region_any (by kernel_rfl) ?_
  refine region_facts (fun W => Below w.heap.size w W ∧ At W w.heap.size #[.int .i64 s.fr, .int .i64 s.dt, .int .i64 s.sq, .int .i64 s.ak, .int .i64 s.fl, .int .i64 s.wi, .int .i64 s.ur, .int .i64 s.o.m, .int .i64 s.o.c, .int .i64 s.o.t, .int .i64 s.o.ec, .bool s.o.sd, .bool s.o.ok, .bool s.o.sp, v, .string s.da] ∧ At W (w.heap.size + 1) #[.int .i64 t.fr, .int .i64 t.dt, .int .i64 t.sq, .int .i64 t.ak, .int .i64 t.fl, .int .i64 t.wi, .int .i64 t.ur, .int .i64 t.o.m, .int .i64 t.o.c, .int .i64 t.o.t, .int .i64 t.o.ec, .bool t.o.sd, .bool t.o.ok, .bool t.o.sp, u, .string t.da] ∧ At W w2.heap.size #[.int .i64 r.fr, .int .i64 r.dt, .int .i64 r.sq, .int .i64 r.ak, .int .i64 r.fl, .int .i64 r.wi, .int .i64 r.ur, .int .i64 r.o.m, .int .i64 r.o.c, .int .i64 r.o.t, .int .i64 r.o.ec, .bool r.o.sd, .bool r.o.ok, .bool r.o.sp, (.slice none 0 0), .string r.da] ∧ At W p #[.int .i64 r.fr, .int .i64 r.dt, .int .i64 r.sq, .int .i64 r.ak, .int .i64 r.fl, .int .i64 r.wi, .int .i64 r.ur, .int .i64 r.o.m, .int .i64 r.o.c, .int .i64 r.o.t, .int .i64 r.o.ec, .bool r.o.sd, .bool r.o.ok, .bool r.o.sp, (.slice none 0 0), .string r.da]) (GE (fun qq => match qq with | 0 => .agg #[.int .i64 s.fr, .int .i64 s.dt, .int .i64 s.sq, .int .i64 s.ak, .int .i64 s.fl, .int .i64 s.wi, .int .i64 s.ur, .int .i64 s.o.m, .int .i64 s.o.c, .int .i64 s.o.t, .int .i64 s.o.ec, .bool s.o.sd, .bool s.o.ok, .bool s.o.sp, v, .string s.da] | 1 => .agg #[.int .i64 t.fr, .int .i64 t.dt, .int .i64 t.sq, .int .i64 t.ak, .int .i64 t.fl, .int .i64 t.wi, .int .i64 t.ur, .int .i64 t.o.m, .int .i64 t.o.c, .int .i64 t.o.t, .int .i64 t.o.ec, .bool t.o.sd, .bool t.o.ok, .bool t.o.sp, u, .string t.da] | 2 => .bool (sameG s t) | 3 => .agg #[.int .i64 s.fr, .int .i64 s.dt, .int .i64 s.sq, .int .i64 s.ak, .int .i64 s.fl, .int .i64 s.wi, .int .i64 s.ur, .int .i64 s.o.m, .int .i64 s.o.c, .int .i64 s.o.t, .int .i64 s.o.ec, .bool s.o.sd, .bool s.o.ok, .bool s.o.sp, v, .string s.da] | 4 => .agg #[.int .i64 t.fr, .int .i64 t.dt, .int .i64 t.sq, .int .i64 t.ak, .int .i64 t.fl, .int .i64 t.wi, .int .i64 t.ur, .int .i64 t.o.m, .int .i64 t.o.c, .int .i64 t.o.t, .int .i64 t.o.ec, .bool t.o.sd, .bool t.o.ok, .bool t.o.sp, u, .string t.da] | 5 => .bool (sameG s t) | 6 => .bool true | 7 => .bool true | 8 => .bool k | 9 => .bool k | 10 => .bool true | 11 => .bool true | 12 => .bool true | 13 => .agg #[.int .i64 r.fr, .int .i64 r.dt, .int .i64 r.sq, .int .i64 r.ak, .int .i64 r.fl, .int .i64 r.wi, .int .i64 r.ur, .int .i64 r.o.m, .int .i64 r.o.c, .int .i64 r.o.t, .int .i64 r.o.ec, .bool r.o.sd, .bool r.o.ok, .bool r.o.sp, (.slice none 0 0), .string r.da] | 14 => .agg #[.int .i64 r.fr, .int .i64 r.dt, .int .i64 r.sq, .int .i64 r.ak, .int .i64 r.fl, .int .i64 r.wi, .int .i64 r.ur, .int .i64 r.o.m, .int .i64 r.o.c, .int .i64 r.o.t, .int .i64 r.o.ec, .bool r.o.sd, .bool r.o.ok, .bool r.o.sp, (.slice none 0 0), .string r.da] | 15 => .bool true | 16 => .bool true | 17 => .bool true | 18 => .bool true | 19 => .bool true | 20 => .bool true | _ => undef) (fun _ => none)) (n := 39) (by kernel_rfl) rfl (by kernel_rfl) (GE_later _ _ (fun _ _ h => by cases h)) ?_ ?_ (keep5 ((Below.refl _ _).drew) hcc) (Nat.le_refl _)
  · skip
    refine ⟨?_, ?_, ?_, ?_, ?_, ?_, ?_, ?_, ?_, ?_, ?_, ?_, ?_, ?_, ?_, ?_, ?_, ?_, ?_, ?_, ?_, trivial⟩
    · intro ac w1 hS hT hB hD K hK
      rw [if_pos (by rfl)]
      have d2 : ac.tmps.getD 2 undef = .pointer (some ⟨w.heap.size, 0, none⟩) := hB 2 (by kernel_rfl)
      clear hB hD hT
      exact wp_load_mid 28 (.tmp 2) rfl (w.heap.size) 0 d2 _ _ hS.2.1.range Tryd.underlying28 rfl size28 (hK _ _ hS (Below.refl _ _) rfl)
    · intro ac w1 hS hT hB hD K hK
      rw [if_pos (by rfl)]
      have d3 : ac.tmps.getD 3 undef = .pointer (some ⟨w.heap.size + 1, 0, none⟩) := hB 3 (by kernel_rfl)
      clear hB hD hT
      exact wp_load_mid 28 (.tmp 3) rfl (w.heap.size + 1) 0 d3 _ _ hS.2.2.1.range Tryd.underlying28 rfl size28 (hK _ _ hS (Below.refl _ _) rfl)
    · intro ac w1 hS hT hB hD K hK
      rw [if_pos (by rfl)]
      have d19 : ac.tmps.getD 19 undef = .agg #[.int .i64 s.fr, .int .i64 s.dt, .int .i64 s.sq, .int .i64 s.ak, .int .i64 s.fl, .int .i64 s.wi, .int .i64 s.ur, .int .i64 s.o.m, .int .i64 s.o.c, .int .i64 s.o.t, .int .i64 s.o.ec, .bool s.o.sd, .bool s.o.ok, .bool s.o.sp, v, .string s.da] := hD ⟨0, .data⟩ (by simp) rfl _ 19 rfl rfl
      have d20 : ac.tmps.getD 20 undef = .agg #[.int .i64 t.fr, .int .i64 t.dt, .int .i64 t.sq, .int .i64 t.ak, .int .i64 t.fl, .int .i64 t.wi, .int .i64 t.ur, .int .i64 t.o.m, .int .i64 t.o.c, .int .i64 t.o.t, .int .i64 t.o.ec, .bool t.o.sd, .bool t.o.ok, .bool t.o.sp, u, .string t.da] := hD ⟨1, .data⟩ (by simp) rfl _ 20 rfl rfl
      clear hB hD hT
      go_simp
      refine (same_s s t v u _ (hv.later hS.1) (hu.later hS.1) hn hm).mono ?_
      rintro e w' ⟨rfl, hb⟩
      exact hK _ _ (keep5 hb hS) hb rfl
    · intro ac w1 hS hT hB hD K hK
      rw [if_pos (by rfl)]
      have d2 : ac.tmps.getD 2 undef = .pointer (some ⟨w.heap.size, 0, none⟩) := hB 2 (by kernel_rfl)
      clear hB hD hT
      exact wp_load_mid 28 (.tmp 2) rfl (w.heap.size) 0 d2 _ _ hS.2.1.range Tryd.underlying28 rfl size28 (hK _ _ hS (Below.refl _ _) rfl)
    · intro ac w1 hS hT hB hD K hK
      rw [if_pos (by rfl)]
      have d3 : ac.tmps.getD 3 undef = .pointer (some ⟨w.heap.size + 1, 0, none⟩) := hB 3 (by kernel_rfl)
      clear hB hD hT
      exact wp_load_mid 28 (.tmp 3) rfl (w.heap.size + 1) 0 d3 _ _ hS.2.2.1.range Tryd.underlying28 rfl size28 (hK _ _ hS (Below.refl _ _) rfl)
    · intro ac w1 hS hT hB hD K hK
      rw [if_pos (by rfl)]
      have d22 : ac.tmps.getD 22 undef = .agg #[.int .i64 s.fr, .int .i64 s.dt, .int .i64 s.sq, .int .i64 s.ak, .int .i64 s.fl, .int .i64 s.wi, .int .i64 s.ur, .int .i64 s.o.m, .int .i64 s.o.c, .int .i64 s.o.t, .int .i64 s.o.ec, .bool s.o.sd, .bool s.o.ok, .bool s.o.sp, v, .string s.da] := hD ⟨3, .data⟩ (by simp) rfl _ 22 rfl rfl
      have d23 : ac.tmps.getD 23 undef = .agg #[.int .i64 t.fr, .int .i64 t.dt, .int .i64 t.sq, .int .i64 t.ak, .int .i64 t.fl, .int .i64 t.wi, .int .i64 t.ur, .int .i64 t.o.m, .int .i64 t.o.c, .int .i64 t.o.t, .int .i64 t.o.ec, .bool t.o.sd, .bool t.o.ok, .bool t.o.sp, u, .string t.da] := hD ⟨4, .data⟩ (by simp) rfl _ 23 rfl rfl
      clear hB hD hT
      go_simp
      refine (rsame_s s t v u _ (hv.later hS.1) (hu.later hS.1) hn hm).mono ?_
      rintro e w' ⟨rfl, hb⟩
      exact hK _ _ (keep5 hb hS) hb rfl
    · intro ac w1 hS hT hB hD K hK
      rw [if_pos (by rfl)]
      have d21 : ac.tmps.getD 21 undef = .bool (sameG s t) := hD ⟨2, .data⟩ (by simp) rfl _ 21 rfl rfl
      have d24 : ac.tmps.getD 24 undef = .bool (sameG s t) := hD ⟨5, .data⟩ (by simp) rfl _ 24 rfl rfl
      clear hB hD hT
      generalize sameG s t = q at *
      cases q <;> go_simp
      all_goals exact hK _ _ hS (Below.refl _ _) rfl
    · intro ac w1 hS hT hB hD K hK
      rw [if_pos (by rfl)]
      have d25 : ac.tmps.getD 25 undef = .bool true := hD ⟨6, .data⟩ (by simp) rfl _ 25 rfl rfl
      clear hB hD hT
      go_simp
      exact hK _ _ hS (Below.refl _ _) rfl
    · intro ac w1 hS hT hB hD K hK
      have g26 : ac.tmps.getD 26 undef = .bool true := hD ⟨7, .guard⟩ (by simp) rfl _ 26 rfl rfl
      rw [if_pos (want_t (j := 7) (d := 26) rfl rfl g26)]
      clear g26
      have d6 : ac.tmps.getD 6 undef = .bool k := hB 6 (by kernel_rfl)
      clear hB hD hT
      go_simp
      exact hK _ _ hS (Below.refl _ _) rfl
    · intro ac w1 hS hT hB hD K hK
      have g26 : ac.tmps.getD 26 undef = .bool true := hD ⟨7, .guard⟩ (by simp) rfl _ 26 rfl rfl
      rw [if_pos (want_t (j := 7) (d := 26) rfl rfl g26)]
      clear g26
      have d8 : ac.tmps.getD 8 undef = .bool k := hB 8 (by kernel_rfl)
      clear hB hD hT
      go_simp
      exact hK _ _ hS (Below.refl _ _) rfl
    · intro ac w1 hS hT hB hD K hK
      have g26 : ac.tmps.getD 26 undef = .bool true := hD ⟨7, .guard⟩ (by simp) rfl _ 26 rfl rfl
      rw [if_pos (want_t (j := 7) (d := 26) rfl rfl g26)]
      clear g26
      have d27 : ac.tmps.getD 27 undef = .bool k := hD ⟨8, .data⟩ (by simp) rfl _ 27 rfl rfl
      have d28 : ac.tmps.getD 28 undef = .bool k := hD ⟨9, .data⟩ (by simp) rfl _ 28 rfl rfl
      clear hB hD hT
      cases k <;> go_simp
      all_goals exact hK _ _ hS (Below.refl _ _) rfl
    · intro ac w1 hS hT hB hD K hK
      rw [if_pos (by rfl)]
      have d26 : ac.tmps.getD 26 undef = .bool true := hD ⟨7, .data⟩ (by simp) rfl _ 26 rfl rfl
      have d29 : ac.tmps.getD 29 undef = .bool true := hD ⟨10, .data⟩ (by simp) rfl _ 29 rfl rfl
      clear hB hD hT
      go_simp
      exact hK _ _ hS (Below.refl _ _) rfl
    · intro ac w1 hS hT hB hD K hK
      rw [if_pos (by rfl)]
      have d30 : ac.tmps.getD 30 undef = .bool true := hD ⟨11, .data⟩ (by simp) rfl _ 30 rfl rfl
      clear hB hD hT
      go_simp
      exact hK _ _ hS (Below.refl _ _) rfl
    · intro ac w1 hS hT hB hD K hK
      have g31 : ac.tmps.getD 31 undef = .bool true := hD ⟨12, .guard⟩ (by simp) rfl _ 31 rfl rfl
      rw [if_pos (want_t (j := 12) (d := 31) rfl rfl g31)]
      clear g31
      have d5 : ac.tmps.getD 5 undef = .pointer (some ⟨w2.heap.size, 0, none⟩) := hB 5 (by kernel_rfl)
      clear hB hD hT
      exact wp_load_mid 28 (.tmp 5) rfl (w2.heap.size) 0 d5 _ _ hS.2.2.2.1.range Tryd.underlying28 rfl size28 (hK _ _ hS (Below.refl _ _) rfl)
    · intro ac w1 hS hT hB hD K hK
      have g31 : ac.tmps.getD 31 undef = .bool true := hD ⟨12, .guard⟩ (by simp) rfl _ 31 rfl rfl
      rw [if_pos (want_t (j := 12) (d := 31) rfl rfl g31)]
      clear g31
      have d7 : ac.tmps.getD 7 undef = .pointer (some ⟨p, 0, none⟩) := hB 7 (by kernel_rfl)
      clear hB hD hT
      exact wp_load_mid 28 (.tmp 7) rfl (p) 0 d7 _ _ hS.2.2.2.2.range Tryd.underlying28 rfl size28 (hK _ _ hS (Below.refl _ _) rfl)
    · intro ac w1 hS hT hB hD K hK
      have g31 : ac.tmps.getD 31 undef = .bool true := hD ⟨12, .guard⟩ (by simp) rfl _ 31 rfl rfl
      rw [if_pos (want_t (j := 12) (d := 31) rfl rfl g31)]
      clear g31
      have d32 : ac.tmps.getD 32 undef = .agg #[.int .i64 r.fr, .int .i64 r.dt, .int .i64 r.sq, .int .i64 r.ak, .int .i64 r.fl, .int .i64 r.wi, .int .i64 r.ur, .int .i64 r.o.m, .int .i64 r.o.c, .int .i64 r.o.t, .int .i64 r.o.ec, .bool r.o.sd, .bool r.o.ok, .bool r.o.sp, (.slice none 0 0), .string r.da] := hD ⟨13, .data⟩ (by simp) rfl _ 32 rfl rfl
      have d33 : ac.tmps.getD 33 undef = .agg #[.int .i64 r.fr, .int .i64 r.dt, .int .i64 r.sq, .int .i64 r.ak, .int .i64 r.fl, .int .i64 r.wi, .int .i64 r.ur, .int .i64 r.o.m, .int .i64 r.o.c, .int .i64 r.o.t, .int .i64 r.o.ec, .bool r.o.sd, .bool r.o.ok, .bool r.o.sp, (.slice none 0 0), .string r.da] := hD ⟨14, .data⟩ (by simp) rfl _ 33 rfl rfl
      clear hB hD hT
      go_simp
      refine (HSR.out _).mono ?_
      rintro e w' ⟨rfl, hb⟩
      exact hK _ _ (keep5 hb hS) hb rfl
    · intro ac w1 hS hT hB hD K hK
      rw [if_pos (by rfl)]
      have d31 : ac.tmps.getD 31 undef = .bool true := hD ⟨12, .data⟩ (by simp) rfl _ 31 rfl rfl
      have d34 : ac.tmps.getD 34 undef = .bool true := hD ⟨15, .data⟩ (by simp) rfl _ 34 rfl rfl
      clear hB hD hT
      go_simp
      exact hK _ _ hS (Below.refl _ _) rfl
    · intro ac w1 hS hT hB hD K hK
      rw [if_pos (by rfl)]
      have d35 : ac.tmps.getD 35 undef = .bool true := hD ⟨16, .data⟩ (by simp) rfl _ 35 rfl rfl
      clear hB hD hT
      go_simp
      exact hK _ _ hS (Below.refl _ _) rfl
    · intro ac w1 hS hT hB hD K hK
      have g36 : ac.tmps.getD 36 undef = .bool true := hD ⟨17, .guard⟩ (by simp) rfl _ 36 rfl rfl
      rw [if_pos (want_t (j := 17) (d := 36) rfl rfl g36)]
      clear g36
      clear hB hD hT
      go_simp
      refine (works_s _ (hG.later hS.1)).mono ?_
      rintro e w' ⟨rfl, hb⟩
      exact hK _ _ (keep5 hb hS) hb rfl
    · intro ac w1 hS hT hB hD K hK
      rw [if_pos (by rfl)]
      have d36 : ac.tmps.getD 36 undef = .bool true := hD ⟨17, .data⟩ (by simp) rfl _ 36 rfl rfl
      have d37 : ac.tmps.getD 37 undef = .bool true := hD ⟨18, .data⟩ (by simp) rfl _ 37 rfl rfl
      clear hB hD hT
      go_simp
      exact hK _ _ hS (Below.refl _ _) rfl
    · intro ac w1 hS hT hB hD K hK
      rw [if_pos (by rfl)]
      have d38 : ac.tmps.getD 38 undef = .bool true := hD ⟨19, .data⟩ (by simp) rfl _ 38 rfl rfl
      clear hB hD hT
      go_simp
      exact hK _ _ hS (Below.refl _ _) rfl
  · intro ac w9 hS hT hdf hB hF
    have hfr : ac.tmps = #[.agg #[.int .i64 s.fr, .int .i64 s.dt, .int .i64 s.sq, .int .i64 s.ak, .int .i64 s.fl, .int .i64 s.wi, .int .i64 s.ur, .int .i64 s.o.m, .int .i64 s.o.c, .int .i64 s.o.t, .int .i64 s.o.ec, .bool s.o.sd, .bool s.o.ok, .bool s.o.sp, v, .string s.da], .agg #[.int .i64 t.fr, .int .i64 t.dt, .int .i64 t.sq, .int .i64 t.ak, .int .i64 t.fl, .int .i64 t.wi, .int .i64 t.ur, .int .i64 t.o.m, .int .i64 t.o.c, .int .i64 t.o.t, .int .i64 t.o.ec, .bool t.o.sd, .bool t.o.ok, .bool t.o.sp, u, .string t.da], .pointer (some ⟨w.heap.size, 0, none⟩), .pointer (some ⟨w.heap.size + 1, 0, none⟩), (ac.tmps.getD 4 undef), .pointer (some ⟨w2.heap.size, 0, none⟩), .bool k, .pointer (some ⟨p, 0, none⟩), .bool k, u9, u10, u11, u12, u13, u14, u15, u16, u17, u18, (ac.tmps.getD 19 undef), (ac.tmps.getD 20 undef), (ac.tmps.getD 21 undef), (ac.tmps.getD 22 undef), (ac.tmps.getD 23 undef), (ac.tmps.getD 24 undef), (ac.tmps.getD 25 undef), (ac.tmps.getD 26 undef), (ac.tmps.getD 27 undef), (ac.tmps.getD 28 undef), (ac.tmps.getD 29 undef), (ac.tmps.getD 30 undef), (ac.tmps.getD 31 undef), (ac.tmps.getD 32 undef), (ac.tmps.getD 33 undef), (ac.tmps.getD 34 undef), (ac.tmps.getD 35 undef), (ac.tmps.getD 36 undef), (ac.tmps.getD 37 undef), (ac.tmps.getD 38 undef)] := (frame_eq hT rfl hB).trans (by kernel_rfl)
    obtain ⟨T, df⟩ := ac
    have s4 : T.getD 4 undef = .bool true := hF 20 _ 4 rfl rfl
    have sdf : df = [] := hdf
    simp only at hfr
    clear hB hF hT hdf
    generalize T.getD 19 undef = y19 at *
    generalize T.getD 20 undef = y20 at *
    generalize T.getD 21 undef = y21 at *
    generalize T.getD 22 undef = y22 at *
    generalize T.getD 23 undef = y23 at *
    generalize T.getD 24 undef = y24 at *
    generalize T.getD 25 undef = y25 at *
    generalize T.getD 26 undef = y26 at *
    generalize T.getD 27 undef = y27 at *
    generalize T.getD 28 undef = y28 at *
    generalize T.getD 29 undef = y29 at *
    generalize T.getD 30 undef = y30 at *
    generalize T.getD 31 undef = y31 at *
    generalize T.getD 32 undef = y32 at *
    generalize T.getD 33 undef = y33 at *
    generalize T.getD 34 undef = y34 at *
    generalize T.getD 35 undef = y35 at *
    generalize T.getD 36 undef = y36 at *
    generalize T.getD 37 undef = y37 at *
    generalize T.getD 38 undef = y38 at *
    generalize T.getD 4 undef = y4 at *
    subst hfr s4 sdf
    go_wp2
    go_ret
    exact ⟨rfl, hS.1⟩
theorem sameG_self (a : Sg) (h : a.o = Op.zero) : sameG a a = true := by
  have : sameOO a.o a.o = true := by rw [h]; decide +kernel
  simp [sameG, sameNG, this]
theorem walk (s : Sg) (v : Value) (t : Sg) (u : Value) (w : World) (hG : Ord w) (hv : Rgs w v s.o.rs) (hz : s.o.rs.length * 16 ≤ 140737488351232) (hd : s.da.size ≤ 140737488351232) (hu : Rgs w u t.o.rs) (hz' : t.o.rs.length * 16 ≤ 140737488351232) (hd' : t.da.size ≤ 140737488351232) :
    Calls Tryd.prog 5 #[.agg #[.int .i64 s.fr, .int .i64 s.dt, .int .i64 s.sq, .int .i64 s.ak, .int .i64 s.fl, .int .i64 s.wi, .int .i64 s.ur, .int .i64 s.o.m, .int .i64 s.o.c, .int .i64 s.o.t, .int .i64 s.o.ec, .bool s.o.sd, .bool s.o.ok, .bool s.o.sp, v, .string s.da], .agg #[.int .i64 t.fr, .int .i64 t.dt, .int .i64 t.sq, .int .i64 t.ak, .int .i64 t.fl, .int .i64 t.wi, .int .i64 t.ur, .int .i64 t.o.m, .int .i64 t.o.c, .int .i64 t.o.t, .int .i64 t.o.ec, .bool t.o.sd, .bool t.o.ok, .bool t.o.sp, u, .string t.da]] w fun e w' => e = .returned (.bool true) ∧ Below w.heap.size w w' := by
  have hn : s.o.rs.length ≤ 17592186044416 := by omega
  have hm : t.o.rs.length ≤ 17592186044416 := by omega
  have hs : ∀ (r : Sg), r.o = Op.zero → ∀ W, Calls Tryd.prog 20 #[.agg #[.int .i64 r.fr, .int .i64 r.dt, .int .i64 r.sq, .int .i64 r.ak, .int .i64 r.fl, .int .i64 r.wi, .int .i64 r.ur, .int .i64 r.o.m, .int .i64 r.o.c, .int .i64 r.o.t, .int .i64 r.o.ec, .bool r.o.sd, .bool r.o.ok, .bool r.o.sp, (.slice none 0 0), .string r.da], .agg #[.int .i64 r.fr, .int .i64 r.dt, .int .i64 r.sq, .int .i64 r.ak, .int .i64 r.fl, .int .i64 r.wi, .int .i64 r.ur, .int .i64 r.o.m, .int .i64 r.o.c, .int .i64 r.o.t, .int .i64 r.o.ec, .bool r.o.sd, .bool r.o.ok, .bool r.o.sp, (.slice none 0 0), .string r.da]] W fun e w' => e = .returned (.bool true) ∧ Below W.heap.size W w' := fun r hr W => by
    have := rsame_s r r (.slice none 0 0) (.slice none 0 0) W (by rw [hr]; exact Rgs.nil W) (by rw [hr]; exact Rgs.nil W) (by rw [hr]; decide) (by rw [hr]; decide)
    rw [sameG_self r hr] at this
    exact this
  have hnn : (mayG s = false ∨ (mayG s = true ∧ hasV s.fl 4 = true)) → Calls Tryd.prog 5 #[.agg #[.int .i64 s.fr, .int .i64 s.dt, .int .i64 s.sq, .int .i64 s.ak, .int .i64 s.fl, .int .i64 s.wi, .int .i64 s.ur, .int .i64 s.o.m, .int .i64 s.o.c, .int .i64 s.o.t, .int .i64 s.o.ec, .bool s.o.sd, .bool s.o.ok, .bool s.o.sp, v, .string s.da], .agg #[.int .i64 t.fr, .int .i64 t.dt, .int .i64 t.sq, .int .i64 t.ak, .int .i64 t.fl, .int .i64 t.wi, .int .i64 t.ur, .int .i64 t.o.m, .int .i64 t.o.c, .int .i64 t.o.t, .int .i64 t.o.ec, .bool t.o.sd, .bool t.o.ok, .bool t.o.sp, u, .string t.da]] w fun e w' => e = .returned (.bool true) ∧ Below w.heap.size w w' := fun h =>
    walk_k s t ⟨0, 0, 0, 0, 0, 0, 0, Op.zero, ⟨#[]⟩⟩ false v u w hG hv hu hn hm (fun W h1 h2 => reset_n s v W h1 hn h2 h) (fun W h1 => rreset_n s v W h1 hn h) (hs ⟨0, 0, 0, 0, 0, 0, 0, Op.zero, ⟨#[]⟩⟩ rfl)
  rcases Bool.eq_false_or_eq_true (mayG s) with h | h
  · rcases Bool.eq_false_or_eq_true (hasV s.fl 4) with h4 | h4
    · exact hnn (.inr ⟨h, h4⟩)
    · rcases Bool.eq_false_or_eq_true (hasV s.fl 16) with h16 | h16
      · exact walk_k s t (resA s) true v u w hG hv hu hn hm (fun W h1 h2 => reset_a s v W h1 hn h2 h h4 h16) (fun W h1 => rreset_a s v W h1 hn h h4 h16) (hs (resA s) rfl)
      · exact walk_k s t (resS s) true v u w hG hv hu hn hm (fun W h1 h2 => reset_s s v W h1 hn h2 h h4 h16 (addV s.sq (lenG s)) rfl) (fun W h1 => rreset_s s v W h1 hn h h4 h16 (addV s.sq (lenG s)) rfl) (hs (resS s) rfl)
  · exact hnn (.inl h)

theorem lifted (os : Os) (started : os.Started) (H : Type) (enc : TypeId × Value → H) :
    ReturnsInHanded {} Tryd.checked os 5 .any (fun w args => (Rows.segSameSpec.pre enc Tryd.prog Tryd.f5 [] false w args ∧ laidMetH Tryd.prog laidL w) ∧ sizedMet enc Tryd.prog Tryd.f5 (OpenSpec.ofChange Rows.segSameSpec) false w args)
      (Rows.segSameSpec.post enc Tryd.prog Tryd.f5 false true false false) := by
  refine returnsInHanded_of_change_and (C := Tryd.checked) (X := fun w _ => laidMetH Tryd.prog laidL w) (fun _ _ _ hh h => h.of_heap hh) ownK started (by kernel_rfl) Tryd.func5
    (ChangeSpec.witness_shaped (enc := enc) (C := Tryd.checked) (os := os) (X := fun w _ => laidMetH Tryd.prog laidL w) false (World.doorLaid Tryd.prog 400 os) #[.agg #[.int .i64 0, .int .i64 0, .int .i64 0, .int .i64 0, .int .i64 0, .int .i64 0, .int .i64 0, .int .i64 0, .int .i64 0, .int .i64 0, .int .i64 0, .bool false, .bool false, .bool false, .slice none 0 0, .string ByteArray.empty], .agg #[.int .i64 0, .int .i64 0, .int .i64 0, .int .i64 0, .int .i64 0, .int .i64 0, .int .i64 0, .int .i64 0, .int .i64 0, .int .i64 0, .int .i64 0, .bool false, .bool false, .bool false, .slice none 0 0, .string ByteArray.empty]] 8 rfl (World.shaped_of_RefB (by kernel_rfl) (by kernel_rfl)) (by kernel_rfl) (by kernel_rfl) (by kernel_rfl) (door_met os _)) ?_
  intro W base args ds gs before hval0 hW hcnd hsz0 hL _
  have hG := ord_of hL
  have hsz : (DataW.weightsEach Tryd.prog (Tryd.f5.params.toList ++ Rows.segSameSpec.plain.varTypes Tryd.prog) (ds ++ gs)).all (· ≤ reachBytes) = true := hsz0
  have hval : ∀ (j : Nat) t v, Tryd.f5.params[j]? = some t → args[j]? = some v → Value.okWide Tryd.prog W .any base t v := hval0
  have hW' := hW
  obtain ⟨p, q, hA0, hV, rfl, hfz, hnd⟩ := hW
  have hA : DataW.TrodAll enc Tryd.prog W 0 (fun _ => true) true Tryd.f5.params.toList args.toList ds p := hA0
  rw [Tryd.params5] at hA hval hsz
  obtain ⟨v0, vs0, d0, ds0, p0, q0, hargs, rfl, rfl, h0, r0⟩ := trodAll_cons hA
  obtain ⟨v1, vs1, d1, ds1, p1, q1, rfl, rfl, rfl, h1, r1⟩ := trodAll_cons r0
  obtain ⟨rfl, rfl, rfl⟩ := trodAll_nil r1
  obtain rfl : args = #[v0, v1] := by cases args; simp_all
  obtain ⟨rfl, rfl⟩ := trodVars_none hV
  have k0 := h0
  have lt0 : ∀ x ∈ p0, x.block < W.heap.size := by obtain ⟨m, hm⟩ := k0; exact DataW.trod_lt m _ _ _ hm
  have k1 := h1
  have lt1 : ∀ x ∈ p1, x.block < W.heap.size := by obtain ⟨m, hm⟩ := k1; exact DataW.trod_lt m _ _ _ hm
  obtain ⟨s0, u0, parts0, oparts0, rfl, hdp0, hp7_0, hp8_0, hr0, hw0⟩ := open28 (hval 0 28 v0 rfl rfl) h0
  have z0 := sized_28 hsz (j := 0) rfl (by rw [hdp0]; rfl) hp7_0 hp8_0 hw0
  obtain ⟨s1, u1, parts1, oparts1, rfl, hdp1, hp7_1, hp8_1, hr1, hw1⟩ := open28 (hval 1 28 v1 rfl rfl) h1
  have z1 := sized_28 hsz (j := 1) rfl (by rw [hdp1]; rfl) hp7_1 hp8_1 hw1
  clear hA0 hval0
  refine (walk s0 u0 s1 u1 W hG hr0 z0.1 z0.2 hr1 z1.1 z1.2).mono fun e W' ⟨he, bel⟩ => ?_
  subst he
  exact ⟨_, rfl, _, _, _, [], _, [], hW', trodAll_mk1 (shut_bool Tryd.underlying4 _), (trodAll_cons_mk (Below.trod laidOutK (by kernel_rfl) (of_decide_eq_true (by kernel_rfl)) k0 bel lt0) (trodAll_cons_mk (Below.trod laidOutK (by kernel_rfl) (of_decide_eq_true (by kernel_rfl)) k1 bel lt1) trodAll_mk0)), rfl, bel.frame _, fun h => by cases h⟩

theorem over : Rows.segSameRow.holds Tryd.pinned (OpenSpec.ofChange Rows.segSameSpec) :=
  OpenClaim.holds_of_wide 5 Tryd.f5 rfl rfl rfl rfl rfl rfl rfl ⟨rfl, rfl, rfl, rfl, rfl⟩ rfl rfl rfl rfl rfl (by kernel_rfl) Tryd.func5 (by kernel_rfl)
    (of_decide_eq_true (by kernel_rfl)) (by unfold Func.isWrapper; first | (rw [if_pos (by decide +kernel)]; kernel_rfl) | (rw [if_neg (by decide +kernel)]; exact ⟨rfl, rfl⟩))
    (fun os started H enc _ => lifted os started H enc)

end Go.Proofs.YtecoknenkjgmjabDoor.segSame
namespace Go.Proofs.YtecoknenkjgmjabDoor
open Go
theorem segSame_card_holds : Rows.SegSameCardSaid :=
  Claim7.holds_tied_plain_at .later [] [.data] true (true, "7a383cbcafb2e437da8d427f08dd0d5acda387abc0a856b5ba63ec94711a83ec") false
    segSame.over (fun _ h => by cases h) (by kernel_rfl) (fun _ h => by cases h) segSame_row_tie rfl ⟨rfl, rfl⟩ (by kernel_rfl) rfl
    (fun f fn hf hfn => by
      obtain rfl : f = 5 := Option.some.inj ((show Tryd.prog.funcNamed "sternpost/sternpostlaw08.SegSame" = some 5 by kernel_rfl).symm.trans hf) |>.symm
      obtain rfl : fn = Tryd.f5 := (Option.some.inj (Tryd.func5.symm.trans hfn)).symm
      exact ⟨by kernel_rfl, fun j t ht => by
        rw [Tryd.params5] at ht
        have hm : t ∈ [28, 28] := by simpa using Array.mem_of_getElem? ht
        have hall : ([28, 28].all fun u => !Tryd.prog.wantsStandIn u) = true := by kernel_rfl
        exact (show Tryd.prog.wantsStandIn t = false by simpa using List.all_eq_true.1 hall t hm)⟩)
    (by kernel_rfl)
end Go.Proofs.YtecoknenkjgmjabDoor
