/- For all two addresses, segments and flags: Encode, Check, Length and Has answer as the document's; and what came in reads as it did. Conditions: the card's own alone (the order of the kinds is what the program's text lays). -/
import Derived.Test.YtecoknenkjgmjabDoorSf
import Derived.Test.YtecoknenkjgmjabDoorTd
import Derived.Test.YtecoknenkjgmjabDoorTf
import Derived.Test.YtecoknenkjgmjabDoorGx
import Derived.Test.YtecoknenkjgmjabDoorFactsF
import Derived.Deep.Cut
import Derived.Deep.QuietTactic
import Derived.BigQuiet
import Derived.WalkSmall
import Derived.Test.YtecoknenkjgmjabDoorFs
import Derived.Test.YtecoknenkjgmjabDoorFt
import Derived.Test.YtecoknenkjgmjabDoorTie
import Derived.Test.YtecoknenkjgmjabDoorCards
import Derived.SevenTiedAt
import Derived.Stop.Joined
namespace Go.Proofs.YtecoknenkjgmjabDoor.segWrites
open Go.ChangeShapes Go.WideShapes Go.ChangeAt Go.RowKit
open Go.ChangeMaps (open_string)
set_option linter.unusedVariables false
set_option maxRecDepth 100000

-- WALK
set_option maxHeartbeats 8000000 in
theorem walk_k (f t : Int) (s : Sg) (v : Value) (fl : Int) (X : ByteArray) (c M LN : Int) (k : Bool) (w : World) (hG : Ord w) (hv : Rgs w v s.o.rs)
    (HE : Hid (∀ W, Rgs W v s.o.rs → Ord W → Calls Tryd.prog 9 #[.int .i64 f, .int .i64 t, .agg #[.int .i64 s.fr, .int .i64 s.dt, .int .i64 s.sq, .int .i64 s.ak, .int .i64 s.fl, .int .i64 s.wi, .int .i64 s.ur, .int .i64 s.o.m, .int .i64 s.o.c, .int .i64 s.o.t, .int .i64 s.o.ec, .bool s.o.sd, .bool s.o.ok, .bool s.o.sp, v, .string s.da]] W fun e w' => e = .returned (.tuple #[.string X, .int .i64 c]) ∧ Below W.heap.size W w'))
    (HR : Hid (∀ W, Rgs W v s.o.rs → Calls Tryd.prog 10 #[.int .i64 f, .int .i64 t, .agg #[.int .i64 s.fr, .int .i64 s.dt, .int .i64 s.sq, .int .i64 s.ak, .int .i64 s.fl, .int .i64 s.wi, .int .i64 s.ur, .int .i64 s.o.m, .int .i64 s.o.c, .int .i64 s.o.t, .int .i64 s.o.ec, .bool s.o.sd, .bool s.o.ok, .bool s.o.sp, v, .string s.da]] W fun e w' => e = .returned (.tuple #[.string X, .int .i64 c]) ∧ Below W.heap.size W w'))
    (HC : Hid (∀ W, Rgs W v s.o.rs → Ord W → Calls Tryd.prog 11 #[.agg #[.int .i64 s.fr, .int .i64 s.dt, .int .i64 s.sq, .int .i64 s.ak, .int .i64 s.fl, .int .i64 s.wi, .int .i64 s.ur, .int .i64 s.o.m, .int .i64 s.o.c, .int .i64 s.o.t, .int .i64 s.o.ec, .bool s.o.sd, .bool s.o.ok, .bool s.o.sp, v, .string s.da]] W fun e w' => e = .returned (.int .i64 M) ∧ Below W.heap.size W w'))
    (HRC : Hid (∀ W, Rgs W v s.o.rs → Calls Tryd.prog 12 #[.agg #[.int .i64 s.fr, .int .i64 s.dt, .int .i64 s.sq, .int .i64 s.ak, .int .i64 s.fl, .int .i64 s.wi, .int .i64 s.ur, .int .i64 s.o.m, .int .i64 s.o.c, .int .i64 s.o.t, .int .i64 s.o.ec, .bool s.o.sd, .bool s.o.ok, .bool s.o.sp, v, .string s.da]] W fun e w' => e = .returned (.int .i64 M) ∧ Below W.heap.size W w'))
    (HL : Hid (∀ W, Calls Tryd.prog 13 #[.agg #[.int .i64 s.fr, .int .i64 s.dt, .int .i64 s.sq, .int .i64 s.ak, .int .i64 s.fl, .int .i64 s.wi, .int .i64 s.ur, .int .i64 s.o.m, .int .i64 s.o.c, .int .i64 s.o.t, .int .i64 s.o.ec, .bool s.o.sd, .bool s.o.ok, .bool s.o.sp, v, .string s.da]] W fun e w' => e = .returned (.int .i64 LN) ∧ Below W.heap.size W w'))
    (HRL : Hid (∀ W, Calls Tryd.prog 14 #[.agg #[.int .i64 s.fr, .int .i64 s.dt, .int .i64 s.sq, .int .i64 s.ak, .int .i64 s.fl, .int .i64 s.wi, .int .i64 s.ur, .int .i64 s.o.m, .int .i64 s.o.c, .int .i64 s.o.t, .int .i64 s.o.ec, .bool s.o.sd, .bool s.o.ok, .bool s.o.sp, v, .string s.da]] W fun e w' => e = .returned (.int .i64 LN) ∧ Below W.heap.size W w'))
    (HH : Hid (∀ W, Calls Tryd.prog 15 #[.agg #[.int .i64 s.fr, .int .i64 s.dt, .int .i64 s.sq, .int .i64 s.ak, .int .i64 s.fl, .int .i64 s.wi, .int .i64 s.ur, .int .i64 s.o.m, .int .i64 s.o.c, .int .i64 s.o.t, .int .i64 s.o.ec, .bool s.o.sd, .bool s.o.ok, .bool s.o.sp, v, .string s.da], .int .i64 fl] W fun e w' => e = .returned (.bool k) ∧ Below W.heap.size W w'))
    (HRH : Hid (∀ W, Calls Tryd.prog 16 #[.agg #[.int .i64 s.fr, .int .i64 s.dt, .int .i64 s.sq, .int .i64 s.ak, .int .i64 s.fl, .int .i64 s.wi, .int .i64 s.ur, .int .i64 s.o.m, .int .i64 s.o.c, .int .i64 s.o.t, .int .i64 s.o.ec, .bool s.o.sd, .bool s.o.ok, .bool s.o.sp, v, .string s.da], .int .i64 fl] W fun e w' => e = .returned (.bool k) ∧ Below W.heap.size W w')) :
    Calls Tryd.prog 3 #[.agg #[.int .i64 f, .int .i64 t], .agg #[.int .i64 s.fr, .int .i64 s.dt, .int .i64 s.sq, .int .i64 s.ak, .int .i64 s.fl, .int .i64 s.wi, .int .i64 s.ur, .int .i64 s.o.m, .int .i64 s.o.c, .int .i64 s.o.t, .int .i64 s.o.ec, .bool s.o.sd, .bool s.o.ok, .bool s.o.sp, v, .string s.da], .int .i64 fl] w fun e w' => e = .returned (.bool true) ∧ Below w.heap.size w w' := by
  have hb1 := bel1 w (.cells #[.int .i64 f, .int .i64 t] 23)
  have hb2 := bel1 (w.alloc (.cells #[.int .i64 f, .int .i64 t] 23)) (.cells #[.int .i64 s.fr, .int .i64 s.dt, .int .i64 s.sq, .int .i64 s.ak, .int .i64 s.fl, .int .i64 s.wi, .int .i64 s.ur, .int .i64 s.o.m, .int .i64 s.o.c, .int .i64 s.o.t, .int .i64 s.o.ec, .bool s.o.sd, .bool s.o.ok, .bool s.o.sp, v, .string s.da] 28)
  have hA := (At.box w #[.int .i64 f, .int .i64 t] 23).later hb2
  have hQ := At.box2 w (.cells #[.int .i64 f, .int .i64 t] 23) #[.int .i64 s.fr, .int .i64 s.dt, .int .i64 s.sq, .int .i64 s.ak, .int .i64 s.fl, .int .i64 s.wi, .int .i64 s.ur, .int .i64 s.o.m, .int .i64 s.o.c, .int .i64 s.o.t, .int .i64 s.o.ec, .bool s.o.sd, .bool s.o.ok, .bool s.o.sp, v, .string s.da] 28
  have hl := bt hb1 hb2
  clear hb1 hb2
  go_enter Tryd.func3, Tryd.ntmps3
  go_upto_region 1 with fail
  generalize hw0 : (w.alloc (.cells #[.int .i64 f, .int .i64 t] 23)).alloc (.cells #[.int .i64 s.fr, .int .i64 s.dt, .int .i64 s.sq, .int .i64 s.ak, .int .i64 s.fl, .int .i64 s.wi, .int .i64 s.ur, .int .i64 s.o.m, .int .i64 s.o.c, .int .i64 s.o.t, .int .i64 s.o.ec, .bool s.o.sd, .bool s.o.ok, .bool s.o.sp, v, .string s.da] 28) = w0 at *
  clear hw0
  have c0 := (hA.2 0 _ rfl).1
  have c1 := (hA.2 1 _ rfl).1
  go_wp2_with (refine wpList_loadG 28 _ (by rfl) (by rfl) (w.heap.size + 1) 0 (by rfl) _ _ hQ.range Tryd.underlying28 rfl size28 ?_)
  refine (HE.out _ (hv.later hl) (hG.later hl)).mono ?_
  rintro e w2 ⟨rfl, hb⟩
  replace hl := bt hl hb
  replace hA := hA.later hb
  replace hQ := hQ.later hb
  clear hb HE c0 c1
  have c0 := (hA.2 0 _ rfl).1
  have c1 := (hA.2 1 _ rfl).1
  go_wp2_with (refine wpList_loadG 28 _ (by rfl) (by rfl) (w.heap.size + 1) 0 (by rfl) _ _ hQ.range Tryd.underlying28 rfl size28 ?_)
  refine (HR.out _ (hv.later hl)).mono ?_
  rintro e w3 ⟨rfl, hb⟩
  replace hl := bt hl hb
  replace hQ := hQ.later hb
  clear hb HR c0 c1 hA
  go_upto_region 3 with fail
  go_cut [11] from 12 (fun q W => q = .bool true ∧ Below w.heap.size w W ∧ At W (w.heap.size + 1) #[.int .i64 s.fr, .int .i64 s.dt, .int .i64 s.sq, .int .i64 s.ak, .int .i64 s.fl, .int .i64 s.wi, .int .i64 s.ur, .int .i64 s.o.m, .int .i64 s.o.c, .int .i64 s.o.t, .int .i64 s.o.ec, .bool s.o.sd, .bool s.o.ok, .bool s.o.sp, v, .string s.da])
  case first =>
    go_wp2
    go_meet
    case rel => exact ⟨rfl, hl, hQ⟩
  case rest =>
  clear hl hQ
  obtain ⟨rfl, hl, hQ⟩ := hcut
  go_wp2
  refine wp_region_any (by kernel_rfl) ?_
  refine region_facts (fun W => Below w.heap.size w W ∧ At W (w.heap.size + 1) #[.int .i64 s.fr, .int .i64 s.dt, .int .i64 s.sq, .int .i64 s.ak, .int .i64 s.fl, .int .i64 s.wi, .int .i64 s.ur, .int .i64 s.o.m, .int .i64 s.o.c, .int .i64 s.o.t, .int .i64 s.o.ec, .bool s.o.sd, .bool s.o.ok, .bool s.o.sp, v, .string s.da]) (GE (fun qq => match qq with | 0 => .bool true | 1 => .bool true | 2 => .string X | 3 => .string X | 4 => .bool true | 5 => .bool true | 6 => .bool true | 7 => .int .i64 c | 8 => .int .i64 c | 9 => .bool true | 10 => .bool true | 11 => .bool true | 12 => .agg #[.int .i64 s.fr, .int .i64 s.dt, .int .i64 s.sq, .int .i64 s.ak, .int .i64 s.fl, .int .i64 s.wi, .int .i64 s.ur, .int .i64 s.o.m, .int .i64 s.o.c, .int .i64 s.o.t, .int .i64 s.o.ec, .bool s.o.sd, .bool s.o.ok, .bool s.o.sp, v, .string s.da] | 13 => .int .i64 M | 14 => .agg #[.int .i64 s.fr, .int .i64 s.dt, .int .i64 s.sq, .int .i64 s.ak, .int .i64 s.fl, .int .i64 s.wi, .int .i64 s.ur, .int .i64 s.o.m, .int .i64 s.o.c, .int .i64 s.o.t, .int .i64 s.o.ec, .bool s.o.sd, .bool s.o.ok, .bool s.o.sp, v, .string s.da] | 15 => .int .i64 M | 16 => .bool true | 17 => .bool true | 18 => .bool true | 19 => .agg #[.int .i64 s.fr, .int .i64 s.dt, .int .i64 s.sq, .int .i64 s.ak, .int .i64 s.fl, .int .i64 s.wi, .int .i64 s.ur, .int .i64 s.o.m, .int .i64 s.o.c, .int .i64 s.o.t, .int .i64 s.o.ec, .bool s.o.sd, .bool s.o.ok, .bool s.o.sp, v, .string s.da] | 20 => .int .i64 LN | 21 => .agg #[.int .i64 s.fr, .int .i64 s.dt, .int .i64 s.sq, .int .i64 s.ak, .int .i64 s.fl, .int .i64 s.wi, .int .i64 s.ur, .int .i64 s.o.m, .int .i64 s.o.c, .int .i64 s.o.t, .int .i64 s.o.ec, .bool s.o.sd, .bool s.o.ok, .bool s.o.sp, v, .string s.da] | 22 => .int .i64 LN | 23 => .bool true | 24 => .bool true | 25 => .bool true | 26 => .agg #[.int .i64 s.fr, .int .i64 s.dt, .int .i64 s.sq, .int .i64 s.ak, .int .i64 s.fl, .int .i64 s.wi, .int .i64 s.ur, .int .i64 s.o.m, .int .i64 s.o.c, .int .i64 s.o.t, .int .i64 s.o.ec, .bool s.o.sd, .bool s.o.ok, .bool s.o.sp, v, .string s.da] | 27 => .int .i64 fl | 28 => .bool k | 29 => .agg #[.int .i64 s.fr, .int .i64 s.dt, .int .i64 s.sq, .int .i64 s.ak, .int .i64 s.fl, .int .i64 s.wi, .int .i64 s.ur, .int .i64 s.o.m, .int .i64 s.o.c, .int .i64 s.o.t, .int .i64 s.o.ec, .bool s.o.sd, .bool s.o.ok, .bool s.o.sp, v, .string s.da] | 30 => .int .i64 fl | 31 => .bool k | 32 => .bool true | 33 => .bool true | 34 => .bool true | 35 => .bool true | 36 => .bool true | 37 => .bool true | _ => undef) (fun _ => none)) (n := 67) (by kernel_rfl) rfl (by kernel_rfl) (GE_later _ _ (fun _ _ h => by cases h)) ?_ ?_ ⟨hl.drew, hQ.later ((Below.refl _ _).drew)⟩ (Nat.le_refl _)
  · clear hl hQ
    refine ⟨?_, ?_, ?_, ?_, ?_, ?_, ?_, ?_, ?_, ?_, ?_, ?_, ?_, ?_, ?_, ?_, ?_, ?_, ?_, ?_, ?_, ?_, ?_, ?_, ?_, ?_, ?_, ?_, ?_, ?_, ?_, ?_, ?_, ?_, ?_, ?_, ?_, ?_, trivial⟩
    · intro ac w1 hS hT hB hD K hK
      rw [if_pos (by rfl)]
      have d11 : ac.tmps.getD 11 undef = .bool true := hB 11 (by kernel_rfl)
      clear hB hD hT
      go_simp
      exact hK _ _ hS (Below.refl _ _) rfl
    · intro ac w1 hS hT hB hD K hK
      rw [if_pos (by rfl)]
      have d30 : ac.tmps.getD 30 undef = .bool true := hD ⟨0, .data⟩ (by simp) rfl _ 30 rfl rfl
      clear hB hD hT
      go_simp
      exact hK _ _ hS (Below.refl _ _) rfl
    · intro ac w1 hS hT hB hD K hK
      have g31 : ac.tmps.getD 31 undef = .bool true := hD ⟨1, .guard⟩ (by simp) rfl _ 31 rfl rfl
      rw [if_pos (want_t (j := 1) (d := 31) rfl rfl g31)]
      clear g31
      have d7 : ac.tmps.getD 7 undef = .string X := hB 7 (by kernel_rfl)
      clear hB hD hT
      go_simp
      exact hK _ _ hS (Below.refl _ _) rfl
    · intro ac w1 hS hT hB hD K hK
      have g31 : ac.tmps.getD 31 undef = .bool true := hD ⟨1, .guard⟩ (by simp) rfl _ 31 rfl rfl
      rw [if_pos (want_t (j := 1) (d := 31) rfl rfl g31)]
      clear g31
      have d9 : ac.tmps.getD 9 undef = .string X := hB 9 (by kernel_rfl)
      clear hB hD hT
      go_simp
      exact hK _ _ hS (Below.refl _ _) rfl
    · intro ac w1 hS hT hB hD K hK
      have g31 : ac.tmps.getD 31 undef = .bool true := hD ⟨1, .guard⟩ (by simp) rfl _ 31 rfl rfl
      rw [if_pos (want_t (j := 1) (d := 31) rfl rfl g31)]
      clear g31
      have d32 : ac.tmps.getD 32 undef = .string X := hD ⟨2, .data⟩ (by simp) rfl _ 32 rfl rfl
      have d33 : ac.tmps.getD 33 undef = .string X := hD ⟨3, .data⟩ (by simp) rfl _ 33 rfl rfl
      clear hB hD hT
      go_simp
      exact hK _ _ hS (Below.refl _ _) rfl
    · intro ac w1 hS hT hB hD K hK
      rw [if_pos (by rfl)]
      have d31 : ac.tmps.getD 31 undef = .bool true := hD ⟨1, .data⟩ (by simp) rfl _ 31 rfl rfl
      have d34 : ac.tmps.getD 34 undef = .bool true := hD ⟨4, .data⟩ (by simp) rfl _ 34 rfl rfl
      clear hB hD hT
      go_simp
      exact hK _ _ hS (Below.refl _ _) rfl
    · intro ac w1 hS hT hB hD K hK
      rw [if_pos (by rfl)]
      have d35 : ac.tmps.getD 35 undef = .bool true := hD ⟨5, .data⟩ (by simp) rfl _ 35 rfl rfl
      clear hB hD hT
      go_simp
      exact hK _ _ hS (Below.refl _ _) rfl
    · intro ac w1 hS hT hB hD K hK
      have g36 : ac.tmps.getD 36 undef = .bool true := hD ⟨6, .guard⟩ (by simp) rfl _ 36 rfl rfl
      rw [if_pos (want_t (j := 6) (d := 36) rfl rfl g36)]
      clear g36
      have d8 : ac.tmps.getD 8 undef = .int .i64 c := hB 8 (by kernel_rfl)
      clear hB hD hT
      go_simp
      exact hK _ _ hS (Below.refl _ _) rfl
    · intro ac w1 hS hT hB hD K hK
      have g36 : ac.tmps.getD 36 undef = .bool true := hD ⟨6, .guard⟩ (by simp) rfl _ 36 rfl rfl
      rw [if_pos (want_t (j := 6) (d := 36) rfl rfl g36)]
      clear g36
      have d10 : ac.tmps.getD 10 undef = .int .i64 c := hB 10 (by kernel_rfl)
      clear hB hD hT
      go_simp
      exact hK _ _ hS (Below.refl _ _) rfl
    · intro ac w1 hS hT hB hD K hK
      have g36 : ac.tmps.getD 36 undef = .bool true := hD ⟨6, .guard⟩ (by simp) rfl _ 36 rfl rfl
      rw [if_pos (want_t (j := 6) (d := 36) rfl rfl g36)]
      clear g36
      have d37 : ac.tmps.getD 37 undef = .int .i64 c := hD ⟨7, .data⟩ (by simp) rfl _ 37 rfl rfl
      have d38 : ac.tmps.getD 38 undef = .int .i64 c := hD ⟨8, .data⟩ (by simp) rfl _ 38 rfl rfl
      clear hB hD hT
      go_simp
      exact hK _ _ hS (Below.refl _ _) rfl
    · intro ac w1 hS hT hB hD K hK
      rw [if_pos (by rfl)]
      have d36 : ac.tmps.getD 36 undef = .bool true := hD ⟨6, .data⟩ (by simp) rfl _ 36 rfl rfl
      have d39 : ac.tmps.getD 39 undef = .bool true := hD ⟨9, .data⟩ (by simp) rfl _ 39 rfl rfl
      clear hB hD hT
      go_simp
      exact hK _ _ hS (Below.refl _ _) rfl
    · intro ac w1 hS hT hB hD K hK
      rw [if_pos (by rfl)]
      have d40 : ac.tmps.getD 40 undef = .bool true := hD ⟨10, .data⟩ (by simp) rfl _ 40 rfl rfl
      clear hB hD hT
      go_simp
      exact hK _ _ hS (Below.refl _ _) rfl
    · intro ac w1 hS hT hB hD K hK
      have g41 : ac.tmps.getD 41 undef = .bool true := hD ⟨11, .guard⟩ (by simp) rfl _ 41 rfl rfl
      rw [if_pos (want_t (j := 11) (d := 41) rfl rfl g41)]
      clear g41
      have d4 : ac.tmps.getD 4 undef = .pointer (some ⟨w.heap.size + 1, 0, none⟩) := hB 4 (by kernel_rfl)
      clear hB hD hT
      exact wp_load_mid 28 (.tmp 4) rfl (w.heap.size + 1) 0 d4 _ _ hS.2.range Tryd.underlying28 rfl size28 (hK _ _ hS (Below.refl _ _) rfl)
    · intro ac w1 hS hT hB hD K hK
      have g41 : ac.tmps.getD 41 undef = .bool true := hD ⟨11, .guard⟩ (by simp) rfl _ 41 rfl rfl
      rw [if_pos (want_t (j := 11) (d := 41) rfl rfl g41)]
      clear g41
      have d42 : ac.tmps.getD 42 undef = .agg #[.int .i64 s.fr, .int .i64 s.dt, .int .i64 s.sq, .int .i64 s.ak, .int .i64 s.fl, .int .i64 s.wi, .int .i64 s.ur, .int .i64 s.o.m, .int .i64 s.o.c, .int .i64 s.o.t, .int .i64 s.o.ec, .bool s.o.sd, .bool s.o.ok, .bool s.o.sp, v, .string s.da] := hD ⟨12, .data⟩ (by simp) rfl _ 42 rfl rfl
      clear hB hD hT
      go_simp
      refine (HC.out _ (hv.later hS.1) (hG.later hS.1)).mono ?_
      rintro e w' ⟨rfl, hb⟩
      exact hK _ _ ⟨bt hS.1 hb, hS.2.later hb⟩ hb rfl
    · intro ac w1 hS hT hB hD K hK
      have g41 : ac.tmps.getD 41 undef = .bool true := hD ⟨11, .guard⟩ (by simp) rfl _ 41 rfl rfl
      rw [if_pos (want_t (j := 11) (d := 41) rfl rfl g41)]
      clear g41
      have d4 : ac.tmps.getD 4 undef = .pointer (some ⟨w.heap.size + 1, 0, none⟩) := hB 4 (by kernel_rfl)
      clear hB hD hT
      exact wp_load_mid 28 (.tmp 4) rfl (w.heap.size + 1) 0 d4 _ _ hS.2.range Tryd.underlying28 rfl size28 (hK _ _ hS (Below.refl _ _) rfl)
    · intro ac w1 hS hT hB hD K hK
      have g41 : ac.tmps.getD 41 undef = .bool true := hD ⟨11, .guard⟩ (by simp) rfl _ 41 rfl rfl
      rw [if_pos (want_t (j := 11) (d := 41) rfl rfl g41)]
      clear g41
      have d44 : ac.tmps.getD 44 undef = .agg #[.int .i64 s.fr, .int .i64 s.dt, .int .i64 s.sq, .int .i64 s.ak, .int .i64 s.fl, .int .i64 s.wi, .int .i64 s.ur, .int .i64 s.o.m, .int .i64 s.o.c, .int .i64 s.o.t, .int .i64 s.o.ec, .bool s.o.sd, .bool s.o.ok, .bool s.o.sp, v, .string s.da] := hD ⟨14, .data⟩ (by simp) rfl _ 44 rfl rfl
      clear hB hD hT
      go_simp
      refine (HRC.out _ (hv.later hS.1)).mono ?_
      rintro e w' ⟨rfl, hb⟩
      exact hK _ _ ⟨bt hS.1 hb, hS.2.later hb⟩ hb rfl
    · intro ac w1 hS hT hB hD K hK
      have g41 : ac.tmps.getD 41 undef = .bool true := hD ⟨11, .guard⟩ (by simp) rfl _ 41 rfl rfl
      rw [if_pos (want_t (j := 11) (d := 41) rfl rfl g41)]
      clear g41
      have d43 : ac.tmps.getD 43 undef = .int .i64 M := hD ⟨13, .data⟩ (by simp) rfl _ 43 rfl rfl
      have d45 : ac.tmps.getD 45 undef = .int .i64 M := hD ⟨15, .data⟩ (by simp) rfl _ 45 rfl rfl
      clear hB hD hT
      go_simp
      exact hK _ _ hS (Below.refl _ _) rfl
    · intro ac w1 hS hT hB hD K hK
      rw [if_pos (by rfl)]
      have d41 : ac.tmps.getD 41 undef = .bool true := hD ⟨11, .data⟩ (by simp) rfl _ 41 rfl rfl
      have d46 : ac.tmps.getD 46 undef = .bool true := hD ⟨16, .data⟩ (by simp) rfl _ 46 rfl rfl
      clear hB hD hT
      go_simp
      exact hK _ _ hS (Below.refl _ _) rfl
    · intro ac w1 hS hT hB hD K hK
      rw [if_pos (by rfl)]
      have d47 : ac.tmps.getD 47 undef = .bool true := hD ⟨17, .data⟩ (by simp) rfl _ 47 rfl rfl
      clear hB hD hT
      go_simp
      exact hK _ _ hS (Below.refl _ _) rfl
    · intro ac w1 hS hT hB hD K hK
      have g48 : ac.tmps.getD 48 undef = .bool true := hD ⟨18, .guard⟩ (by simp) rfl _ 48 rfl rfl
      rw [if_pos (want_t (j := 18) (d := 48) rfl rfl g48)]
      clear g48
      have d4 : ac.tmps.getD 4 undef = .pointer (some ⟨w.heap.size + 1, 0, none⟩) := hB 4 (by kernel_rfl)
      clear hB hD hT
      exact wp_load_mid 28 (.tmp 4) rfl (w.heap.size + 1) 0 d4 _ _ hS.2.range Tryd.underlying28 rfl size28 (hK _ _ hS (Below.refl _ _) rfl)
    · intro ac w1 hS hT hB hD K hK
      have g48 : ac.tmps.getD 48 undef = .bool true := hD ⟨18, .guard⟩ (by simp) rfl _ 48 rfl rfl
      rw [if_pos (want_t (j := 18) (d := 48) rfl rfl g48)]
      clear g48
      have d49 : ac.tmps.getD 49 undef = .agg #[.int .i64 s.fr, .int .i64 s.dt, .int .i64 s.sq, .int .i64 s.ak, .int .i64 s.fl, .int .i64 s.wi, .int .i64 s.ur, .int .i64 s.o.m, .int .i64 s.o.c, .int .i64 s.o.t, .int .i64 s.o.ec, .bool s.o.sd, .bool s.o.ok, .bool s.o.sp, v, .string s.da] := hD ⟨19, .data⟩ (by simp) rfl _ 49 rfl rfl
      clear hB hD hT
      go_simp
      refine (HL.out _).mono ?_
      rintro e w' ⟨rfl, hb⟩
      exact hK _ _ ⟨bt hS.1 hb, hS.2.later hb⟩ hb rfl
    · intro ac w1 hS hT hB hD K hK
      have g48 : ac.tmps.getD 48 undef = .bool true := hD ⟨18, .guard⟩ (by simp) rfl _ 48 rfl rfl
      rw [if_pos (want_t (j := 18) (d := 48) rfl rfl g48)]
      clear g48
      have d4 : ac.tmps.getD 4 undef = .pointer (some ⟨w.heap.size + 1, 0, none⟩) := hB 4 (by kernel_rfl)
      clear hB hD hT
      exact wp_load_mid 28 (.tmp 4) rfl (w.heap.size + 1) 0 d4 _ _ hS.2.range Tryd.underlying28 rfl size28 (hK _ _ hS (Below.refl _ _) rfl)
    · intro ac w1 hS hT hB hD K hK
      have g48 : ac.tmps.getD 48 undef = .bool true := hD ⟨18, .guard⟩ (by simp) rfl _ 48 rfl rfl
      rw [if_pos (want_t (j := 18) (d := 48) rfl rfl g48)]
      clear g48
      have d51 : ac.tmps.getD 51 undef = .agg #[.int .i64 s.fr, .int .i64 s.dt, .int .i64 s.sq, .int .i64 s.ak, .int .i64 s.fl, .int .i64 s.wi, .int .i64 s.ur, .int .i64 s.o.m, .int .i64 s.o.c, .int .i64 s.o.t, .int .i64 s.o.ec, .bool s.o.sd, .bool s.o.ok, .bool s.o.sp, v, .string s.da] := hD ⟨21, .data⟩ (by simp) rfl _ 51 rfl rfl
      clear hB hD hT
      go_simp
      refine (HRL.out _).mono ?_
      rintro e w' ⟨rfl, hb⟩
      exact hK _ _ ⟨bt hS.1 hb, hS.2.later hb⟩ hb rfl
    · intro ac w1 hS hT hB hD K hK
      have g48 : ac.tmps.getD 48 undef = .bool true := hD ⟨18, .guard⟩ (by simp) rfl _ 48 rfl rfl
      rw [if_pos (want_t (j := 18) (d := 48) rfl rfl g48)]
      clear g48
      have d50 : ac.tmps.getD 50 undef = .int .i64 LN := hD ⟨20, .data⟩ (by simp) rfl _ 50 rfl rfl
      have d52 : ac.tmps.getD 52 undef = .int .i64 LN := hD ⟨22, .data⟩ (by simp) rfl _ 52 rfl rfl
      clear hB hD hT
      go_simp
      exact hK _ _ hS (Below.refl _ _) rfl
    · intro ac w1 hS hT hB hD K hK
      rw [if_pos (by rfl)]
      have d48 : ac.tmps.getD 48 undef = .bool true := hD ⟨18, .data⟩ (by simp) rfl _ 48 rfl rfl
      have d53 : ac.tmps.getD 53 undef = .bool true := hD ⟨23, .data⟩ (by simp) rfl _ 53 rfl rfl
      clear hB hD hT
      go_simp
      exact hK _ _ hS (Below.refl _ _) rfl
    · intro ac w1 hS hT hB hD K hK
      rw [if_pos (by rfl)]
      have d54 : ac.tmps.getD 54 undef = .bool true := hD ⟨24, .data⟩ (by simp) rfl _ 54 rfl rfl
      clear hB hD hT
      go_simp
      exact hK _ _ hS (Below.refl _ _) rfl
    · intro ac w1 hS hT hB hD K hK
      have g55 : ac.tmps.getD 55 undef = .bool true := hD ⟨25, .guard⟩ (by simp) rfl _ 55 rfl rfl
      rw [if_pos (want_t (j := 25) (d := 55) rfl rfl g55)]
      clear g55
      have d4 : ac.tmps.getD 4 undef = .pointer (some ⟨w.heap.size + 1, 0, none⟩) := hB 4 (by kernel_rfl)
      clear hB hD hT
      exact wp_load_mid 28 (.tmp 4) rfl (w.heap.size + 1) 0 d4 _ _ hS.2.range Tryd.underlying28 rfl size28 (hK _ _ hS (Below.refl _ _) rfl)
    · intro ac w1 hS hT hB hD K hK
      have g55 : ac.tmps.getD 55 undef = .bool true := hD ⟨25, .guard⟩ (by simp) rfl _ 55 rfl rfl
      rw [if_pos (want_t (j := 25) (d := 55) rfl rfl g55)]
      clear g55
      have d2 : ac.tmps.getD 2 undef = .int .i64 fl := hB 2 (by kernel_rfl)
      clear hB hD hT
      go_simp
      exact hK _ _ hS (Below.refl _ _) rfl
    · intro ac w1 hS hT hB hD K hK
      have g55 : ac.tmps.getD 55 undef = .bool true := hD ⟨25, .guard⟩ (by simp) rfl _ 55 rfl rfl
      rw [if_pos (want_t (j := 25) (d := 55) rfl rfl g55)]
      clear g55
      have d56 : ac.tmps.getD 56 undef = .agg #[.int .i64 s.fr, .int .i64 s.dt, .int .i64 s.sq, .int .i64 s.ak, .int .i64 s.fl, .int .i64 s.wi, .int .i64 s.ur, .int .i64 s.o.m, .int .i64 s.o.c, .int .i64 s.o.t, .int .i64 s.o.ec, .bool s.o.sd, .bool s.o.ok, .bool s.o.sp, v, .string s.da] := hD ⟨26, .data⟩ (by simp) rfl _ 56 rfl rfl
      have d57 : ac.tmps.getD 57 undef = .int .i64 fl := hD ⟨27, .data⟩ (by simp) rfl _ 57 rfl rfl
      clear hB hD hT
      go_simp
      refine (HH.out _).mono ?_
      rintro e w' ⟨rfl, hb⟩
      exact hK _ _ ⟨bt hS.1 hb, hS.2.later hb⟩ hb rfl
    · intro ac w1 hS hT hB hD K hK
      have g55 : ac.tmps.getD 55 undef = .bool true := hD ⟨25, .guard⟩ (by simp) rfl _ 55 rfl rfl
      rw [if_pos (want_t (j := 25) (d := 55) rfl rfl g55)]
      clear g55
      have d4 : ac.tmps.getD 4 undef = .pointer (some ⟨w.heap.size + 1, 0, none⟩) := hB 4 (by kernel_rfl)
      clear hB hD hT
      exact wp_load_mid 28 (.tmp 4) rfl (w.heap.size + 1) 0 d4 _ _ hS.2.range Tryd.underlying28 rfl size28 (hK _ _ hS (Below.refl _ _) rfl)
    · intro ac w1 hS hT hB hD K hK
      have g55 : ac.tmps.getD 55 undef = .bool true := hD ⟨25, .guard⟩ (by simp) rfl _ 55 rfl rfl
      rw [if_pos (want_t (j := 25) (d := 55) rfl rfl g55)]
      clear g55
      have d2 : ac.tmps.getD 2 undef = .int .i64 fl := hB 2 (by kernel_rfl)
      clear hB hD hT
      go_simp
      exact hK _ _ hS (Below.refl _ _) rfl
    · intro ac w1 hS hT hB hD K hK
      have g55 : ac.tmps.getD 55 undef = .bool true := hD ⟨25, .guard⟩ (by simp) rfl _ 55 rfl rfl
      rw [if_pos (want_t (j := 25) (d := 55) rfl rfl g55)]
      clear g55
      have d59 : ac.tmps.getD 59 undef = .agg #[.int .i64 s.fr, .int .i64 s.dt, .int .i64 s.sq, .int .i64 s.ak, .int .i64 s.fl, .int .i64 s.wi, .int .i64 s.ur, .int .i64 s.o.m, .int .i64 s.o.c, .int .i64 s.o.t, .int .i64 s.o.ec, .bool s.o.sd, .bool s.o.ok, .bool s.o.sp, v, .string s.da] := hD ⟨29, .data⟩ (by simp) rfl _ 59 rfl rfl
      have d60 : ac.tmps.getD 60 undef = .int .i64 fl := hD ⟨30, .data⟩ (by simp) rfl _ 60 rfl rfl
      clear hB hD hT
      go_simp
      refine (HRH.out _).mono ?_
      rintro e w' ⟨rfl, hb⟩
      exact hK _ _ ⟨bt hS.1 hb, hS.2.later hb⟩ hb rfl
    · intro ac w1 hS hT hB hD K hK
      have g55 : ac.tmps.getD 55 undef = .bool true := hD ⟨25, .guard⟩ (by simp) rfl _ 55 rfl rfl
      rw [if_pos (want_t (j := 25) (d := 55) rfl rfl g55)]
      clear g55
      have d58 : ac.tmps.getD 58 undef = .bool k := hD ⟨28, .data⟩ (by simp) rfl _ 58 rfl rfl
      have d61 : ac.tmps.getD 61 undef = .bool k := hD ⟨31, .data⟩ (by simp) rfl _ 61 rfl rfl
      clear hB hD hT
      cases k <;> go_simp
      all_goals exact hK _ _ hS (Below.refl _ _) rfl
    · intro ac w1 hS hT hB hD K hK
      rw [if_pos (by rfl)]
      have d55 : ac.tmps.getD 55 undef = .bool true := hD ⟨25, .data⟩ (by simp) rfl _ 55 rfl rfl
      have d62 : ac.tmps.getD 62 undef = .bool true := hD ⟨32, .data⟩ (by simp) rfl _ 62 rfl rfl
      clear hB hD hT
      go_simp
      exact hK _ _ hS (Below.refl _ _) rfl
    · intro ac w1 hS hT hB hD K hK
      rw [if_pos (by rfl)]
      have d63 : ac.tmps.getD 63 undef = .bool true := hD ⟨33, .data⟩ (by simp) rfl _ 63 rfl rfl
      clear hB hD hT
      go_simp
      exact hK _ _ hS (Below.refl _ _) rfl
    · intro ac w1 hS hT hB hD K hK
      have g64 : ac.tmps.getD 64 undef = .bool true := hD ⟨34, .guard⟩ (by simp) rfl _ 64 rfl rfl
      rw [if_pos (want_t (j := 34) (d := 64) rfl rfl g64)]
      clear g64
      clear hB hD hT
      go_simp
      refine (works_s _ (hG.later hS.1)).mono ?_
      rintro e w' ⟨rfl, hb⟩
      exact hK _ _ ⟨bt hS.1 hb, hS.2.later hb⟩ hb rfl
    · intro ac w1 hS hT hB hD K hK
      rw [if_pos (by rfl)]
      have d64 : ac.tmps.getD 64 undef = .bool true := hD ⟨34, .data⟩ (by simp) rfl _ 64 rfl rfl
      have d65 : ac.tmps.getD 65 undef = .bool true := hD ⟨35, .data⟩ (by simp) rfl _ 65 rfl rfl
      clear hB hD hT
      go_simp
      exact hK _ _ hS (Below.refl _ _) rfl
    · intro ac w1 hS hT hB hD K hK
      rw [if_pos (by rfl)]
      have d66 : ac.tmps.getD 66 undef = .bool true := hD ⟨36, .data⟩ (by simp) rfl _ 66 rfl rfl
      clear hB hD hT
      go_simp
      exact hK _ _ hS (Below.refl _ _) rfl
  · intro ac w9 hS hT hdf hB hF
    clear hl hQ
    have hfr : ac.tmps = #[.agg #[.int .i64 f, .int .i64 t], .agg #[.int .i64 s.fr, .int .i64 s.dt, .int .i64 s.sq, .int .i64 s.ak, .int .i64 s.fl, .int .i64 s.wi, .int .i64 s.ur, .int .i64 s.o.m, .int .i64 s.o.c, .int .i64 s.o.t, .int .i64 s.o.ec, .bool s.o.sd, .bool s.o.ok, .bool s.o.sp, v, .string s.da], .int .i64 fl, .pointer (some ⟨w.heap.size, 0, none⟩), .pointer (some ⟨w.heap.size + 1, 0, none⟩), undef, (ac.tmps.getD 6 undef), .string X, .int .i64 c, .string X, .int .i64 c, .bool true, u12, u13, u14, u15, u16, u17, u18, u19, u20, u21, u22, u23, u24, u25, u26, u27, u28, u29, (ac.tmps.getD 30 undef), (ac.tmps.getD 31 undef), (ac.tmps.getD 32 undef), (ac.tmps.getD 33 undef), (ac.tmps.getD 34 undef), (ac.tmps.getD 35 undef), (ac.tmps.getD 36 undef), (ac.tmps.getD 37 undef), (ac.tmps.getD 38 undef), (ac.tmps.getD 39 undef), (ac.tmps.getD 40 undef), (ac.tmps.getD 41 undef), (ac.tmps.getD 42 undef), (ac.tmps.getD 43 undef), (ac.tmps.getD 44 undef), (ac.tmps.getD 45 undef), (ac.tmps.getD 46 undef), (ac.tmps.getD 47 undef), (ac.tmps.getD 48 undef), (ac.tmps.getD 49 undef), (ac.tmps.getD 50 undef), (ac.tmps.getD 51 undef), (ac.tmps.getD 52 undef), (ac.tmps.getD 53 undef), (ac.tmps.getD 54 undef), (ac.tmps.getD 55 undef), (ac.tmps.getD 56 undef), (ac.tmps.getD 57 undef), (ac.tmps.getD 58 undef), (ac.tmps.getD 59 undef), (ac.tmps.getD 60 undef), (ac.tmps.getD 61 undef), (ac.tmps.getD 62 undef), (ac.tmps.getD 63 undef), (ac.tmps.getD 64 undef), (ac.tmps.getD 65 undef), (ac.tmps.getD 66 undef)] := (frame_eq hT rfl hB).trans (by kernel_rfl)
    obtain ⟨T, df⟩ := ac
    have s6 : T.getD 6 undef = .bool true := hF 37 _ 6 rfl rfl
    have sdf : df = [] := hdf
    simp only at hfr
    clear hB hF hT hdf
    generalize T.getD 30 undef = y30 at *
    generalize T.getD 31 undef = y31 at *
    generalize T.getD 32 undef = y32 at *
    generalize T.getD 33 undef = y33 at *
    generalize T.getD 34 undef = y34 at *
    generalize T.getD 35 undef = y35 at *
    generalize T.getD 36 undef = y36 at *
    generalize T.getD 37 undef = y37 at *
    generalize T.getD 38 undef = y38 at *
    generalize T.getD 39 undef = y39 at *
    generalize T.getD 40 undef = y40 at *
    generalize T.getD 41 undef = y41 at *
    generalize T.getD 42 undef = y42 at *
    generalize T.getD 43 undef = y43 at *
    generalize T.getD 44 undef = y44 at *
    generalize T.getD 45 undef = y45 at *
    generalize T.getD 46 undef = y46 at *
    generalize T.getD 47 undef = y47 at *
    generalize T.getD 48 undef = y48 at *
    generalize T.getD 49 undef = y49 at *
    generalize T.getD 50 undef = y50 at *
    generalize T.getD 51 undef = y51 at *
    generalize T.getD 52 undef = y52 at *
    generalize T.getD 53 undef = y53 at *
    generalize T.getD 54 undef = y54 at *
    generalize T.getD 55 undef = y55 at *
    generalize T.getD 56 undef = y56 at *
    generalize T.getD 57 undef = y57 at *
    generalize T.getD 58 undef = y58 at *
    generalize T.getD 59 undef = y59 at *
    generalize T.getD 60 undef = y60 at *
    generalize T.getD 61 undef = y61 at *
    generalize T.getD 62 undef = y62 at *
    generalize T.getD 63 undef = y63 at *
    generalize T.getD 64 undef = y64 at *
    generalize T.getD 65 undef = y65 at *
    generalize T.getD 66 undef = y66 at *
    generalize T.getD 6 undef = y6 at *
    subst hfr s6 sdf
    go_wp2
    go_ret
    exact ⟨rfl, hS.1⟩
theorem walk (f t : Int) (s : Sg) (v : Value) (fl : Int) (w : World) (hG : Ord w) (h0 : (Lit.int .i64 f).wf = true) (h1 : (Lit.int .i64 t).wf = true) (hv : Rgs w v s.o.rs) (hz : s.o.rs.length * 16 ≤ 140737488351232) (hd : s.da.size ≤ 140737488351232) (h2 : (Lit.int .i64 fl).wf = true) :
    Calls Tryd.prog 3 #[.agg #[.int .i64 f, .int .i64 t], .agg #[.int .i64 s.fr, .int .i64 s.dt, .int .i64 s.sq, .int .i64 s.ak, .int .i64 s.fl, .int .i64 s.wi, .int .i64 s.ur, .int .i64 s.o.m, .int .i64 s.o.c, .int .i64 s.o.t, .int .i64 s.o.ec, .bool s.o.sd, .bool s.o.ok, .bool s.o.sp, v, .string s.da], .int .i64 fl] w fun e w' => e = .returned (.bool true) ∧ Below w.heap.size w w' := by
  have hn : s.o.rs.length ≤ 17592186044416 := by omega
  have K := fun X c HE HR => walk_k f t s v fl X c (codeG (mayG s)) (lenG s) (hasV s.fl fl) w hG hv HE HR (fun W h3 h4 => chk_s s v W h3 hn h4) (fun W h3 => rchk_s s v W h3 hn) (fun W => len_any s v W (by omega)) (fun W => rlen_any s v W (by omega)) (fun W => has_any s v fl W) (fun W => rhas_any s v fl W)
  rcases Bool.eq_false_or_eq_true (numB f && numB t) with h | h
  · rcases Bool.eq_false_or_eq_true (mayG s) with hm | hm
    · exact K (encS f t s) 0 (fun W h3 h4 => encs_y f t s v W h3 h4 h hm) (fun W h3 => rencs_y f t s v W h3 hn h hm)
    · exact K ⟨#[]⟩ 80 (fun W h3 h4 => encs_n f t s v W h3 hn h4 h hm) (fun W h3 => rencs_n f t s v W h3 hn h hm)
  · exact K ⟨#[]⟩ 1 (fun W h3 h4 => encs_r f t s v W h) (fun W h3 => rencs_r f t s v W h)

theorem lifted (os : Os) (started : os.Started) (H : Type) (enc : TypeId × Value → H) :
    ReturnsInHanded {} Tryd.checked os 3 .any (fun w args => (Rows.segWritesSpec.pre enc Tryd.prog Tryd.f3 [] false w args ∧ laidMetH Tryd.prog laidL w) ∧ sizedMet enc Tryd.prog Tryd.f3 (OpenSpec.ofChange Rows.segWritesSpec) false w args)
      (Rows.segWritesSpec.post enc Tryd.prog Tryd.f3 false true false false) := by
  refine returnsInHanded_of_change_and (C := Tryd.checked) (X := fun w _ => laidMetH Tryd.prog laidL w) (fun _ _ _ hh h => h.of_heap hh) ownK started (by kernel_rfl) Tryd.func3
    (ChangeSpec.witness_shaped (enc := enc) (C := Tryd.checked) (os := os) (X := fun w _ => laidMetH Tryd.prog laidL w) false (World.doorLaid Tryd.prog 400 os) #[.agg #[.int .i64 0, .int .i64 0], .agg #[.int .i64 0, .int .i64 0, .int .i64 0, .int .i64 0, .int .i64 0, .int .i64 0, .int .i64 0, .int .i64 0, .int .i64 0, .int .i64 0, .int .i64 0, .bool false, .bool false, .bool false, .slice none 0 0, .string ByteArray.empty], .int .i64 0] 8 rfl (World.shaped_of_RefB (by kernel_rfl) (by kernel_rfl)) (by kernel_rfl) (by kernel_rfl) (by kernel_rfl) (door_met os _)) ?_
  intro W base args ds gs before hval0 hW hcnd hsz0 hL _
  have hG := ord_of hL
  have hsz : (DataW.weightsEach Tryd.prog (Tryd.f3.params.toList ++ Rows.segWritesSpec.plain.varTypes Tryd.prog) (ds ++ gs)).all (· ≤ reachBytes) = true := hsz0
  have hval : ∀ (j : Nat) t v, Tryd.f3.params[j]? = some t → args[j]? = some v → Value.okWide Tryd.prog W .any base t v := hval0
  have hW' := hW
  obtain ⟨p, q, hA0, hV, rfl, hfz, hnd⟩ := hW
  have hA : DataW.TrodAll enc Tryd.prog W 0 (fun _ => true) true Tryd.f3.params.toList args.toList ds p := hA0
  rw [Tryd.params3] at hA hval hsz
  obtain ⟨v0, vs0, d0, ds0, p0, q0, hargs, rfl, rfl, h0, r0⟩ := trodAll_cons hA
  obtain ⟨v1, vs1, d1, ds1, p1, q1, rfl, rfl, rfl, h1, r1⟩ := trodAll_cons r0
  obtain ⟨v2, vs2, d2, ds2, p2, q2, rfl, rfl, rfl, h2, r2⟩ := trodAll_cons r1
  obtain ⟨rfl, rfl, rfl⟩ := trodAll_nil r2
  obtain rfl : args = #[v0, v1, v2] := by cases args; simp_all
  obtain ⟨rfl, rfl⟩ := trodVars_none hV
  have k0 := h0
  have lt0 : ∀ x ∈ p0, x.block < W.heap.size := by obtain ⟨m, hm⟩ := k0; exact DataW.trod_lt m _ _ _ hm
  have k1 := h1
  have lt1 : ∀ x ∈ p1, x.block < W.heap.size := by obtain ⟨m, hm⟩ := k1; exact DataW.trod_lt m _ _ _ hm
  have k2 := h2
  have lt2 : ∀ x ∈ p2, x.block < W.heap.size := by obtain ⟨m, hm⟩ := k2; exact DataW.trod_lt m _ _ _ hm
  obtain ⟨f0, g0, rfl, e0, c0⟩ := open23 (hval 0 23 v0 rfl rfl) h0
  obtain ⟨s1, u1, parts1, oparts1, rfl, hdp1, hp7_1, hp8_1, hr1, hw1⟩ := open28 (hval 1 28 v1 rfl rfl) h1
  have z1 := sized_28 hsz (j := 1) rfl (by rw [hdp1]; rfl) hp7_1 hp8_1 hw1
  obtain ⟨a2, rfl, -, -, w2⟩ := open_int Tryd.underlying3 (hval 2 3 v2 rfl rfl) h2
  clear hA0 hval0
  refine (walk f0 g0 s1 u1 a2 W hG e0 c0 hr1 z1.1 z1.2 w2).mono fun e W' ⟨he, bel⟩ => ?_
  subst he
  exact ⟨_, rfl, _, _, _, [], _, [], hW', trodAll_mk1 (shut_bool Tryd.underlying4 _), (trodAll_cons_mk (Below.trod laidOutK (by kernel_rfl) (of_decide_eq_true (by kernel_rfl)) k0 bel lt0) (trodAll_cons_mk (Below.trod laidOutK (by kernel_rfl) (of_decide_eq_true (by kernel_rfl)) k1 bel lt1) (trodAll_cons_mk (Below.trod laidOutK (by kernel_rfl) (of_decide_eq_true (by kernel_rfl)) k2 bel lt2) trodAll_mk0))), rfl, bel.frame _, fun h => by cases h⟩

theorem over : Rows.segWritesRow.holds Tryd.pinned (OpenSpec.ofChange Rows.segWritesSpec) :=
  OpenClaim.holds_of_wide 3 Tryd.f3 rfl rfl rfl rfl rfl rfl rfl ⟨rfl, rfl, rfl, rfl, rfl⟩ rfl rfl rfl rfl rfl (by kernel_rfl) Tryd.func3 (by kernel_rfl)
    (of_decide_eq_true (by kernel_rfl)) (by unfold Func.isWrapper; first | (rw [if_pos (by decide +kernel)]; kernel_rfl) | (rw [if_neg (by decide +kernel)]; exact ⟨rfl, rfl⟩))
    (fun os started H enc _ => lifted os started H enc)

end Go.Proofs.YtecoknenkjgmjabDoor.segWrites
namespace Go.Proofs.YtecoknenkjgmjabDoor
open Go
theorem segWrites_card_holds : Rows.SegWritesCardSaid :=
  Claim7.holds_tied_plain_at .later [] [.data] true (true, "7a383cbcafb2e437da8d427f08dd0d5acda387abc0a856b5ba63ec94711a83ec") false
    segWrites.over (fun _ h => by cases h) (by kernel_rfl) (fun _ h => by cases h) segWrites_row_tie rfl ⟨rfl, rfl⟩ (by kernel_rfl) rfl
    (fun f fn hf hfn => by
      obtain rfl : f = 3 := Option.some.inj ((show Tryd.prog.funcNamed "sternpost/sternpostlaw08.SegWrites" = some 3 by kernel_rfl).symm.trans hf) |>.symm
      obtain rfl : fn = Tryd.f3 := (Option.some.inj (Tryd.func3.symm.trans hfn)).symm
      exact ⟨by kernel_rfl, fun j t ht => by
        rw [Tryd.params3] at ht
        have hm : t ∈ [23, 28, 3] := by simpa using Array.mem_of_getElem? ht
        have hall : ([23, 28, 3].all fun u => !Tryd.prog.wantsStandIn u) = true := by kernel_rfl
        exact (show Tryd.prog.wantsStandIn t = false by simpa using List.all_eq_true.1 hall t hm)⟩)
    (by kernel_rfl)
end Go.Proofs.YtecoknenkjgmjabDoor
