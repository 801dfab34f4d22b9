/- For all two addresses and segments: the twelve bytes of the ends and the segment's bytes have a whole sum; their length is that of the header, told by fours, and of the data; and what came in reads as it did. Conditions: the card's own alone (the order of the kinds is what the program's text lays). -/
import Derived.Test.YtecoknenkjgmjabDoorSf
import Derived.Test.YtecoknenkjgmjabDoorTd
import Derived.Test.YtecoknenkjgmjabDoorTb
import Derived.Test.YtecoknenkjgmjabDoorTe
import Derived.Test.YtecoknenkjgmjabDoorGx
import Derived.Test.YtecoknenkjgmjabDoorFactsF
import Derived.Deep.Cut
import Derived.Deep.QuietTactic
import Derived.BigQuiet
import Derived.WalkSmall
import Derived.Test.YtecoknenkjgmjabDoorFs
import Derived.Test.YtecoknenkjgmjabDoorFt
import Derived.Test.YtecoknenkjgmjabDoorTie
import Derived.Test.YtecoknenkjgmjabDoorCards
import Derived.SevenTiedAt
import Derived.Stop.Joined
namespace Go.Proofs.YtecoknenkjgmjabDoor.segWhole
open Go.ChangeShapes Go.WideShapes Go.ChangeAt Go.RowKit
open Go.ChangeMaps (open_string)
set_option linter.unusedVariables false
set_option maxRecDepth 100000

-- WALK
theorem walk_n (f t : Int) (s : Sg) (v : Value) (c : Int) (w : World) (hG : Ord w) (hv : Rgs w v s.o.rs) (hc : (c != 0) = true)
    (HE : Hid (∀ W, Rgs W v s.o.rs → Ord W → Calls Tryd.prog 9 #[.int .i64 f, .int .i64 t, .agg #[.int .i64 s.fr, .int .i64 s.dt, .int .i64 s.sq, .int .i64 s.ak, .int .i64 s.fl, .int .i64 s.wi, .int .i64 s.ur, .int .i64 s.o.m, .int .i64 s.o.c, .int .i64 s.o.t, .int .i64 s.o.ec, .bool s.o.sd, .bool s.o.ok, .bool s.o.sp, v, .string s.da]] W fun e w' => e = .returned (.tuple #[.string ⟨#[]⟩, .int .i64 c]) ∧ Below W.heap.size W w')) :
    Calls Tryd.prog 8 #[.agg #[.int .i64 f, .int .i64 t], .agg #[.int .i64 s.fr, .int .i64 s.dt, .int .i64 s.sq, .int .i64 s.ak, .int .i64 s.fl, .int .i64 s.wi, .int .i64 s.ur, .int .i64 s.o.m, .int .i64 s.o.c, .int .i64 s.o.t, .int .i64 s.o.ec, .bool s.o.sd, .bool s.o.ok, .bool s.o.sp, v, .string s.da]] w fun e w' => e = .returned (.bool true) ∧ Below w.heap.size w w' := by
  have hb1 := bel1 w (.cells #[.int .i64 f, .int .i64 t] 23)
  have hb2 := bel1 (w.alloc (.cells #[.int .i64 f, .int .i64 t] 23)) (.cells #[.int .i64 s.fr, .int .i64 s.dt, .int .i64 s.sq, .int .i64 s.ak, .int .i64 s.fl, .int .i64 s.wi, .int .i64 s.ur, .int .i64 s.o.m, .int .i64 s.o.c, .int .i64 s.o.t, .int .i64 s.o.ec, .bool s.o.sd, .bool s.o.ok, .bool s.o.sp, v, .string s.da] 28)
  have hA := (At.box w #[.int .i64 f, .int .i64 t] 23).later hb2
  have hQ := At.box2 w (.cells #[.int .i64 f, .int .i64 t] 23) #[.int .i64 s.fr, .int .i64 s.dt, .int .i64 s.sq, .int .i64 s.ak, .int .i64 s.fl, .int .i64 s.wi, .int .i64 s.ur, .int .i64 s.o.m, .int .i64 s.o.c, .int .i64 s.o.t, .int .i64 s.o.ec, .bool s.o.sd, .bool s.o.ok, .bool s.o.sp, v, .string s.da] 28
  have hl := bt hb1 hb2
  clear hb1 hb2
  go_enter Tryd.func8, Tryd.ntmps8
  go_upto_region 1 with fail
  generalize hw0 : (w.alloc (.cells #[.int .i64 f, .int .i64 t] 23)).alloc (.cells #[.int .i64 s.fr, .int .i64 s.dt, .int .i64 s.sq, .int .i64 s.ak, .int .i64 s.fl, .int .i64 s.wi, .int .i64 s.ur, .int .i64 s.o.m, .int .i64 s.o.c, .int .i64 s.o.t, .int .i64 s.o.ec, .bool s.o.sd, .bool s.o.ok, .bool s.o.sp, v, .string s.da] 28) = w0 at *
  clear hw0
  go_wp2_with fail
  refine (works_s _ (hG.later hl)).mono ?_
  rintro e w1 ⟨rfl, hb⟩
  replace hl := bt hl hb
  replace hA := hA.later hb
  replace hQ := hQ.later hb
  clear hb
  have c0 := (hA.2 0 _ rfl).1
  have c1 := (hA.2 1 _ rfl).1
  go_wp2_with (refine wpList_loadG 28 _ (by rfl) (by rfl) (w.heap.size + 1) 0 (by rfl) _ _ hQ.range Tryd.underlying28 rfl size28 ?_)
  refine (HE.out _ (hv.later hl) (hG.later hl)).mono ?_
  rintro e w2 ⟨rfl, hb⟩
  replace hl := bt hl hb
  replace hA := hA.later hb
  replace hQ := hQ.later hb
  clear hb HE c0 c1
  go_wp2
  go_ret
  exact ⟨rfl, hl⟩
set_option maxHeartbeats 8000000 in
theorem walk_y (f t : Int) (s : Sg) (v : Value) (EN PS : ByteArray) (LB H : Int) (w : World) (hG : Ord w) (hv : Rgs w v s.o.rs)
    (HE : Hid (∀ W, Rgs W v s.o.rs → Ord W → Calls Tryd.prog 9 #[.int .i64 f, .int .i64 t, .agg #[.int .i64 s.fr, .int .i64 s.dt, .int .i64 s.sq, .int .i64 s.ak, .int .i64 s.fl, .int .i64 s.wi, .int .i64 s.ur, .int .i64 s.o.m, .int .i64 s.o.c, .int .i64 s.o.t, .int .i64 s.o.ec, .bool s.o.sd, .bool s.o.ok, .bool s.o.sp, v, .string s.da]] W fun e w' => e = .returned (.tuple #[.string EN, .int .i64 0]) ∧ Below W.heap.size W w'))
    (HPS : Hid (∀ W, Calls Tryd.prog 25 #[.int .i64 f, .int .i64 t, .int .i64 6, .int .i64 (EN.size : Int)] W fun e w' => e = .returned (.tuple #[.string PS, .int .i64 0]) ∧ Below W.heap.size W w'))
    (HWH : Hid (∀ W, Calls Tryd.prog 26 #[.string (PS ++ EN)] W fun e w' => e = .returned (.bool true) ∧ Below W.heap.size W w'))
    (r1 : ∀ W, (Op.stringOp .add PS EN).run Tryd.prog W = .ok (.string (PS ++ EN)) W)
    (r2 : ∀ W, (Instr.index 9 (.string EN) (.int .i64 12)).run Tryd.prog W = .ok (.int .u8 LB) W)
    (r3 : ∀ W, (Instr.slice 9 (.string EN) (some (.int .i64 H)) none none).run Tryd.prog W = .ok (.string s.da) W)
    (l0 : 80 ≤ LB) (l1 : LB ≤ 240) (e13 : IntKind.i64.wrap (LB / 16) = LB / 16) (e15 : IntKind.i64.wrap (LB / 16 * 4) = H) (e19 : IntKind.i64.wrap (H + (s.da.size : Int)) = H + (s.da.size : Int)) (HSZ : Hid ((EN.size : Int) = H + (s.da.size : Int))) :
    Calls Tryd.prog 8 #[.agg #[.int .i64 f, .int .i64 t], .agg #[.int .i64 s.fr, .int .i64 s.dt, .int .i64 s.sq, .int .i64 s.ak, .int .i64 s.fl, .int .i64 s.wi, .int .i64 s.ur, .int .i64 s.o.m, .int .i64 s.o.c, .int .i64 s.o.t, .int .i64 s.o.ec, .bool s.o.sd, .bool s.o.ok, .bool s.o.sp, v, .string s.da]] w fun e w' => e = .returned (.bool true) ∧ Below w.heap.size w w' := by
  have hb1 := bel1 w (.cells #[.int .i64 f, .int .i64 t] 23)
  have hb2 := bel1 (w.alloc (.cells #[.int .i64 f, .int .i64 t] 23)) (.cells #[.int .i64 s.fr, .int .i64 s.dt, .int .i64 s.sq, .int .i64 s.ak, .int .i64 s.fl, .int .i64 s.wi, .int .i64 s.ur, .int .i64 s.o.m, .int .i64 s.o.c, .int .i64 s.o.t, .int .i64 s.o.ec, .bool s.o.sd, .bool s.o.ok, .bool s.o.sp, v, .string s.da] 28)
  have hA := (At.box w #[.int .i64 f, .int .i64 t] 23).later hb2
  have hQ := At.box2 w (.cells #[.int .i64 f, .int .i64 t] 23) #[.int .i64 s.fr, .int .i64 s.dt, .int .i64 s.sq, .int .i64 s.ak, .int .i64 s.fl, .int .i64 s.wi, .int .i64 s.ur, .int .i64 s.o.m, .int .i64 s.o.c, .int .i64 s.o.t, .int .i64 s.o.ec, .bool s.o.sd, .bool s.o.ok, .bool s.o.sp, v, .string s.da] 28
  have hl := bt hb1 hb2
  clear hb1 hb2
  go_enter Tryd.func8, Tryd.ntmps8
  go_upto_region 1 with fail
  generalize hw0 : (w.alloc (.cells #[.int .i64 f, .int .i64 t] 23)).alloc (.cells #[.int .i64 s.fr, .int .i64 s.dt, .int .i64 s.sq, .int .i64 s.ak, .int .i64 s.fl, .int .i64 s.wi, .int .i64 s.ur, .int .i64 s.o.m, .int .i64 s.o.c, .int .i64 s.o.t, .int .i64 s.o.ec, .bool s.o.sd, .bool s.o.ok, .bool s.o.sp, v, .string s.da] 28) = w0 at *
  clear hw0
  go_wp2_with fail
  refine (works_s _ (hG.later hl)).mono ?_
  rintro e w1 ⟨rfl, hb⟩
  replace hl := bt hl hb
  replace hA := hA.later hb
  replace hQ := hQ.later hb
  clear hb
  have c0 := (hA.2 0 _ rfl).1
  have c1 := (hA.2 1 _ rfl).1
  go_wp2_with (refine wpList_loadG 28 _ (by rfl) (by rfl) (w.heap.size + 1) 0 (by rfl) _ _ hQ.range Tryd.underlying28 rfl size28 ?_)
  refine (HE.out _ (hv.later hl) (hG.later hl)).mono ?_
  rintro e w2 ⟨rfl, hb⟩
  replace hl := bt hl hb
  replace hA := hA.later hb
  replace hQ := hQ.later hb
  clear hb HE c0 c1
  go_upto_region 6 with fail
  go_cut [7, 8] from 9 (fun q z W => q = .string PS ∧ z = .int .i64 0 ∧ Below w.heap.size w W ∧ At W (w.heap.size + 1) #[.int .i64 s.fr, .int .i64 s.dt, .int .i64 s.sq, .int .i64 s.ak, .int .i64 s.fl, .int .i64 s.wi, .int .i64 s.ur, .int .i64 s.o.m, .int .i64 s.o.c, .int .i64 s.o.t, .int .i64 s.o.ec, .bool s.o.sd, .bool s.o.ok, .bool s.o.sp, v, .string s.da])
  case first =>
    have c0 := (hA.2 0 _ rfl).1
    have c1 := (hA.2 1 _ rfl).1
    go_wp2_with fail
    refine (HPS.out _).mono ?_
    rintro e w3 ⟨rfl, hb⟩
    replace hl := bt hl hb
    replace hQ := hQ.later hb
    clear hb c0 c1 hA
    go_wp2
    go_meet
    case rel => exact ⟨rfl, rfl, hl, hQ⟩
  case rest =>
  clear hl hQ hA HPS
  obtain ⟨rfl, rfl, hl, hQ⟩ := hcut
  go_wp2
  refine wp_region_any (by kernel_rfl) ?_
  refine region_facts (fun W => Below w.heap.size w W ∧ At W (w.heap.size + 1) #[.int .i64 s.fr, .int .i64 s.dt, .int .i64 s.sq, .int .i64 s.ak, .int .i64 s.fl, .int .i64 s.wi, .int .i64 s.ur, .int .i64 s.o.m, .int .i64 s.o.c, .int .i64 s.o.t, .int .i64 s.o.ec, .bool s.o.sd, .bool s.o.ok, .bool s.o.sp, v, .string s.da]) (GE (fun qq => match qq with | 0 => .int .i64 0 | 1 => .bool true | 2 => .bool true | 3 => .string PS | 4 => .string EN | 5 => .string (PS ++ EN) | 6 => .bool true | 7 => .bool true | 8 => .bool true | 9 => .string EN | 10 => .int .i64 (EN.size : Int) | 11 => .string EN | 12 => .int .u8 LB | 13 => .int .u8 (LB / 16) | 14 => .int .i64 (LB / 16) | 15 => .int .i64 H | 16 => .pointer (some ⟨w.heap.size + 1, 15, none⟩) | 17 => .string s.da | 18 => .int .i64 (s.da.size : Int) | 19 => .int .i64 (H + (s.da.size : Int)) | 20 => .bool true | 21 => .bool true | 22 => .bool true | 23 => .string EN | 24 => .string EN | 25 => .int .u8 LB | 26 => .int .u8 (LB / 16) | 27 => .int .i64 (LB / 16) | 28 => .int .i64 H | 29 => .string s.da | 30 => .pointer (some ⟨w.heap.size + 1, 15, none⟩) | 31 => .string s.da | 32 => .bool true | 33 => .bool true | 34 => .bool true | _ => undef) (fun _ => none)) (n := 68) (by kernel_rfl) rfl (by kernel_rfl) (GE_later _ _ (fun _ _ h => by cases h)) ?_ ?_ ⟨hl.drew, hQ.later ((Below.refl _ _).drew)⟩ (Nat.le_refl _)
  · clear hl hQ
    refine ⟨?_, ?_, ?_, ?_, ?_, ?_, ?_, ?_, ?_, ?_, ?_, ?_, ?_, ?_, ?_, ?_, ?_, ?_, ?_, ?_, ?_, ?_, ?_, ?_, ?_, ?_, ?_, ?_, ?_, ?_, ?_, ?_, ?_, ?_, ?_, trivial⟩
    · intro ac w1 hS hT hB hD K hK
      rw [if_pos (by rfl)]
      have d8 : ac.tmps.getD 8 undef = .int .i64 0 := hB 8 (by kernel_rfl)
      clear hB hD hT
      go_simp
      exact hK _ _ hS (Below.refl _ _) rfl
    · intro ac w1 hS hT hB hD K hK
      rw [if_pos (by rfl)]
      have d34 : ac.tmps.getD 34 undef = .int .i64 0 := hD ⟨0, .data⟩ (by simp) rfl _ 34 rfl rfl
      clear hB hD hT
      go_simp
      exact hK _ _ hS (Below.refl _ _) rfl
    · intro ac w1 hS hT hB hD K hK
      rw [if_pos (by rfl)]
      have d35 : ac.tmps.getD 35 undef = .bool true := hD ⟨1, .data⟩ (by simp) rfl _ 35 rfl rfl
      clear hB hD hT
      go_simp
      exact hK _ _ hS (Below.refl _ _) rfl
    · intro ac w1 hS hT hB hD K hK
      have g36 : ac.tmps.getD 36 undef = .bool true := hD ⟨2, .guard⟩ (by simp) rfl _ 36 rfl rfl
      rw [if_pos (want_t (j := 2) (d := 36) rfl rfl g36)]
      clear g36
      have d7 : ac.tmps.getD 7 undef = .string PS := hB 7 (by kernel_rfl)
      clear hB hD hT
      go_simp
      exact hK _ _ hS (Below.refl _ _) rfl
    · intro ac w1 hS hT hB hD K hK
      have g36 : ac.tmps.getD 36 undef = .bool true := hD ⟨2, .guard⟩ (by simp) rfl _ 36 rfl rfl
      rw [if_pos (want_t (j := 2) (d := 36) rfl rfl g36)]
      clear g36
      have d5 : ac.tmps.getD 5 undef = .string EN := hB 5 (by kernel_rfl)
      clear hB hD hT
      go_simp
      exact hK _ _ hS (Below.refl _ _) rfl
    · intro ac w1 hS hT hB hD K hK
      have g36 : ac.tmps.getD 36 undef = .bool true := hD ⟨2, .guard⟩ (by simp) rfl _ 36 rfl rfl
      rw [if_pos (want_t (j := 2) (d := 36) rfl rfl g36)]
      clear g36
      have d37 : ac.tmps.getD 37 undef = .string PS := hD ⟨3, .data⟩ (by simp) rfl _ 37 rfl rfl
      have d38 : ac.tmps.getD 38 undef = .string EN := hD ⟨4, .data⟩ (by simp) rfl _ 38 rfl rfl
      clear hB hD hT
      go_simp
      exact hK _ _ hS (Below.refl _ _) rfl
    · intro ac w1 hS hT hB hD K hK
      have g36 : ac.tmps.getD 36 undef = .bool true := hD ⟨2, .guard⟩ (by simp) rfl _ 36 rfl rfl
      rw [if_pos (want_t (j := 2) (d := 36) rfl rfl g36)]
      clear g36
      have d39 : ac.tmps.getD 39 undef = .string (PS ++ EN) := hD ⟨5, .data⟩ (by simp) rfl _ 39 rfl rfl
      clear hB hD hT
      go_simp
      refine (HWH.out _).mono ?_
      rintro e w' ⟨rfl, hb⟩
      exact hK _ _ ⟨bt hS.1 hb, hS.2.later hb⟩ hb rfl
    · intro ac w1 hS hT hB hD K hK
      rw [if_pos (by rfl)]
      have d36 : ac.tmps.getD 36 undef = .bool true := hD ⟨2, .data⟩ (by simp) rfl _ 36 rfl rfl
      have d40 : ac.tmps.getD 40 undef = .bool true := hD ⟨6, .data⟩ (by simp) rfl _ 40 rfl rfl
      clear hB hD hT
      go_simp
      exact hK _ _ hS (Below.refl _ _) rfl
    · intro ac w1 hS hT hB hD K hK
      rw [if_pos (by rfl)]
      have d41 : ac.tmps.getD 41 undef = .bool true := hD ⟨7, .data⟩ (by simp) rfl _ 41 rfl rfl
      clear hB hD hT
      go_simp
      exact hK _ _ hS (Below.refl _ _) rfl
    · intro ac w1 hS hT hB hD K hK
      have g42 : ac.tmps.getD 42 undef = .bool true := hD ⟨8, .guard⟩ (by simp) rfl _ 42 rfl rfl
      rw [if_pos (want_t (j := 8) (d := 42) rfl rfl g42)]
      clear g42
      have d5 : ac.tmps.getD 5 undef = .string EN := hB 5 (by kernel_rfl)
      clear hB hD hT
      go_simp
      exact hK _ _ hS (Below.refl _ _) rfl
    · intro ac w1 hS hT hB hD K hK
      have g42 : ac.tmps.getD 42 undef = .bool true := hD ⟨8, .guard⟩ (by simp) rfl _ 42 rfl rfl
      rw [if_pos (want_t (j := 8) (d := 42) rfl rfl g42)]
      clear g42
      have d43 : ac.tmps.getD 43 undef = .string EN := hD ⟨9, .data⟩ (by simp) rfl _ 43 rfl rfl
      clear hB hD hT
      go_simp
      exact hK _ _ hS (Below.refl _ _) rfl
    · intro ac w1 hS hT hB hD K hK
      have g42 : ac.tmps.getD 42 undef = .bool true := hD ⟨8, .guard⟩ (by simp) rfl _ 42 rfl rfl
      rw [if_pos (want_t (j := 8) (d := 42) rfl rfl g42)]
      clear g42
      have d5 : ac.tmps.getD 5 undef = .string EN := hB 5 (by kernel_rfl)
      clear hB hD hT
      go_simp
      exact hK _ _ hS (Below.refl _ _) rfl
    · intro ac w1 hS hT hB hD K hK
      have g42 : ac.tmps.getD 42 undef = .bool true := hD ⟨8, .guard⟩ (by simp) rfl _ 42 rfl rfl
      rw [if_pos (want_t (j := 8) (d := 42) rfl rfl g42)]
      clear g42
      have d45 : ac.tmps.getD 45 undef = .string EN := hD ⟨11, .data⟩ (by simp) rfl _ 45 rfl rfl
      clear hB hD hT
      go_simp
      exact hK _ _ hS (Below.refl _ _) rfl
    · intro ac w1 hS hT hB hD K hK
      have g42 : ac.tmps.getD 42 undef = .bool true := hD ⟨8, .guard⟩ (by simp) rfl _ 42 rfl rfl
      rw [if_pos (want_t (j := 8) (d := 42) rfl rfl g42)]
      clear g42
      have d46 : ac.tmps.getD 46 undef = .int .u8 LB := hD ⟨12, .data⟩ (by simp) rfl _ 46 rfl rfl
      clear hB hD hT
      go_simp
      exact hK _ _ hS (Below.refl _ _) rfl
    · intro ac w1 hS hT hB hD K hK
      have g42 : ac.tmps.getD 42 undef = .bool true := hD ⟨8, .guard⟩ (by simp) rfl _ 42 rfl rfl
      rw [if_pos (want_t (j := 8) (d := 42) rfl rfl g42)]
      clear g42
      have d47 : ac.tmps.getD 47 undef = .int .u8 (LB / 16) := hD ⟨13, .data⟩ (by simp) rfl _ 47 rfl rfl
      clear hB hD hT
      go_simp
      exact hK _ _ hS (Below.refl _ _) rfl
    · intro ac w1 hS hT hB hD K hK
      have g42 : ac.tmps.getD 42 undef = .bool true := hD ⟨8, .guard⟩ (by simp) rfl _ 42 rfl rfl
      rw [if_pos (want_t (j := 8) (d := 42) rfl rfl g42)]
      clear g42
      have d48 : ac.tmps.getD 48 undef = .int .i64 (LB / 16) := hD ⟨14, .data⟩ (by simp) rfl _ 48 rfl rfl
      clear hB hD hT
      go_simp
      exact hK _ _ hS (Below.refl _ _) rfl
    · intro ac w1 hS hT hB hD K hK
      have g42 : ac.tmps.getD 42 undef = .bool true := hD ⟨8, .guard⟩ (by simp) rfl _ 42 rfl rfl
      rw [if_pos (want_t (j := 8) (d := 42) rfl rfl g42)]
      clear g42
      have d3 : ac.tmps.getD 3 undef = .pointer (some ⟨w.heap.size + 1, 0, none⟩) := hB 3 (by kernel_rfl)
      clear hB hD hT
      go_simp
      exact hK _ _ hS (Below.refl _ _) rfl
    · intro ac w1 hS hT hB hD K hK
      have g42 : ac.tmps.getD 42 undef = .bool true := hD ⟨8, .guard⟩ (by simp) rfl _ 42 rfl rfl
      rw [if_pos (want_t (j := 8) (d := 42) rfl rfl g42)]
      clear g42
      have d50 : ac.tmps.getD 50 undef = .pointer (some ⟨w.heap.size + 1, 15, none⟩) := hD ⟨16, .data⟩ (by simp) rfl _ 50 rfl rfl
      clear hB hD hT
      have hc := hS.2.sixteen.1
      go_simp
      exact hK _ _ hS (Below.refl _ _) rfl
    · intro ac w1 hS hT hB hD K hK
      have g42 : ac.tmps.getD 42 undef = .bool true := hD ⟨8, .guard⟩ (by simp) rfl _ 42 rfl rfl
      rw [if_pos (want_t (j := 8) (d := 42) rfl rfl g42)]
      clear g42
      have d51 : ac.tmps.getD 51 undef = .string s.da := hD ⟨17, .data⟩ (by simp) rfl _ 51 rfl rfl
      clear hB hD hT
      go_simp
      exact hK _ _ hS (Below.refl _ _) rfl
    · intro ac w1 hS hT hB hD K hK
      have g42 : ac.tmps.getD 42 undef = .bool true := hD ⟨8, .guard⟩ (by simp) rfl _ 42 rfl rfl
      rw [if_pos (want_t (j := 8) (d := 42) rfl rfl g42)]
      clear g42
      have d49 : ac.tmps.getD 49 undef = .int .i64 H := hD ⟨15, .data⟩ (by simp) rfl _ 49 rfl rfl
      have d52 : ac.tmps.getD 52 undef = .int .i64 (s.da.size : Int) := hD ⟨18, .data⟩ (by simp) rfl _ 52 rfl rfl
      clear hB hD hT
      go_simp
      exact hK _ _ hS (Below.refl _ _) rfl
    · intro ac w1 hS hT hB hD K hK
      have g42 : ac.tmps.getD 42 undef = .bool true := hD ⟨8, .guard⟩ (by simp) rfl _ 42 rfl rfl
      rw [if_pos (want_t (j := 8) (d := 42) rfl rfl g42)]
      clear g42
      have d44 : ac.tmps.getD 44 undef = .int .i64 (EN.size : Int) := hD ⟨10, .data⟩ (by simp) rfl _ 44 rfl rfl
      have d53 : ac.tmps.getD 53 undef = .int .i64 (H + (s.da.size : Int)) := hD ⟨19, .data⟩ (by simp) rfl _ 53 rfl rfl
      clear hB hD hT
      have hsz := HSZ.out
      go_simp
      exact hK _ _ hS (Below.refl _ _) rfl
    · intro ac w1 hS hT hB hD K hK
      rw [if_pos (by rfl)]
      have d42 : ac.tmps.getD 42 undef = .bool true := hD ⟨8, .data⟩ (by simp) rfl _ 42 rfl rfl
      have d54 : ac.tmps.getD 54 undef = .bool true := hD ⟨20, .data⟩ (by simp) rfl _ 54 rfl rfl
      clear hB hD hT
      go_simp
      exact hK _ _ hS (Below.refl _ _) rfl
    · intro ac w1 hS hT hB hD K hK
      rw [if_pos (by rfl)]
      have d55 : ac.tmps.getD 55 undef = .bool true := hD ⟨21, .data⟩ (by simp) rfl _ 55 rfl rfl
      clear hB hD hT
      go_simp
      exact hK _ _ hS (Below.refl _ _) rfl
    · intro ac w1 hS hT hB hD K hK
      have g56 : ac.tmps.getD 56 undef = .bool true := hD ⟨22, .guard⟩ (by simp) rfl _ 56 rfl rfl
      rw [if_pos (want_t (j := 22) (d := 56) rfl rfl g56)]
      clear g56
      have d5 : ac.tmps.getD 5 undef = .string EN := hB 5 (by kernel_rfl)
      clear hB hD hT
      go_simp
      exact hK _ _ hS (Below.refl _ _) rfl
    · intro ac w1 hS hT hB hD K hK
      have g56 : ac.tmps.getD 56 undef = .bool true := hD ⟨22, .guard⟩ (by simp) rfl _ 56 rfl rfl
      rw [if_pos (want_t (j := 22) (d := 56) rfl rfl g56)]
      clear g56
      have d5 : ac.tmps.getD 5 undef = .string EN := hB 5 (by kernel_rfl)
      clear hB hD hT
      go_simp
      exact hK _ _ hS (Below.refl _ _) rfl
    · intro ac w1 hS hT hB hD K hK
      have g56 : ac.tmps.getD 56 undef = .bool true := hD ⟨22, .guard⟩ (by simp) rfl _ 56 rfl rfl
      rw [if_pos (want_t (j := 22) (d := 56) rfl rfl g56)]
      clear g56
      have d58 : ac.tmps.getD 58 undef = .string EN := hD ⟨24, .data⟩ (by simp) rfl _ 58 rfl rfl
      clear hB hD hT
      go_simp
      exact hK _ _ hS (Below.refl _ _) rfl
    · intro ac w1 hS hT hB hD K hK
      have g56 : ac.tmps.getD 56 undef = .bool true := hD ⟨22, .guard⟩ (by simp) rfl _ 56 rfl rfl
      rw [if_pos (want_t (j := 22) (d := 56) rfl rfl g56)]
      clear g56
      have d59 : ac.tmps.getD 59 undef = .int .u8 LB := hD ⟨25, .data⟩ (by simp) rfl _ 59 rfl rfl
      clear hB hD hT
      go_simp
      exact hK _ _ hS (Below.refl _ _) rfl
    · intro ac w1 hS hT hB hD K hK
      have g56 : ac.tmps.getD 56 undef = .bool true := hD ⟨22, .guard⟩ (by simp) rfl _ 56 rfl rfl
      rw [if_pos (want_t (j := 22) (d := 56) rfl rfl g56)]
      clear g56
      have d60 : ac.tmps.getD 60 undef = .int .u8 (LB / 16) := hD ⟨26, .data⟩ (by simp) rfl _ 60 rfl rfl
      clear hB hD hT
      go_simp
      exact hK _ _ hS (Below.refl _ _) rfl
    · intro ac w1 hS hT hB hD K hK
      have g56 : ac.tmps.getD 56 undef = .bool true := hD ⟨22, .guard⟩ (by simp) rfl _ 56 rfl rfl
      rw [if_pos (want_t (j := 22) (d := 56) rfl rfl g56)]
      clear g56
      have d61 : ac.tmps.getD 61 undef = .int .i64 (LB / 16) := hD ⟨27, .data⟩ (by simp) rfl _ 61 rfl rfl
      clear hB hD hT
      go_simp
      exact hK _ _ hS (Below.refl _ _) rfl
    · intro ac w1 hS hT hB hD K hK
      have g56 : ac.tmps.getD 56 undef = .bool true := hD ⟨22, .guard⟩ (by simp) rfl _ 56 rfl rfl
      rw [if_pos (want_t (j := 22) (d := 56) rfl rfl g56)]
      clear g56
      have d57 : ac.tmps.getD 57 undef = .string EN := hD ⟨23, .data⟩ (by simp) rfl _ 57 rfl rfl
      have d62 : ac.tmps.getD 62 undef = .int .i64 H := hD ⟨28, .data⟩ (by simp) rfl _ 62 rfl rfl
      clear hB hD hT
      go_simp
      exact hK _ _ hS (Below.refl _ _) rfl
    · intro ac w1 hS hT hB hD K hK
      have g56 : ac.tmps.getD 56 undef = .bool true := hD ⟨22, .guard⟩ (by simp) rfl _ 56 rfl rfl
      rw [if_pos (want_t (j := 22) (d := 56) rfl rfl g56)]
      clear g56
      have d3 : ac.tmps.getD 3 undef = .pointer (some ⟨w.heap.size + 1, 0, none⟩) := hB 3 (by kernel_rfl)
      clear hB hD hT
      go_simp
      exact hK _ _ hS (Below.refl _ _) rfl
    · intro ac w1 hS hT hB hD K hK
      have g56 : ac.tmps.getD 56 undef = .bool true := hD ⟨22, .guard⟩ (by simp) rfl _ 56 rfl rfl
      rw [if_pos (want_t (j := 22) (d := 56) rfl rfl g56)]
      clear g56
      have d64 : ac.tmps.getD 64 undef = .pointer (some ⟨w.heap.size + 1, 15, none⟩) := hD ⟨30, .data⟩ (by simp) rfl _ 64 rfl rfl
      clear hB hD hT
      have hc := hS.2.sixteen.1
      go_simp
      exact hK _ _ hS (Below.refl _ _) rfl
    · intro ac w1 hS hT hB hD K hK
      have g56 : ac.tmps.getD 56 undef = .bool true := hD ⟨22, .guard⟩ (by simp) rfl _ 56 rfl rfl
      rw [if_pos (want_t (j := 22) (d := 56) rfl rfl g56)]
      clear g56
      have d63 : ac.tmps.getD 63 undef = .string s.da := hD ⟨29, .data⟩ (by simp) rfl _ 63 rfl rfl
      have d65 : ac.tmps.getD 65 undef = .string s.da := hD ⟨31, .data⟩ (by simp) rfl _ 65 rfl rfl
      clear hB hD hT
      go_simp
      exact hK _ _ hS (Below.refl _ _) rfl
    · intro ac w1 hS hT hB hD K hK
      rw [if_pos (by rfl)]
      have d56 : ac.tmps.getD 56 undef = .bool true := hD ⟨22, .data⟩ (by simp) rfl _ 56 rfl rfl
      have d66 : ac.tmps.getD 66 undef = .bool true := hD ⟨32, .data⟩ (by simp) rfl _ 66 rfl rfl
      clear hB hD hT
      go_simp
      exact hK _ _ hS (Below.refl _ _) rfl
    · intro ac w1 hS hT hB hD K hK
      rw [if_pos (by rfl)]
      have d67 : ac.tmps.getD 67 undef = .bool true := hD ⟨33, .data⟩ (by simp) rfl _ 67 rfl rfl
      clear hB hD hT
      go_simp
      exact hK _ _ hS (Below.refl _ _) rfl
  · intro ac w9 hS hT hdf hB hF
    clear hl hQ
    have hfr : ac.tmps = #[.agg #[.int .i64 f, .int .i64 t], .agg #[.int .i64 s.fr, .int .i64 s.dt, .int .i64 s.sq, .int .i64 s.ak, .int .i64 s.fl, .int .i64 s.wi, .int .i64 s.ur, .int .i64 s.o.m, .int .i64 s.o.c, .int .i64 s.o.t, .int .i64 s.o.ec, .bool s.o.sd, .bool s.o.ok, .bool s.o.sp, v, .string s.da], .pointer (some ⟨w.heap.size, 0, none⟩), .pointer (some ⟨w.heap.size + 1, 0, none⟩), (ac.tmps.getD 4 undef), .string EN, .int .i64 0, .string PS, .int .i64 0, u9, u10, u11, u12, u13, u14, u15, u16, u17, u18, u19, u20, u21, u22, u23, u24, u25, u26, u27, u28, u29, u30, u31, u32, u33, (ac.tmps.getD 34 undef), (ac.tmps.getD 35 undef), (ac.tmps.getD 36 undef), (ac.tmps.getD 37 undef), (ac.tmps.getD 38 undef), (ac.tmps.getD 39 undef), (ac.tmps.getD 40 undef), (ac.tmps.getD 41 undef), (ac.tmps.getD 42 undef), (ac.tmps.getD 43 undef), (ac.tmps.getD 44 undef), (ac.tmps.getD 45 undef), (ac.tmps.getD 46 undef), (ac.tmps.getD 47 undef), (ac.tmps.getD 48 undef), (ac.tmps.getD 49 undef), (ac.tmps.getD 50 undef), (ac.tmps.getD 51 undef), (ac.tmps.getD 52 undef), (ac.tmps.getD 53 undef), (ac.tmps.getD 54 undef), (ac.tmps.getD 55 undef), (ac.tmps.getD 56 undef), (ac.tmps.getD 57 undef), (ac.tmps.getD 58 undef), (ac.tmps.getD 59 undef), (ac.tmps.getD 60 undef), (ac.tmps.getD 61 undef), (ac.tmps.getD 62 undef), (ac.tmps.getD 63 undef), (ac.tmps.getD 64 undef), (ac.tmps.getD 65 undef), (ac.tmps.getD 66 undef), (ac.tmps.getD 67 undef)] := (frame_eq hT rfl hB).trans (by kernel_rfl)
    obtain ⟨T, df⟩ := ac
    have s4 : T.getD 4 undef = .bool true := hF 34 _ 4 rfl rfl
    have sdf : df = [] := hdf
    simp only at hfr
    clear hB hF hT hdf
    generalize T.getD 34 undef = y34 at *
    generalize T.getD 35 undef = y35 at *
    generalize T.getD 36 undef = y36 at *
    generalize T.getD 37 undef = y37 at *
    generalize T.getD 38 undef = y38 at *
    generalize T.getD 39 undef = y39 at *
    generalize T.getD 40 undef = y40 at *
    generalize T.getD 41 undef = y41 at *
    generalize T.getD 42 undef = y42 at *
    generalize T.getD 43 undef = y43 at *
    generalize T.getD 44 undef = y44 at *
    generalize T.getD 45 undef = y45 at *
    generalize T.getD 46 undef = y46 at *
    generalize T.getD 47 undef = y47 at *
    generalize T.getD 48 undef = y48 at *
    generalize T.getD 49 undef = y49 at *
    generalize T.getD 50 undef = y50 at *
    generalize T.getD 51 undef = y51 at *
    generalize T.getD 52 undef = y52 at *
    generalize T.getD 53 undef = y53 at *
    generalize T.getD 54 undef = y54 at *
    generalize T.getD 55 undef = y55 at *
    generalize T.getD 56 undef = y56 at *
    generalize T.getD 57 undef = y57 at *
    generalize T.getD 58 undef = y58 at *
    generalize T.getD 59 undef = y59 at *
    generalize T.getD 60 undef = y60 at *
    generalize T.getD 61 undef = y61 at *
    generalize T.getD 62 undef = y62 at *
    generalize T.getD 63 undef = y63 at *
    generalize T.getD 64 undef = y64 at *
    generalize T.getD 65 undef = y65 at *
    generalize T.getD 66 undef = y66 at *
    generalize T.getD 67 undef = y67 at *
    generalize T.getD 4 undef = y4 at *
    subst hfr s4 sdf
    go_wp2
    go_ret
    exact ⟨rfl, hS.1⟩
theorem walk (f t : Int) (s : Sg) (v : Value) (w : World) (hG : Ord w) (h0 : (Lit.int .i64 f).wf = true) (h1 : (Lit.int .i64 t).wf = true) (hv : Rgs w v s.o.rs) (hz : s.o.rs.length * 16 ≤ 140737488351232) (hd : s.da.size ≤ 140737488351232) :
    Calls Tryd.prog 8 #[.agg #[.int .i64 f, .int .i64 t], .agg #[.int .i64 s.fr, .int .i64 s.dt, .int .i64 s.sq, .int .i64 s.ak, .int .i64 s.fl, .int .i64 s.wi, .int .i64 s.ur, .int .i64 s.o.m, .int .i64 s.o.c, .int .i64 s.o.t, .int .i64 s.o.ec, .bool s.o.sd, .bool s.o.ok, .bool s.o.sp, v, .string s.da]] w fun e w' => e = .returned (.bool true) ∧ Below w.heap.size w w' := by
  have hn : s.o.rs.length ≤ 17592186044416 := by omega
  rcases Bool.eq_false_or_eq_true (numB f && numB t) with h | h
  · rcases Bool.eq_false_or_eq_true (mayG s) with hm | hm
    · obtain ⟨hf, ht⟩ : numB f = true ∧ numB t = true := by simpa using h
      obtain ⟨h4, h5, h6, h7⟩ := enc_parts f t hm
      obtain ⟨-, -, -, -, -, -, -, ho, -⟩ := may_all hm
      have hlo := enc_long ho
      have hlb := lonB_bd ho
      have hbd := lenS_bd hm
      have hzE := encS_size f t s
      have hle : lenS s = 20 + s.o.enc.size + s.da.size := rfl
      have h12 : (by12 (encS f t s) : Int) = lonB s.o := by
        rw [by12_num _ (by omega)]
        exact num_at _ (txtL s.fr 2 ++ (txtL s.dt 2 ++ (txtL s.sq 4 ++ txtL s.ak 4))) _ _ 1 12 13 (by rw [enc_list]; simp only [List.append_assoc]; rfl) (by simp only [List.length_append, txtL_len]) rfl (by omega) (by simp; omega)
      refine walk_y f t s v (encS f t s) (psS f t (lenS s)) (lonB s.o) (20 + (s.o.enc.size : Int)) w hG hv (fun W h3 h4 => encs_y f t s v W h3 h4 h hm) (fun W => ?_) (fun W => ?_) (fun W => run_string_add_sum W _ _ (by rw [hzE, psS_size]; omega)) (fun W => ?_) (fun W => ?_) hlb.1 hlb.2.1 ?_ ?_ ?_ ?_
      · have := pseudo_any f t 6 ((encS f t s).size : Int) W
        rw [hzE, pseuV_is f t _ hf ht (by omega), pseuB_is f t _ hf ht (by omega)] at this
        rw [hzE]; exact this
      · have := whole_any (psS f t (lenS s) ++ encS f t s) W (by rw [ByteArray.size_append, psS_size]; omega)
        rw [sum0 (whole_enc f t s)] at this
        exact this
      · rw [← h12, ← by12_at _ (by omega)]
        have := run_index_string (P := Tryd.prog) W 9 (encS f t s) .i64 12 Tryd.underlying9
        rw [this, dif_pos ⟨by omega, by omega⟩]
        rfl
      · have hda := congrArg Sg.da h7
        have hhd : hdN (encS f t s) = 20 + s.o.enc.size := by unfold hdN; omega
        have hda' : (encS f t s).extract (hdN (encS f t s)) (encS f t s).size = s.da := hda
        rw [run_slice_string_from_if W 9 (encS f t s) .i64 (20 + (s.o.enc.size : Int)) Tryd.underlying9, if_pos (by omega)]
        rw [hhd] at hda'
        rw [← hda']
        rfl
      · rw [IntKind.wrap_i64]; omega
      · rw [IntKind.wrap_i64]; omega
      · rw [IntKind.wrap_i64]; omega
      · show _ = _; omega
    · exact walk_n f t s v 80 w hG hv rfl (fun W h3 h4 => encs_n f t s v W h3 hn h4 h hm)
  · exact walk_n f t s v 1 w hG hv rfl (fun W h3 h4 => encs_r f t s v W h)

theorem lifted (os : Os) (started : os.Started) (H : Type) (enc : TypeId × Value → H) :
    ReturnsInHanded {} Tryd.checked os 8 .any (fun w args => (Rows.segWholeSpec.pre enc Tryd.prog Tryd.f8 [] false w args ∧ laidMetH Tryd.prog laidL w) ∧ sizedMet enc Tryd.prog Tryd.f8 (OpenSpec.ofChange Rows.segWholeSpec) false w args)
      (Rows.segWholeSpec.post enc Tryd.prog Tryd.f8 false true false false) := by
  refine returnsInHanded_of_change_and (C := Tryd.checked) (X := fun w _ => laidMetH Tryd.prog laidL w) (fun _ _ _ hh h => h.of_heap hh) ownK started (by kernel_rfl) Tryd.func8
    (ChangeSpec.witness_shaped (enc := enc) (C := Tryd.checked) (os := os) (X := fun w _ => laidMetH Tryd.prog laidL w) false (World.doorLaid Tryd.prog 400 os) #[.agg #[.int .i64 0, .int .i64 0], .agg #[.int .i64 0, .int .i64 0, .int .i64 0, .int .i64 0, .int .i64 0, .int .i64 0, .int .i64 0, .int .i64 0, .int .i64 0, .int .i64 0, .int .i64 0, .bool false, .bool false, .bool false, .slice none 0 0, .string ByteArray.empty]] 8 rfl (World.shaped_of_RefB (by kernel_rfl) (by kernel_rfl)) (by kernel_rfl) (by kernel_rfl) (by kernel_rfl) (door_met os _)) ?_
  intro W base args ds gs before hval0 hW hcnd hsz0 hL _
  have hG := ord_of hL
  have hsz : (DataW.weightsEach Tryd.prog (Tryd.f8.params.toList ++ Rows.segWholeSpec.plain.varTypes Tryd.prog) (ds ++ gs)).all (· ≤ reachBytes) = true := hsz0
  have hval : ∀ (j : Nat) t v, Tryd.f8.params[j]? = some t → args[j]? = some v → Value.okWide Tryd.prog W .any base t v := hval0
  have hW' := hW
  obtain ⟨p, q, hA0, hV, rfl, hfz, hnd⟩ := hW
  have hA : DataW.TrodAll enc Tryd.prog W 0 (fun _ => true) true Tryd.f8.params.toList args.toList ds p := hA0
  rw [Tryd.params8] at hA hval hsz
  obtain ⟨v0, vs0, d0, ds0, p0, q0, hargs, rfl, rfl, h0, r0⟩ := trodAll_cons hA
  obtain ⟨v1, vs1, d1, ds1, p1, q1, rfl, rfl, rfl, h1, r1⟩ := trodAll_cons r0
  obtain ⟨rfl, rfl, rfl⟩ := trodAll_nil r1
  obtain rfl : args = #[v0, v1] := by cases args; simp_all
  obtain ⟨rfl, rfl⟩ := trodVars_none hV
  have k0 := h0
  have lt0 : ∀ x ∈ p0, x.block < W.heap.size := by obtain ⟨m, hm⟩ := k0; exact DataW.trod_lt m _ _ _ hm
  have k1 := h1
  have lt1 : ∀ x ∈ p1, x.block < W.heap.size := by obtain ⟨m, hm⟩ := k1; exact DataW.trod_lt m _ _ _ hm
  obtain ⟨f0, g0, rfl, e0, c0⟩ := open23 (hval 0 23 v0 rfl rfl) h0
  obtain ⟨s1, u1, parts1, oparts1, rfl, hdp1, hp7_1, hp8_1, hr1, hw1⟩ := open28 (hval 1 28 v1 rfl rfl) h1
  have z1 := sized_28 hsz (j := 1) rfl (by rw [hdp1]; rfl) hp7_1 hp8_1 hw1
  clear hA0 hval0
  refine (walk f0 g0 s1 u1 W hG e0 c0 hr1 z1.1 z1.2).mono fun e W' ⟨he, bel⟩ => ?_
  subst he
  exact ⟨_, rfl, _, _, _, [], _, [], hW', trodAll_mk1 (shut_bool Tryd.underlying4 _), (trodAll_cons_mk (Below.trod laidOutK (by kernel_rfl) (of_decide_eq_true (by kernel_rfl)) k0 bel lt0) (trodAll_cons_mk (Below.trod laidOutK (by kernel_rfl) (of_decide_eq_true (by kernel_rfl)) k1 bel lt1) trodAll_mk0)), rfl, bel.frame _, fun h => by cases h⟩

theorem over : Rows.segWholeRow.holds Tryd.pinned (OpenSpec.ofChange Rows.segWholeSpec) :=
  OpenClaim.holds_of_wide 8 Tryd.f8 rfl rfl rfl rfl rfl rfl rfl ⟨rfl, rfl, rfl, rfl, rfl⟩ rfl rfl rfl rfl rfl (by kernel_rfl) Tryd.func8 (by kernel_rfl)
    (of_decide_eq_true (by kernel_rfl)) (by unfold Func.isWrapper; first | (rw [if_pos (by decide +kernel)]; kernel_rfl) | (rw [if_neg (by decide +kernel)]; exact ⟨rfl, rfl⟩))
    (fun os started H enc _ => lifted os started H enc)

end Go.Proofs.YtecoknenkjgmjabDoor.segWhole
namespace Go.Proofs.YtecoknenkjgmjabDoor
open Go
theorem segWhole_card_holds : Rows.SegWholeCardSaid :=
  Claim7.holds_tied_plain_at .later [] [.data] true (true, "7a383cbcafb2e437da8d427f08dd0d5acda387abc0a856b5ba63ec94711a83ec") false
    segWhole.over (fun _ h => by cases h) (by kernel_rfl) (fun _ h => by cases h) segWhole_row_tie rfl ⟨rfl, rfl⟩ (by kernel_rfl) rfl
    (fun f fn hf hfn => by
      obtain rfl : f = 8 := Option.some.inj ((show Tryd.prog.funcNamed "sternpost/sternpostlaw08.SegWhole" = some 8 by kernel_rfl).symm.trans hf) |>.symm
      obtain rfl : fn = Tryd.f8 := (Option.some.inj (Tryd.func8.symm.trans hfn)).symm
      exact ⟨by kernel_rfl, fun j t ht => by
        rw [Tryd.params8] at ht
        have hm : t ∈ [23, 28] := by simpa using Array.mem_of_getElem? ht
        have hall : ([23, 28].all fun u => !Tryd.prog.wantsStandIn u) = true := by kernel_rfl
        exact (show Tryd.prog.wantsStandIn t = false by simpa using List.all_eq_true.1 hall t hm)⟩)
    (by kernel_rfl)
end Go.Proofs.YtecoknenkjgmjabDoor
