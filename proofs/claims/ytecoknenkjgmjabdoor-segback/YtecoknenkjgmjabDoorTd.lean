/- The contract of Encode of package seg: it returns just the values named here; nothing that was there turns. -/
import Derived.Test.YtecoknenkjgmjabDoorTc
namespace Go.Proofs.YtecoknenkjgmjabDoor
open Go.RowKit
set_option maxRecDepth 100000
set_option linter.unusedVariables false

theorem encs_r (f t : Int) (s : Sg) (v : Value) (w : World) (h : (numB f && numB t) = false) :
    Calls Tryd.prog 9 #[.int .i64 f, .int .i64 t, .agg #[.int .i64 s.fr, .int .i64 s.dt, .int .i64 s.sq, .int .i64 s.ak, .int .i64 s.fl, .int .i64 s.wi, .int .i64 s.ur, .int .i64 s.o.m, .int .i64 s.o.c, .int .i64 s.o.t, .int .i64 s.o.ec, .bool s.o.sd, .bool s.o.ok, .bool s.o.sp, v, .string s.da]] w fun e w' => e = .returned (.tuple #[.string ⟨#[]⟩, .int .i64 1]) ∧ Below w.heap.size w w' := by
  have hA := At.box w #[.int .i64 s.fr, .int .i64 s.dt, .int .i64 s.sq, .int .i64 s.ak, .int .i64 s.fl, .int .i64 s.wi, .int .i64 s.ur, .int .i64 s.o.m, .int .i64 s.o.c, .int .i64 s.o.t, .int .i64 s.o.ec, .bool s.o.sd, .bool s.o.ok, .bool s.o.sp, v, .string s.da] 28
  have hl := bel1 w (.cells #[.int .i64 s.fr, .int .i64 s.dt, .int .i64 s.sq, .int .i64 s.ak, .int .i64 s.fl, .int .i64 s.wi, .int .i64 s.ur, .int .i64 s.o.m, .int .i64 s.o.c, .int .i64 s.o.t, .int .i64 s.o.ec, .bool s.o.sd, .bool s.o.ok, .bool s.o.sp, v, .string s.da] 28)
  have hc := fun W => addr_any f t W
  rw [h] at hc
  clear h
  go_enter Tryd.func9, Tryd.ntmps9
  go_wp2_with fail
  refine (hc _).mono ?_
  rintro e w1 ⟨rfl, rfl⟩
  go_wp2
  go_ret2
  exact ⟨rfl, hl⟩
theorem encs_n (f t : Int) (s : Sg) (v : Value) (w : World) (hv : Rgs w v s.o.rs) (hn : s.o.rs.length ≤ 17592186044416) (hG : Ord w) (h : (numB f && numB t) = true) (hm : mayG s = false) :
    Calls Tryd.prog 9 #[.int .i64 f, .int .i64 t, .agg #[.int .i64 s.fr, .int .i64 s.dt, .int .i64 s.sq, .int .i64 s.ak, .int .i64 s.fl, .int .i64 s.wi, .int .i64 s.ur, .int .i64 s.o.m, .int .i64 s.o.c, .int .i64 s.o.t, .int .i64 s.o.ec, .bool s.o.sd, .bool s.o.ok, .bool s.o.sp, v, .string s.da]] w fun e w' => e = .returned (.tuple #[.string ⟨#[]⟩, .int .i64 80]) ∧ Below w.heap.size w w' := by
  have hA := At.box w #[.int .i64 s.fr, .int .i64 s.dt, .int .i64 s.sq, .int .i64 s.ak, .int .i64 s.fl, .int .i64 s.wi, .int .i64 s.ur, .int .i64 s.o.m, .int .i64 s.o.c, .int .i64 s.o.t, .int .i64 s.o.ec, .bool s.o.sd, .bool s.o.ok, .bool s.o.sp, v, .string s.da] 28
  have hl := bel1 w (.cells #[.int .i64 s.fr, .int .i64 s.dt, .int .i64 s.sq, .int .i64 s.ak, .int .i64 s.fl, .int .i64 s.wi, .int .i64 s.ur, .int .i64 s.o.m, .int .i64 s.o.c, .int .i64 s.o.t, .int .i64 s.o.ec, .bool s.o.sd, .bool s.o.ok, .bool s.o.sp, v, .string s.da] 28)
  have hc := fun W => addr_any f t W
  rw [h] at hc
  have hq := may_s s v _ (hv.later hl) hn (hG.later hl)
  rw [hm] at hq
  clear h hm
  go_enter Tryd.func9, Tryd.ntmps9
  go_wp2_with fail
  refine (hc _).mono ?_
  rintro e w1 ⟨rfl, rfl⟩
  go_wp2_with (refine wpList_loadG 28 _ (by rfl) (by rfl) (w.heap.size) 0 (by rfl) _ _ hA.range Tryd.underlying28 rfl size28 ?_)
  refine hq.mono ?_
  rintro e w2 ⟨rfl, hb⟩
  go_wp2
  go_ret2
  exact ⟨rfl, bt hl hb⟩
set_option maxHeartbeats 8000000 in
theorem encs_y (f t : Int) (s : Sg) (v : Value) (w : World) (hv : Rgs w v s.o.rs) (hG : Ord w) (h : (numB f && numB t) = true) (hm : mayG s = true) :
    Calls Tryd.prog 9 #[.int .i64 f, .int .i64 t, .agg #[.int .i64 s.fr, .int .i64 s.dt, .int .i64 s.sq, .int .i64 s.ak, .int .i64 s.fl, .int .i64 s.wi, .int .i64 s.ur, .int .i64 s.o.m, .int .i64 s.o.c, .int .i64 s.o.t, .int .i64 s.o.ec, .bool s.o.sd, .bool s.o.ok, .bool s.o.sp, v, .string s.da]] w fun e w' => e = .returned (.tuple #[.string (encS f t s), .int .i64 0]) ∧ Below w.heap.size w w' := by
  have hA := At.box w #[.int .i64 s.fr, .int .i64 s.dt, .int .i64 s.sq, .int .i64 s.ak, .int .i64 s.fl, .int .i64 s.wi, .int .i64 s.ur, .int .i64 s.o.m, .int .i64 s.o.c, .int .i64 s.o.t, .int .i64 s.o.ec, .bool s.o.sd, .bool s.o.ok, .bool s.o.sp, v, .string s.da] 28
  have hl := bel1 w (.cells #[.int .i64 s.fr, .int .i64 s.dt, .int .i64 s.sq, .int .i64 s.ak, .int .i64 s.fl, .int .i64 s.wi, .int .i64 s.ur, .int .i64 s.o.m, .int .i64 s.o.c, .int .i64 s.o.t, .int .i64 s.o.ec, .bool s.o.sd, .bool s.o.ok, .bool s.o.sp, v, .string s.da] 28)
  have hc := fun W => addr_any f t W
  rw [h] at hc
  obtain ⟨hf, ht⟩ : numB f = true ∧ numB t = true := by simpa using h
  have hn : s.o.rs.length ≤ 17592186044416 := by
    obtain ⟨-, -, -, -, -, -, -, ho, -⟩ := may_all hm
    have := mayO_short ho
    omega
  have hq := may_s s v _ (hv.later hl) hn (hG.later hl)
  rw [hm] at hq
  have hb5 := lenS_bd hm
  have HH : Hid (∀ W, Rgs W v s.o.rs → Ord W → Calls Tryd.prog 29 #[.agg #[.int .i64 s.fr, .int .i64 s.dt, .int .i64 s.sq, .int .i64 s.ak, .int .i64 s.fl, .int .i64 s.wi, .int .i64 s.ur, .int .i64 s.o.m, .int .i64 s.o.c, .int .i64 s.o.t, .int .i64 s.o.ec, .bool s.o.sd, .bool s.o.ok, .bool s.o.sp, v, .string s.da]] W fun e w' => e = .returned (.string (hdrS s)) ∧ Below W.heap.size W w') := fun W h1 h2 => hdr_s s v W h1 h2 hm
  have hrz := rawS_size s
  have hpz := psS_size f t (lenS s)
  have hr0 : ∀ W, (Op.stringOp .add (hdrS s) s.da).run Tryd.prog W = .ok (.string (rawS s)) W := fun W => by
    have := run_string_add_sum (P := Tryd.prog) W (hdrS s) s.da (by have := hdrS_size s; unfold lenS at hb5; omega)
    rw [raw_is] at this
    exact this
  have hps : ∀ W, Calls Tryd.prog 30 #[.int .i64 f, .int .i64 t, .int .i64 ((rawS s).size : Int)] W fun e w' => e = .returned (.string (psS f t (lenS s))) ∧ Below W.heap.size W w' := fun W => by
    have := pseudo_s f t ((rawS s).size : Int) W
    rw [pseuV_is f t _ hf ht (by omega), hrz] at this
    rw [hrz]
    exact this
  have hse : ∀ W, Calls Tryd.prog 31 #[.string (psS f t (lenS s) ++ rawS s), .int .i64 28] W fun e w' => e = .returned (.tuple #[.string (psS f t (lenS s) ++ encS f t s), .int .i64 0]) ∧ Below W.heap.size W w' := fun W => by
    have := seal_any (psS f t (lenS s) ++ rawS s) 28 W (by rw [ByteArray.size_append]; unfold maxLen; omega)
    rw [(sealG_is f t hm).1, (sealG_is f t hm).2] at this
    exact this
  have hcut := cut_enc f t (lenS s) s
  have hz8 : (psS f t (lenS s) ++ encS f t s).size ≤ 65536 := by rw [ByteArray.size_append, encS_size]; omega
  have hz9 : 12 ≤ (psS f t (lenS s) ++ encS f t s).size := by rw [ByteArray.size_append]; omega
  generalize psS f t (lenS s) ++ encS f t s = SE at *
  generalize encS f t s = EN at *
  generalize psS f t (lenS s) = PS at *
  generalize rawS s = RW at *
  have hr1 : ∀ W, (Op.stringOp .add PS RW).run Tryd.prog W = .ok (.string (PS ++ RW)) W := fun W => run_string_add_sum W _ _ (by omega)
  have hr2 : ∀ W, (Instr.slice 9 (.string SE) (some (.int .i64 12)) none none).run Tryd.prog W = .ok (.string EN) W := fun W => by
    rw [run_slice_string_from_if W 9 SE .i64 12 Tryd.underlying9, if_pos (by omega)]
    show _ = _
    rw [← hcut]
    rfl
  have hpl : (PS.size : Int) = 12 := by omega
  have HPS : Hid (∀ W, Calls Tryd.prog 30 #[.int .i64 f, .int .i64 t, .int .i64 (RW.size : Int)] W fun e w' => e = .returned (.string PS) ∧ Below W.heap.size W w') := hps
  have HSE : Hid (∀ W, Calls Tryd.prog 31 #[.string (PS ++ RW), .int .i64 28] W fun e w' => e = .returned (.tuple #[.string SE, .int .i64 0]) ∧ Below W.heap.size W w') := hse
  have HPL : Hid ((PS.size : Int) = 12) := hpl
  have HRZ : Hid (RW.size = lenS s) := hrz
  clear hps hse h hm hf ht hn hb5 hcut hz8 hz9 hrz hpz hpl
  go_enter Tryd.func9, Tryd.ntmps9
  go_wp2_with fail
  refine (hc _).mono ?_
  rintro e w1 ⟨rfl, rfl⟩
  go_wp2_with (refine wpList_loadG 28 _ (by rfl) (by rfl) (w.heap.size) 0 (by rfl) _ _ hA.range Tryd.underlying28 rfl size28 ?_)
  refine hq.mono ?_
  rintro e w2 ⟨rfl, hb⟩
  replace hl := bt hl hb
  replace hA := hA.later hb
  clear hb hq hc
  go_upto_region 5 with fail
  refine wp_region_any (by kernel_rfl) ?_
  refine region_facts (fun W => Below w.heap.size w W ∧ At W w.heap.size #[.int .i64 s.fr, .int .i64 s.dt, .int .i64 s.sq, .int .i64 s.ak, .int .i64 s.fl, .int .i64 s.wi, .int .i64 s.ur, .int .i64 s.o.m, .int .i64 s.o.c, .int .i64 s.o.t, .int .i64 s.o.ec, .bool s.o.sd, .bool s.o.ok, .bool s.o.sp, v, .string s.da] ∧ Rgs W v s.o.rs ∧ Ord W) (GE (fun qq => match qq with | 0 => .agg #[.int .i64 s.fr, .int .i64 s.dt, .int .i64 s.sq, .int .i64 s.ak, .int .i64 s.fl, .int .i64 s.wi, .int .i64 s.ur, .int .i64 s.o.m, .int .i64 s.o.c, .int .i64 s.o.t, .int .i64 s.o.ec, .bool s.o.sd, .bool s.o.ok, .bool s.o.sp, v, .string s.da] | 1 => .string (hdrS s) | 2 => .pointer (some ⟨w.heap.size, 15, none⟩) | 3 => .string s.da | 4 => .string RW | 5 => .string RW | _ => undef) (fun _ => none)) (n := 43) (by kernel_rfl) rfl (by kernel_rfl) (GE_later _ _ (fun _ _ h => by cases h)) ?_ ?_ ⟨hl.drew, hA.later ((Below.refl _ _).drew), hv.later hl.drew, hG.later hl.drew⟩ (Nat.le_refl _)
  · clear hl hA HPS HSE HPL HRZ
    refine ⟨?_, ?_, ?_, ?_, ?_, ?_, trivial⟩
    · intro ac w1 hS hT hB hD K hK
      rw [if_pos (by rfl)]
      have d5 : ac.tmps.getD 5 undef = .pointer (some ⟨w.heap.size, 0, none⟩) := hB 5 (by kernel_rfl)
      clear hB hD hT
      exact wp_load_mid 28 (.tmp 5) rfl (w.heap.size) 0 d5 _ _ hS.2.1.range Tryd.underlying28 rfl size28 (hK _ _ hS (Below.refl _ _) rfl)
    · intro ac w1 hS hT hB hD K hK
      rw [if_pos (by rfl)]
      have d19 : ac.tmps.getD 19 undef = .agg #[.int .i64 s.fr, .int .i64 s.dt, .int .i64 s.sq, .int .i64 s.ak, .int .i64 s.fl, .int .i64 s.wi, .int .i64 s.ur, .int .i64 s.o.m, .int .i64 s.o.c, .int .i64 s.o.t, .int .i64 s.o.ec, .bool s.o.sd, .bool s.o.ok, .bool s.o.sp, v, .string s.da] := hD ⟨0, .data⟩ (by simp) rfl _ 19 rfl rfl
      clear hB hD hT
      go_simp
      refine (HH.out _ hS.2.2.1 hS.2.2.2).mono ?_
      rintro e w' ⟨rfl, hb⟩
      exact hK _ _ ⟨bt hS.1 hb, hS.2.1.later hb, hS.2.2.1.later hb, hS.2.2.2.later hb⟩ hb rfl
    · intro ac w1 hS hT hB hD K hK
      rw [if_pos (by rfl)]
      have d5 : ac.tmps.getD 5 undef = .pointer (some ⟨w.heap.size, 0, none⟩) := hB 5 (by kernel_rfl)
      clear hB hD hT
      go_simp
      exact hK _ _ hS (Below.refl _ _) rfl
    · intro ac w1 hS hT hB hD K hK
      rw [if_pos (by rfl)]
      have d21 : ac.tmps.getD 21 undef = .pointer (some ⟨w.heap.size, 15, none⟩) := hD ⟨2, .data⟩ (by simp) rfl _ 21 rfl rfl
      clear hB hD hT
      have hc := hS.2.1.sixteen.1
      go_simp
      exact hK _ _ hS (Below.refl _ _) rfl
    · intro ac w1 hS hT hB hD K hK
      rw [if_pos (by rfl)]
      have d20 : ac.tmps.getD 20 undef = .string (hdrS s) := hD ⟨1, .data⟩ (by simp) rfl _ 20 rfl rfl
      have d22 : ac.tmps.getD 22 undef = .string s.da := hD ⟨3, .data⟩ (by simp) rfl _ 22 rfl rfl
      clear hB hD hT
      go_simp
      exact hK _ _ hS (Below.refl _ _) rfl
    · intro ac w1 hS hT hB hD K hK
      rw [if_pos (by rfl)]
      have d23 : ac.tmps.getD 23 undef = .string RW := hD ⟨4, .data⟩ (by simp) rfl _ 23 rfl rfl
      clear hB hD hT
      go_simp
      exact hK _ _ hS (Below.refl _ _) rfl
  · intro ac w9 hS hT hdf hB hF
    clear HH hl hA hv hG
    obtain ⟨⟨l⟩, df⟩ := ac
    match l, hT with
    | x0 :: x1 :: x2 :: x3 :: x4 :: x5 :: x6 :: x7 :: x8 :: x9 :: x10 :: x11 :: x12 :: x13 :: x14 :: x15 :: x16 :: x17 :: x18 :: x19 :: x20 :: x21 :: x22 :: x23 :: x24 :: x25 :: x26 :: x27 :: x28 :: x29 :: x30 :: x31 :: x32 :: x33 :: x34 :: x35 :: x36 :: x37 :: x38 :: x39 :: x40 :: x41 :: x42 :: [], _ =>
      have s8 : x8 = .string RW := hF 5 _ 8 rfl rfl
      have s0 : x0 = .int .i64 f := hB 0 (by kernel_rfl)
      have s1 : x1 = .int .i64 t := hB 1 (by kernel_rfl)
      have sd : df = [] := hdf
      subst s8 s0 s1 sd
      clear hB hF
      go_wp2_with fail
      refine (HPS.out _).mono ?_
      rintro e w3 ⟨rfl, hb⟩
      have hl := bt hS.1 hb
      clear HPS hb hS
      have hpl := HPL.out
      go_wp2_with fail
      refine (HSE.out _).mono ?_
      rintro e w4 ⟨rfl, hb⟩
      replace hl := bt hl hb
      go_wp2
      go_ret2
      exact ⟨rfl, hl⟩
end Go.Proofs.YtecoknenkjgmjabDoor
