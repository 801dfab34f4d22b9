/- The contracts of header and Encode of package seg: each returns just the value named here; nothing that was there turns. -/
import Derived.Test.YtecoknenkjgmjabDoorTa
import Derived.Test.YtecoknenkjgmjabDoorOe
import Derived.Test.YtecoknenkjgmjabDoorGx
import Derived.Test.YtecoknenkjgmjabDoorFactsF
import Derived.Test.YtecoknenkjgmjabDoorSa
import Derived.Test.YtecoknenkjgmjabDoorSb
import Derived.Deep.MidRow
import Derived.Deep.Cut
namespace Go.Proofs.YtecoknenkjgmjabDoor
open Go.RowKit
set_option maxRecDepth 100000
set_option linter.unusedVariables false

theorem putV_i (n k : Int) (j : Nat) (hk : k = j) (hj : 1 ≤ j ∧ j ≤ 6) (h0 : 0 ≤ n) (h1 : n < 2 ^ (8 * j)) : putV n k = txt n j := by
  subst hk
  exact putV_t n j hj.1 hj.2 h0 h1
theorem hdr_is {s : Sg} (h : mayG s = true) (E : ByteArray) (hE : E = s.o.enc) (L : Int) (hL : L = (20 + (E.size : Int)) / 4 * 16) : (putV s.fr 2) ++ (putV s.dt 2) ++ (putV s.sq 4) ++ (putV s.ak 4) ++ (putV L 1) ++ (putV s.fl 1) ++ (putV s.wi 2) ++ (putV 0 2) ++ (putV s.ur 2) ++ E = hdrS s := by
  obtain ⟨⟨f0, f1⟩, ⟨d0, d1⟩, ⟨s0, s1⟩, ⟨a0, a1⟩, ⟨l0, l1⟩, ⟨w0, w1⟩, ⟨u0, u1⟩, ho, hd⟩ := may_all h
  have hl := lonB_bd ho
  have hLL : L = lonB s.o := by rw [hL, hE]; rfl
  rw [putV_i s.fr 2 2 rfl (by decide) f0 (by simp; omega), putV_i s.dt 2 2 rfl (by decide) d0 (by simp; omega), putV_i s.sq 4 4 rfl (by decide) s0 (by simp; omega), putV_i s.ak 4 4 rfl (by decide) a0 (by simp; omega), putV_i L 1 1 rfl (by decide) (by omega) (by simp; omega), putV_i s.fl 1 1 rfl (by decide) l0 (by simp; omega), putV_i s.wi 2 2 rfl (by decide) w0 (by simp; omega), putV_i 0 2 2 rfl (by decide) (by decide) (by simp), putV_i s.ur 2 2 rfl (by decide) u0 (by simp; omega), hLL, hE]
  unfold hdrS preS
  simp only [ByteArray.append_assoc]
set_option maxHeartbeats 8000000 in
theorem hdr_s (s : Sg) (v : Value) (w : World) (hv : Rgs w v s.o.rs) (hG : Ord w) (h : mayG s = true) :
    Calls Tryd.prog 29 #[.agg #[.int .i64 s.fr, .int .i64 s.dt, .int .i64 s.sq, .int .i64 s.ak, .int .i64 s.fl, .int .i64 s.wi, .int .i64 s.ur, .int .i64 s.o.m, .int .i64 s.o.c, .int .i64 s.o.t, .int .i64 s.o.ec, .bool s.o.sd, .bool s.o.ok, .bool s.o.sp, v, .string s.da]] w fun e w' => e = .returned (.string (hdrS s)) ∧ Below w.heap.size w w' := by
  have hA := At.box w #[.int .i64 s.fr, .int .i64 s.dt, .int .i64 s.sq, .int .i64 s.ak, .int .i64 s.fl, .int .i64 s.wi, .int .i64 s.ur, .int .i64 s.o.m, .int .i64 s.o.c, .int .i64 s.o.t, .int .i64 s.o.ec, .bool s.o.sd, .bool s.o.ok, .bool s.o.sp, v, .string s.da] 28
  have hl := bel1 w (.cells #[.int .i64 s.fr, .int .i64 s.dt, .int .i64 s.sq, .int .i64 s.ak, .int .i64 s.fl, .int .i64 s.wi, .int .i64 s.ur, .int .i64 s.o.m, .int .i64 s.o.c, .int .i64 s.o.t, .int .i64 s.o.ec, .bool s.o.sd, .bool s.o.ok, .bool s.o.sp, v, .string s.da] 28)
  obtain ⟨-, -, -, -, -, -, -, ho, hd⟩ := may_all h
  have hlo := enc_long ho
  obtain ⟨E, hE⟩ : ∃ E, E = s.o.enc := ⟨_, rfl⟩
  obtain ⟨L, hL⟩ : ∃ L : Int, L = (20 + (E.size : Int)) / 4 * 16 := ⟨_, rfl⟩
  rw [← hdr_is h E hE L hL]
  rw [← hE] at hlo
  have HE : Hid (∀ W, Rgs W v s.o.rs → Ord W → Calls Tryd.prog 54 #[.agg #[.int .i64 s.o.m, .int .i64 s.o.c, .int .i64 s.o.t, .int .i64 s.o.ec, .bool s.o.sd, .bool s.o.ok, .bool s.o.sp, v]] W fun e w' => e = .returned (.tuple #[.string E, .int .i64 0]) ∧ Below W.heap.size W w') := fun W h1 h2 => by
    have := enc_t s.o.m s.o.c s.o.t s.o.ec s.o.sd s.o.ok s.o.sp v s.o.rs W h1 ho h2
    rw [hE]; exact this
  have z0 := putV_le s.fr 2
  have z1 := putV_le s.dt 2
  have z2 := putV_le s.sq 4
  have z3 := putV_le s.ak 4
  have z4 := putV_le L 1
  have z5 := putV_le s.fl 1
  have z6 := putV_le s.wi 2
  have z7 := putV_le 0 2
  have z8 := putV_le s.ur 2
  have e17 : IntKind.i64.wrap (20 + (E.size : Int)) = 20 + (E.size : Int) := by rw [IntKind.wrap_i64]; omega
  have e18 : IntKind.i64.wrap ((20 + (E.size : Int)).tdiv 4) = (20 + (E.size : Int)) / 4 := by rw [Int.tdiv_eq_ediv_of_nonneg (by omega), IntKind.wrap_i64]; omega
  have e19 : IntKind.i64.wrap ((20 + (E.size : Int)) / 4 * 16) = L := by rw [hL, IntKind.wrap_i64]; omega
  have r1 : ∀ W, (Op.stringOp .add (putV s.fr 2) (putV s.dt 2)).run Tryd.prog W = .ok (.string ((putV s.fr 2) ++ (putV s.dt 2))) W := fun W => run_string_add_sum W _ _ (by omega)
  have r2 : ∀ W, (Op.stringOp .add ((putV s.fr 2) ++ (putV s.dt 2)) (putV s.sq 4)).run Tryd.prog W = .ok (.string ((putV s.fr 2) ++ (putV s.dt 2) ++ (putV s.sq 4))) W := fun W => run_string_add_sum W _ _ (by simp only [ByteArray.size_append]; omega)
  have r3 : ∀ W, (Op.stringOp .add ((putV s.fr 2) ++ (putV s.dt 2) ++ (putV s.sq 4)) (putV s.ak 4)).run Tryd.prog W = .ok (.string ((putV s.fr 2) ++ (putV s.dt 2) ++ (putV s.sq 4) ++ (putV s.ak 4))) W := fun W => run_string_add_sum W _ _ (by simp only [ByteArray.size_append]; omega)
  have r4 : ∀ W, (Op.stringOp .add ((putV s.fr 2) ++ (putV s.dt 2) ++ (putV s.sq 4) ++ (putV s.ak 4)) (putV L 1)).run Tryd.prog W = .ok (.string ((putV s.fr 2) ++ (putV s.dt 2) ++ (putV s.sq 4) ++ (putV s.ak 4) ++ (putV L 1))) W := fun W => run_string_add_sum W _ _ (by simp only [ByteArray.size_append]; omega)
  have r5 : ∀ W, (Op.stringOp .add ((putV s.fr 2) ++ (putV s.dt 2) ++ (putV s.sq 4) ++ (putV s.ak 4) ++ (putV L 1)) (putV s.fl 1)).run Tryd.prog W = .ok (.string ((putV s.fr 2) ++ (putV s.dt 2) ++ (putV s.sq 4) ++ (putV s.ak 4) ++ (putV L 1) ++ (putV s.fl 1))) W := fun W => run_string_add_sum W _ _ (by simp only [ByteArray.size_append]; omega)
  have r6 : ∀ W, (Op.stringOp .add ((putV s.fr 2) ++ (putV s.dt 2) ++ (putV s.sq 4) ++ (putV s.ak 4) ++ (putV L 1) ++ (putV s.fl 1)) (putV s.wi 2)).run Tryd.prog W = .ok (.string ((putV s.fr 2) ++ (putV s.dt 2) ++ (putV s.sq 4) ++ (putV s.ak 4) ++ (putV L 1) ++ (putV s.fl 1) ++ (putV s.wi 2))) W := fun W => run_string_add_sum W _ _ (by simp only [ByteArray.size_append]; omega)
  have r7 : ∀ W, (Op.stringOp .add ((putV s.fr 2) ++ (putV s.dt 2) ++ (putV s.sq 4) ++ (putV s.ak 4) ++ (putV L 1) ++ (putV s.fl 1) ++ (putV s.wi 2)) (putV 0 2)).run Tryd.prog W = .ok (.string ((putV s.fr 2) ++ (putV s.dt 2) ++ (putV s.sq 4) ++ (putV s.ak 4) ++ (putV L 1) ++ (putV s.fl 1) ++ (putV s.wi 2) ++ (putV 0 2))) W := fun W => run_string_add_sum W _ _ (by simp only [ByteArray.size_append]; omega)
  have r8 : ∀ W, (Op.stringOp .add ((putV s.fr 2) ++ (putV s.dt 2) ++ (putV s.sq 4) ++ (putV s.ak 4) ++ (putV L 1) ++ (putV s.fl 1) ++ (putV s.wi 2) ++ (putV 0 2)) (putV s.ur 2)).run Tryd.prog W = .ok (.string ((putV s.fr 2) ++ (putV s.dt 2) ++ (putV s.sq 4) ++ (putV s.ak 4) ++ (putV L 1) ++ (putV s.fl 1) ++ (putV s.wi 2) ++ (putV 0 2) ++ (putV s.ur 2))) W := fun W => run_string_add_sum W _ _ (by simp only [ByteArray.size_append]; omega)
  have r9 : ∀ W, (Op.stringOp .add ((putV s.fr 2) ++ (putV s.dt 2) ++ (putV s.sq 4) ++ (putV s.ak 4) ++ (putV L 1) ++ (putV s.fl 1) ++ (putV s.wi 2) ++ (putV 0 2) ++ (putV s.ur 2)) E).run Tryd.prog W = .ok (.string ((putV s.fr 2) ++ (putV s.dt 2) ++ (putV s.sq 4) ++ (putV s.ak 4) ++ (putV L 1) ++ (putV s.fl 1) ++ (putV s.wi 2) ++ (putV 0 2) ++ (putV s.ur 2) ++ E)) W := fun W => run_string_add_sum W _ _ (by simp only [ByteArray.size_append]; omega)
  clear z0 z1 z2 z3 z4 z5 z6 z7 z8 hL hE hlo h hd ho
  go_enter Tryd.func29, Tryd.ntmps29
  go_wp2_with (refine wpList_loadG 26 _ (by rfl) (by rfl) w.heap.size 7 (by rfl) _ _ hA.opts Tryd.underlying26 rfl size26 ?_)
  refine (HE.out _ (hv.later hl) (hG.later hl)).mono ?_
  rintro e w2 ⟨rfl, hb⟩
  replace hl := bt hl hb
  replace hA := hA.later hb
  clear hb HE
  go_upto_region 2 with fail
  refine wp_region_any (by kernel_rfl) ?_
  refine region_facts (fun W => Below w.heap.size w W ∧ At W w.heap.size #[.int .i64 s.fr, .int .i64 s.dt, .int .i64 s.sq, .int .i64 s.ak, .int .i64 s.fl, .int .i64 s.wi, .int .i64 s.ur, .int .i64 s.o.m, .int .i64 s.o.c, .int .i64 s.o.t, .int .i64 s.o.ec, .bool s.o.sd, .bool s.o.ok, .bool s.o.sp, v, .string s.da]) (GE (fun qq => match qq with | 0 => .pointer (some ⟨w.heap.size, 0, none⟩) | 1 => .int .i64 (s.fr) | 2 => .string (putV s.fr 2) | 3 => .pointer (some ⟨w.heap.size, 1, none⟩) | 4 => .int .i64 (s.dt) | 5 => .string (putV s.dt 2) | 6 => .string ((putV s.fr 2) ++ (putV s.dt 2)) | 7 => .pointer (some ⟨w.heap.size, 2, none⟩) | 8 => .int .i64 (s.sq) | 9 => .string (putV s.sq 4) | 10 => .string ((putV s.fr 2) ++ (putV s.dt 2) ++ (putV s.sq 4)) | 11 => .pointer (some ⟨w.heap.size, 3, none⟩) | 12 => .int .i64 (s.ak) | 13 => .string (putV s.ak 4) | 14 => .string ((putV s.fr 2) ++ (putV s.dt 2) ++ (putV s.sq 4) ++ (putV s.ak 4)) | 15 => .string E | 16 => .int .i64 ((E.size : Int)) | 17 => .int .i64 (20 + (E.size : Int)) | 18 => .int .i64 ((20 + (E.size : Int)) / 4) | 19 => .int .i64 (L) | 20 => .string (putV L 1) | 21 => .string ((putV s.fr 2) ++ (putV s.dt 2) ++ (putV s.sq 4) ++ (putV s.ak 4) ++ (putV L 1)) | 22 => .pointer (some ⟨w.heap.size, 4, none⟩) | 23 => .int .i64 (s.fl) | 24 => .string (putV s.fl 1) | 25 => .string ((putV s.fr 2) ++ (putV s.dt 2) ++ (putV s.sq 4) ++ (putV s.ak 4) ++ (putV L 1) ++ (putV s.fl 1)) | 26 => .pointer (some ⟨w.heap.size, 5, none⟩) | 27 => .int .i64 (s.wi) | 28 => .string (putV s.wi 2) | 29 => .string ((putV s.fr 2) ++ (putV s.dt 2) ++ (putV s.sq 4) ++ (putV s.ak 4) ++ (putV L 1) ++ (putV s.fl 1) ++ (putV s.wi 2)) | 30 => .string (putV 0 2) | 31 => .string ((putV s.fr 2) ++ (putV s.dt 2) ++ (putV s.sq 4) ++ (putV s.ak 4) ++ (putV L 1) ++ (putV s.fl 1) ++ (putV s.wi 2) ++ (putV 0 2)) | 32 => .pointer (some ⟨w.heap.size, 6, none⟩) | 33 => .int .i64 (s.ur) | 34 => .string (putV s.ur 2) | 35 => .string ((putV s.fr 2) ++ (putV s.dt 2) ++ (putV s.sq 4) ++ (putV s.ak 4) ++ (putV L 1) ++ (putV s.fl 1) ++ (putV s.wi 2) ++ (putV 0 2) ++ (putV s.ur 2)) | 36 => .string E | 37 => .string ((putV s.fr 2) ++ (putV s.dt 2) ++ (putV s.sq 4) ++ (putV s.ak 4) ++ (putV L 1) ++ (putV s.fl 1) ++ (putV s.wi 2) ++ (putV 0 2) ++ (putV s.ur 2) ++ E) | 38 => .string ((putV s.fr 2) ++ (putV s.dt 2) ++ (putV s.sq 4) ++ (putV s.ak 4) ++ (putV L 1) ++ (putV s.fl 1) ++ (putV s.wi 2) ++ (putV 0 2) ++ (putV s.ur 2) ++ E) | _ => undef) (fun _ => none)) (n := 49) (by kernel_rfl) rfl (by kernel_rfl) (GE_later _ _ (fun _ _ h => by cases h)) ?_ ?_ ⟨hl.drew, hA.later ((Below.refl _ _).drew)⟩ (Nat.le_refl _)
  · clear hl hA
    refine ⟨?_, ?_, ?_, ?_, ?_, ?_, ?_, ?_, ?_, ?_, ?_, ?_, ?_, ?_, ?_, ?_, ?_, ?_, ?_, ?_, ?_, ?_, ?_, ?_, ?_, ?_, ?_, ?_, ?_, ?_, ?_, ?_, ?_, ?_, ?_, ?_, ?_, ?_, ?_, trivial⟩
    · intro ac w1 hS hT hB hD K hK
      rw [if_pos (by rfl)]
      have d1 : ac.tmps.getD 1 undef = .pointer (some ⟨w.heap.size, 0, none⟩) := hB 1 (by kernel_rfl)
      clear hB hD hT
      go_simp
      exact hK _ _ hS (Below.refl _ _) rfl
    · intro ac w1 hS hT hB hD K hK
      rw [if_pos (by rfl)]
      have d11 : ac.tmps.getD 11 undef = .pointer (some ⟨w.heap.size, 0, none⟩) := hD ⟨0, .data⟩ (by simp) rfl _ 11 rfl rfl
      clear hB hD hT
      have hc := hS.2.sixteen.1
      go_simp
      exact hK _ _ hS (Below.refl _ _) rfl
    · intro ac w1 hS hT hB hD K hK
      rw [if_pos (by rfl)]
      have d12 : ac.tmps.getD 12 undef = .int .i64 (s.fr) := hD ⟨1, .data⟩ (by simp) rfl _ 12 rfl rfl
      clear hB hD hT
      go_simp
      refine (put_s _ _ _).mono ?_
      rintro e w' ⟨rfl, hb⟩
      exact hK _ _ ⟨bt hS.1 hb, hS.2.later hb⟩ hb rfl
    · intro ac w1 hS hT hB hD K hK
      rw [if_pos (by rfl)]
      have d1 : ac.tmps.getD 1 undef = .pointer (some ⟨w.heap.size, 0, none⟩) := hB 1 (by kernel_rfl)
      clear hB hD hT
      go_simp
      exact hK _ _ hS (Below.refl _ _) rfl
    · intro ac w1 hS hT hB hD K hK
      rw [if_pos (by rfl)]
      have d14 : ac.tmps.getD 14 undef = .pointer (some ⟨w.heap.size, 1, none⟩) := hD ⟨3, .data⟩ (by simp) rfl _ 14 rfl rfl
      clear hB hD hT
      have hc := hS.2.sixteen.1
      go_simp
      exact hK _ _ hS (Below.refl _ _) rfl
    · intro ac w1 hS hT hB hD K hK
      rw [if_pos (by rfl)]
      have d15 : ac.tmps.getD 15 undef = .int .i64 (s.dt) := hD ⟨4, .data⟩ (by simp) rfl _ 15 rfl rfl
      clear hB hD hT
      go_simp
      refine (put_s _ _ _).mono ?_
      rintro e w' ⟨rfl, hb⟩
      exact hK _ _ ⟨bt hS.1 hb, hS.2.later hb⟩ hb rfl
    · intro ac w1 hS hT hB hD K hK
      rw [if_pos (by rfl)]
      have d13 : ac.tmps.getD 13 undef = .string (putV s.fr 2) := hD ⟨2, .data⟩ (by simp) rfl _ 13 rfl rfl
      have d16 : ac.tmps.getD 16 undef = .string (putV s.dt 2) := hD ⟨5, .data⟩ (by simp) rfl _ 16 rfl rfl
      clear hB hD hT
      go_simp
      exact hK _ _ hS (Below.refl _ _) rfl
    · intro ac w1 hS hT hB hD K hK
      rw [if_pos (by rfl)]
      have d1 : ac.tmps.getD 1 undef = .pointer (some ⟨w.heap.size, 0, none⟩) := hB 1 (by kernel_rfl)
      clear hB hD hT
      go_simp
      exact hK _ _ hS (Below.refl _ _) rfl
    · intro ac w1 hS hT hB hD K hK
      rw [if_pos (by rfl)]
      have d18 : ac.tmps.getD 18 undef = .pointer (some ⟨w.heap.size, 2, none⟩) := hD ⟨7, .data⟩ (by simp) rfl _ 18 rfl rfl
      clear hB hD hT
      have hc := hS.2.sixteen.1
      go_simp
      exact hK _ _ hS (Below.refl _ _) rfl
    · intro ac w1 hS hT hB hD K hK
      rw [if_pos (by rfl)]
      have d19 : ac.tmps.getD 19 undef = .int .i64 (s.sq) := hD ⟨8, .data⟩ (by simp) rfl _ 19 rfl rfl
      clear hB hD hT
      go_simp
      refine (put_s _ _ _).mono ?_
      rintro e w' ⟨rfl, hb⟩
      exact hK _ _ ⟨bt hS.1 hb, hS.2.later hb⟩ hb rfl
    · intro ac w1 hS hT hB hD K hK
      rw [if_pos (by rfl)]
      have d17 : ac.tmps.getD 17 undef = .string ((putV s.fr 2) ++ (putV s.dt 2)) := hD ⟨6, .data⟩ (by simp) rfl _ 17 rfl rfl
      have d20 : ac.tmps.getD 20 undef = .string (putV s.sq 4) := hD ⟨9, .data⟩ (by simp) rfl _ 20 rfl rfl
      clear hB hD hT
      go_simp
      exact hK _ _ hS (Below.refl _ _) rfl
    · intro ac w1 hS hT hB hD K hK
      rw [if_pos (by rfl)]
      have d1 : ac.tmps.getD 1 undef = .pointer (some ⟨w.heap.size, 0, none⟩) := hB 1 (by kernel_rfl)
      clear hB hD hT
      go_simp
      exact hK _ _ hS (Below.refl _ _) rfl
    · intro ac w1 hS hT hB hD K hK
      rw [if_pos (by rfl)]
      have d22 : ac.tmps.getD 22 undef = .pointer (some ⟨w.heap.size, 3, none⟩) := hD ⟨11, .data⟩ (by simp) rfl _ 22 rfl rfl
      clear hB hD hT
      have hc := hS.2.sixteen.1
      go_simp
      exact hK _ _ hS (Below.refl _ _) rfl
    · intro ac w1 hS hT hB hD K hK
      rw [if_pos (by rfl)]
      have d23 : ac.tmps.getD 23 undef = .int .i64 (s.ak) := hD ⟨12, .data⟩ (by simp) rfl _ 23 rfl rfl
      clear hB hD hT
      go_simp
      refine (put_s _ _ _).mono ?_
      rintro e w' ⟨rfl, hb⟩
      exact hK _ _ ⟨bt hS.1 hb, hS.2.later hb⟩ hb rfl
    · intro ac w1 hS hT hB hD K hK
      rw [if_pos (by rfl)]
      have d21 : ac.tmps.getD 21 undef = .string ((putV s.fr 2) ++ (putV s.dt 2) ++ (putV s.sq 4)) := hD ⟨10, .data⟩ (by simp) rfl _ 21 rfl rfl
      have d24 : ac.tmps.getD 24 undef = .string (putV s.ak 4) := hD ⟨13, .data⟩ (by simp) rfl _ 24 rfl rfl
      clear hB hD hT
      go_simp
      exact hK _ _ hS (Below.refl _ _) rfl
    · intro ac w1 hS hT hB hD K hK
      rw [if_pos (by rfl)]
      have d3 : ac.tmps.getD 3 undef = .string E := hB 3 (by kernel_rfl)
      clear hB hD hT
      go_simp
      exact hK _ _ hS (Below.refl _ _) rfl
    · intro ac w1 hS hT hB hD K hK
      rw [if_pos (by rfl)]
      have d26 : ac.tmps.getD 26 undef = .string E := hD ⟨15, .data⟩ (by simp) rfl _ 26 rfl rfl
      clear hB hD hT
      go_simp
      exact hK _ _ hS (Below.refl _ _) rfl
    · intro ac w1 hS hT hB hD K hK
      rw [if_pos (by rfl)]
      have d27 : ac.tmps.getD 27 undef = .int .i64 ((E.size : Int)) := hD ⟨16, .data⟩ (by simp) rfl _ 27 rfl rfl
      clear hB hD hT
      go_simp
      exact hK _ _ hS (Below.refl _ _) rfl
    · intro ac w1 hS hT hB hD K hK
      rw [if_pos (by rfl)]
      have d28 : ac.tmps.getD 28 undef = .int .i64 (20 + (E.size : Int)) := hD ⟨17, .data⟩ (by simp) rfl _ 28 rfl rfl
      clear hB hD hT
      go_simp
      exact hK _ _ hS (Below.refl _ _) rfl
    · intro ac w1 hS hT hB hD K hK
      rw [if_pos (by rfl)]
      have d29 : ac.tmps.getD 29 undef = .int .i64 ((20 + (E.size : Int)) / 4) := hD ⟨18, .data⟩ (by simp) rfl _ 29 rfl rfl
      clear hB hD hT
      have e19 := e19
      go_simp
      exact hK _ _ hS (Below.refl _ _) rfl
    · intro ac w1 hS hT hB hD K hK
      rw [if_pos (by rfl)]
      have d30 : ac.tmps.getD 30 undef = .int .i64 (L) := hD ⟨19, .data⟩ (by simp) rfl _ 30 rfl rfl
      clear hB hD hT
      go_simp
      refine (put_s _ _ _).mono ?_
      rintro e w' ⟨rfl, hb⟩
      exact hK _ _ ⟨bt hS.1 hb, hS.2.later hb⟩ hb rfl
    · intro ac w1 hS hT hB hD K hK
      rw [if_pos (by rfl)]
      have d25 : ac.tmps.getD 25 undef = .string ((putV s.fr 2) ++ (putV s.dt 2) ++ (putV s.sq 4) ++ (putV s.ak 4)) := hD ⟨14, .data⟩ (by simp) rfl _ 25 rfl rfl
      have d31 : ac.tmps.getD 31 undef = .string (putV L 1) := hD ⟨20, .data⟩ (by simp) rfl _ 31 rfl rfl
      clear hB hD hT
      go_simp
      exact hK _ _ hS (Below.refl _ _) rfl
    · intro ac w1 hS hT hB hD K hK
      rw [if_pos (by rfl)]
      have d1 : ac.tmps.getD 1 undef = .pointer (some ⟨w.heap.size, 0, none⟩) := hB 1 (by kernel_rfl)
      clear hB hD hT
      go_simp
      exact hK _ _ hS (Below.refl _ _) rfl
    · intro ac w1 hS hT hB hD K hK
      rw [if_pos (by rfl)]
      have d33 : ac.tmps.getD 33 undef = .pointer (some ⟨w.heap.size, 4, none⟩) := hD ⟨22, .data⟩ (by simp) rfl _ 33 rfl rfl
      clear hB hD hT
      have hc := hS.2.sixteen.1
      go_simp
      exact hK _ _ hS (Below.refl _ _) rfl
    · intro ac w1 hS hT hB hD K hK
      rw [if_pos (by rfl)]
      have d34 : ac.tmps.getD 34 undef = .int .i64 (s.fl) := hD ⟨23, .data⟩ (by simp) rfl _ 34 rfl rfl
      clear hB hD hT
      go_simp
      refine (put_s _ _ _).mono ?_
      rintro e w' ⟨rfl, hb⟩
      exact hK _ _ ⟨bt hS.1 hb, hS.2.later hb⟩ hb rfl
    · intro ac w1 hS hT hB hD K hK
      rw [if_pos (by rfl)]
      have d32 : ac.tmps.getD 32 undef = .string ((putV s.fr 2) ++ (putV s.dt 2) ++ (putV s.sq 4) ++ (putV s.ak 4) ++ (putV L 1)) := hD ⟨21, .data⟩ (by simp) rfl _ 32 rfl rfl
      have d35 : ac.tmps.getD 35 undef = .string (putV s.fl 1) := hD ⟨24, .data⟩ (by simp) rfl _ 35 rfl rfl
      clear hB hD hT
      go_simp
      exact hK _ _ hS (Below.refl _ _) rfl
    · intro ac w1 hS hT hB hD K hK
      rw [if_pos (by rfl)]
      have d1 : ac.tmps.getD 1 undef = .pointer (some ⟨w.heap.size, 0, none⟩) := hB 1 (by kernel_rfl)
      clear hB hD hT
      go_simp
      exact hK _ _ hS (Below.refl _ _) rfl
    · intro ac w1 hS hT hB hD K hK
      rw [if_pos (by rfl)]
      have d37 : ac.tmps.getD 37 undef = .pointer (some ⟨w.heap.size, 5, none⟩) := hD ⟨26, .data⟩ (by simp) rfl _ 37 rfl rfl
      clear hB hD hT
      have hc := hS.2.sixteen.1
      go_simp
      exact hK _ _ hS (Below.refl _ _) rfl
    · intro ac w1 hS hT hB hD K hK
      rw [if_pos (by rfl)]
      have d38 : ac.tmps.getD 38 undef = .int .i64 (s.wi) := hD ⟨27, .data⟩ (by simp) rfl _ 38 rfl rfl
      clear hB hD hT
      go_simp
      refine (put_s _ _ _).mono ?_
      rintro e w' ⟨rfl, hb⟩
      exact hK _ _ ⟨bt hS.1 hb, hS.2.later hb⟩ hb rfl
    · intro ac w1 hS hT hB hD K hK
      rw [if_pos (by rfl)]
      have d36 : ac.tmps.getD 36 undef = .string ((putV s.fr 2) ++ (putV s.dt 2) ++ (putV s.sq 4) ++ (putV s.ak 4) ++ (putV L 1) ++ (putV s.fl 1)) := hD ⟨25, .data⟩ (by simp) rfl _ 36 rfl rfl
      have d39 : ac.tmps.getD 39 undef = .string (putV s.wi 2) := hD ⟨28, .data⟩ (by simp) rfl _ 39 rfl rfl
      clear hB hD hT
      go_simp
      exact hK _ _ hS (Below.refl _ _) rfl
    · intro ac w1 hS hT hB hD K hK
      rw [if_pos (by rfl)]
      clear hB hD hT
      go_simp
      refine (put_s _ _ _).mono ?_
      rintro e w' ⟨rfl, hb⟩
      exact hK _ _ ⟨bt hS.1 hb, hS.2.later hb⟩ hb rfl
    · intro ac w1 hS hT hB hD K hK
      rw [if_pos (by rfl)]
      have d40 : ac.tmps.getD 40 undef = .string ((putV s.fr 2) ++ (putV s.dt 2) ++ (putV s.sq 4) ++ (putV s.ak 4) ++ (putV L 1) ++ (putV s.fl 1) ++ (putV s.wi 2)) := hD ⟨29, .data⟩ (by simp) rfl _ 40 rfl rfl
      have d41 : ac.tmps.getD 41 undef = .string (putV 0 2) := hD ⟨30, .data⟩ (by simp) rfl _ 41 rfl rfl
      clear hB hD hT
      go_simp
      exact hK _ _ hS (Below.refl _ _) rfl
    · intro ac w1 hS hT hB hD K hK
      rw [if_pos (by rfl)]
      have d1 : ac.tmps.getD 1 undef = .pointer (some ⟨w.heap.size, 0, none⟩) := hB 1 (by kernel_rfl)
      clear hB hD hT
      go_simp
      exact hK _ _ hS (Below.refl _ _) rfl
    · intro ac w1 hS hT hB hD K hK
      rw [if_pos (by rfl)]
      have d43 : ac.tmps.getD 43 undef = .pointer (some ⟨w.heap.size, 6, none⟩) := hD ⟨32, .data⟩ (by simp) rfl _ 43 rfl rfl
      clear hB hD hT
      have hc := hS.2.sixteen.1
      go_simp
      exact hK _ _ hS (Below.refl _ _) rfl
    · intro ac w1 hS hT hB hD K hK
      rw [if_pos (by rfl)]
      have d44 : ac.tmps.getD 44 undef = .int .i64 (s.ur) := hD ⟨33, .data⟩ (by simp) rfl _ 44 rfl rfl
      clear hB hD hT
      go_simp
      refine (put_s _ _ _).mono ?_
      rintro e w' ⟨rfl, hb⟩
      exact hK _ _ ⟨bt hS.1 hb, hS.2.later hb⟩ hb rfl
    · intro ac w1 hS hT hB hD K hK
      rw [if_pos (by rfl)]
      have d42 : ac.tmps.getD 42 undef = .string ((putV s.fr 2) ++ (putV s.dt 2) ++ (putV s.sq 4) ++ (putV s.ak 4) ++ (putV L 1) ++ (putV s.fl 1) ++ (putV s.wi 2) ++ (putV 0 2)) := hD ⟨31, .data⟩ (by simp) rfl _ 42 rfl rfl
      have d45 : ac.tmps.getD 45 undef = .string (putV s.ur 2) := hD ⟨34, .data⟩ (by simp) rfl _ 45 rfl rfl
      clear hB hD hT
      go_simp
      exact hK _ _ hS (Below.refl _ _) rfl
    · intro ac w1 hS hT hB hD K hK
      rw [if_pos (by rfl)]
      have d3 : ac.tmps.getD 3 undef = .string E := hB 3 (by kernel_rfl)
      clear hB hD hT
      go_simp
      exact hK _ _ hS (Below.refl _ _) rfl
    · intro ac w1 hS hT hB hD K hK
      rw [if_pos (by rfl)]
      have d46 : ac.tmps.getD 46 undef = .string ((putV s.fr 2) ++ (putV s.dt 2) ++ (putV s.sq 4) ++ (putV s.ak 4) ++ (putV L 1) ++ (putV s.fl 1) ++ (putV s.wi 2) ++ (putV 0 2) ++ (putV s.ur 2)) := hD ⟨35, .data⟩ (by simp) rfl _ 46 rfl rfl
      have d47 : ac.tmps.getD 47 undef = .string E := hD ⟨36, .data⟩ (by simp) rfl _ 47 rfl rfl
      clear hB hD hT
      go_simp
      exact hK _ _ hS (Below.refl _ _) rfl
    · intro ac w1 hS hT hB hD K hK
      rw [if_pos (by rfl)]
      have d48 : ac.tmps.getD 48 undef = .string ((putV s.fr 2) ++ (putV s.dt 2) ++ (putV s.sq 4) ++ (putV s.ak 4) ++ (putV L 1) ++ (putV s.fl 1) ++ (putV s.wi 2) ++ (putV 0 2) ++ (putV s.ur 2) ++ E) := hD ⟨37, .data⟩ (by simp) rfl _ 48 rfl rfl
      clear hB hD hT
      go_simp
      exact hK _ _ hS (Below.refl _ _) rfl
  · intro ac w9 hS hT hdf hB hF
    obtain ⟨⟨l⟩, df⟩ := ac
    match l, hT with
    | x0 :: x1 :: x2 :: x3 :: x4 :: x5 :: x6 :: x7 :: x8 :: x9 :: x10 :: x11 :: x12 :: x13 :: x14 :: x15 :: x16 :: x17 :: x18 :: x19 :: x20 :: x21 :: x22 :: x23 :: x24 :: x25 :: x26 :: x27 :: x28 :: x29 :: x30 :: x31 :: x32 :: x33 :: x34 :: x35 :: x36 :: x37 :: x38 :: x39 :: x40 :: x41 :: x42 :: x43 :: x44 :: x45 :: x46 :: x47 :: x48 :: [], _ =>
      have s2 : x2 = .string ((putV s.fr 2) ++ (putV s.dt 2) ++ (putV s.sq 4) ++ (putV s.ak 4) ++ (putV L 1) ++ (putV s.fl 1) ++ (putV s.wi 2) ++ (putV 0 2) ++ (putV s.ur 2) ++ E) := hF 38 _ 2 rfl rfl
      have sd : df = [] := hdf
      subst s2 sd
      clear hB hF
      go_wp2
      go_ret
      exact ⟨rfl, hS.1⟩
end Go.Proofs.YtecoknenkjgmjabDoor
