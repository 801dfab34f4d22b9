/- The contract of the document's Check of layer 8: which segments may be; nothing that was there turns. -/
import Derived.Test.YtecoknenkjgmjabDoorSb
import Derived.Test.YtecoknenkjgmjabDoorRb
namespace Go.Proofs.YtecoknenkjgmjabDoor
open Go.RowKit
set_option maxRecDepth 100000
set_option linter.unusedVariables false

theorem rk_t {o : Op} {v : Value} (w : World) (hv : Rgs w v o.rs) (hn : o.rs.length ≤ 17592186044416) (h : o.may = true) : Calls Tryd.prog 34 #[.agg #[.int .i64 o.m, .int .i64 o.c, .int .i64 o.t, .int .i64 o.ec, .bool o.sd, .bool o.ok, .bool o.sp, v]] w fun e w' => e = .returned (.int .i64 0) ∧ Below w.heap.size w w' := by
  have := rcheck_o o.m o.c o.t o.ec o.sd o.ok o.sp v o.rs w hv hn
  rw [show mayO o.m o.c o.t o.ec o.sd o.ok o.sp o.rs = true from h, codeO_t] at this
  exact this
theorem rk_f {o : Op} {v : Value} (w : World) (hv : Rgs w v o.rs) (hn : o.rs.length ≤ 17592186044416) (h : o.may = false) : Calls Tryd.prog 34 #[.agg #[.int .i64 o.m, .int .i64 o.c, .int .i64 o.t, .int .i64 o.ec, .bool o.sd, .bool o.ok, .bool o.sp, v]] w fun e w' => e = .returned (.int .i64 70) ∧ Below w.heap.size w w' := by
  have := rcheck_o o.m o.c o.t o.ec o.sd o.ok o.sp v o.rs w hv hn
  rw [show mayO o.m o.c o.t o.ec o.sd o.ok o.sp o.rs = false from h, codeO_f] at this
  exact this
def okK (s : Sg) (k : Nat) : Bool := (decide (k < 1) || fitsB s.fr 65535) && (decide (k < 2) || fitsB s.dt 65535) && (decide (k < 3) || fitsB s.wi 65535) && (decide (k < 4) || fitsB s.ur 65535)
theorem fits_f {n m : Int} (h : fitsB n m = false) : n < 0 ∨ (¬ n < 0 ∧ m < n) := by have := of_decide_eq_false h; omega
theorem fits_t {n m : Int} (h : fitsB n m = true) : ¬ n < 0 ∧ ¬ m < n := by have := of_decide_eq_true h; omega
theorem bs4 (a b c d : Int) (w : World) : (Instr.buildSlice 56 4 #[(0, .int .i64 a), (1, .int .i64 b), (2, .int .i64 c), (3, .int .i64 d)]).run Tryd.prog w = .ok (.slice (some ⟨w.heap.size, 0, none⟩) 4 4) (w.alloc (.cells #[.int .i64 a, .int .i64 b, .int .i64 c, .int .i64 d] 3)) := by kernel_rfl
set_option maxHeartbeats 4000000 in
theorem rchk_s (s : Sg) (v : Value) (w : World) (hv : Rgs w v s.o.rs) (hn : s.o.rs.length ≤ 17592186044416) :
    Calls Tryd.prog 12 #[.agg #[.int .i64 s.fr, .int .i64 s.dt, .int .i64 s.sq, .int .i64 s.ak, .int .i64 s.fl, .int .i64 s.wi, .int .i64 s.ur, .int .i64 s.o.m, .int .i64 s.o.c, .int .i64 s.o.t, .int .i64 s.o.ec, .bool s.o.sd, .bool s.o.ok, .bool s.o.sp, v, .string s.da]] w fun e w' => e = .returned (.int .i64 (codeG (mayG s))) ∧ Below w.heap.size w w' := by
  have hb1 := bel1 w (.cells #[.int .i64 s.fr, .int .i64 s.dt, .int .i64 s.sq, .int .i64 s.ak, .int .i64 s.fl, .int .i64 s.wi, .int .i64 s.ur, .int .i64 s.o.m, .int .i64 s.o.c, .int .i64 s.o.t, .int .i64 s.o.ec, .bool s.o.sd, .bool s.o.ok, .bool s.o.sp, v, .string s.da] 28)
  have hb2 := bel1 (w.alloc (.cells #[.int .i64 s.fr, .int .i64 s.dt, .int .i64 s.sq, .int .i64 s.ak, .int .i64 s.fl, .int .i64 s.wi, .int .i64 s.ur, .int .i64 s.o.m, .int .i64 s.o.c, .int .i64 s.o.t, .int .i64 s.o.ec, .bool s.o.sd, .bool s.o.ok, .bool s.o.sp, v, .string s.da] 28)) (.cells #[.int .i64 s.fr, .int .i64 s.dt, .int .i64 s.wi, .int .i64 s.ur] 3)
  have hA := (At.box w #[.int .i64 s.fr, .int .i64 s.dt, .int .i64 s.sq, .int .i64 s.ak, .int .i64 s.fl, .int .i64 s.wi, .int .i64 s.ur, .int .i64 s.o.m, .int .i64 s.o.c, .int .i64 s.o.t, .int .i64 s.o.ec, .bool s.o.sd, .bool s.o.ok, .bool s.o.sp, v, .string s.da] 28).later hb2
  have hrow := At.box2 w (.cells #[.int .i64 s.fr, .int .i64 s.dt, .int .i64 s.sq, .int .i64 s.ak, .int .i64 s.fl, .int .i64 s.wi, .int .i64 s.ur, .int .i64 s.o.m, .int .i64 s.o.c, .int .i64 s.o.t, .int .i64 s.o.ec, .bool s.o.sd, .bool s.o.ok, .bool s.o.sp, v, .string s.da] 28) #[.int .i64 s.fr, .int .i64 s.dt, .int .i64 s.wi, .int .i64 s.ur] 3
  have hl := bt hb1 hb2
  have hr := (hv.later hb1).later hb2
  have hbs := fun W => bs4 s.fr s.dt s.wi s.ur W
  obtain ⟨⟨c0, c1, c2, c3, c4, c5, c6, c7, c8, c9, c10, c11, c12, c13, c14, c15⟩, -, -⟩ := (At.box w #[.int .i64 s.fr, .int .i64 s.dt, .int .i64 s.sq, .int .i64 s.ak, .int .i64 s.fl, .int .i64 s.wi, .int .i64 s.ur, .int .i64 s.o.m, .int .i64 s.o.c, .int .i64 s.o.t, .int .i64 s.o.ec, .bool s.o.sd, .bool s.o.ok, .bool s.o.sp, v, .string s.da] 28).sixteen
  go_enter Tryd.func12, Tryd.ntmps12
  go_upto_region 2 with fail
  clear c0 c1 c2 c3 c4 c5 c6 c7 c8 c9 c10 c11 c12 c13 c14 c15 hbs
  generalize hw0 : (w.alloc (.cells #[.int .i64 s.fr, .int .i64 s.dt, .int .i64 s.sq, .int .i64 s.ak, .int .i64 s.fl, .int .i64 s.wi, .int .i64 s.ur, .int .i64 s.o.m, .int .i64 s.o.c, .int .i64 s.o.t, .int .i64 s.o.ec, .bool s.o.sd, .bool s.o.ok, .bool s.o.sp, v, .string s.da] 28)).alloc (.cells #[.int .i64 s.fr, .int .i64 s.dt, .int .i64 s.wi, .int .i64 s.ur] 3) = w0 at *
  clear hw0 hb1 hb2 hv
  have HA : Hid (At w0 w.heap.size #[.int .i64 s.fr, .int .i64 s.dt, .int .i64 s.sq, .int .i64 s.ak, .int .i64 s.fl, .int .i64 s.wi, .int .i64 s.ur, .int .i64 s.o.m, .int .i64 s.o.c, .int .i64 s.o.t, .int .i64 s.o.ec, .bool s.o.sd, .bool s.o.ok, .bool s.o.sp, v, .string s.da]) := hA
  have HL : Hid (Below w.heap.size w w0) := hl
  have HR : Hid (Rgs w0 v s.o.rs) := hr
  have r0 := (hrow.2 0 _ rfl).1
  have r1 := (hrow.2 1 _ rfl).1
  have r2 := (hrow.2 2 _ rfl).1
  have r3 := (hrow.2 3 _ rfl).1
  clear hA hl hr hrow
  go_wp2
  go_loopw [4] (fun i W => ∃ k : Nat, k ≤ 4 ∧ i = .int .i64 k ∧ okK s k = true ∧ W = w0) (fun i _ => 4 - (intOf i).toNat)
  case atStart => exact ⟨0, by omega, rfl, rfl, rfl⟩
  case round =>
    obtain ⟨k, hk, rfl, hok, rfl⟩ := hrel
    obtain rfl | rfl | rfl | rfl | rfl : k = 0 ∨ k = 1 ∨ k = 2 ∨ k = 3 ∨ k = 4 := by omega
    · rcases (Bool.eq_false_or_eq_true (fitsB s.fr 65535)).symm with h | h
      · have HM : Hid (mayG s = false) := by show _ = _; simp [mayG, preG, h]
        rcases fits_f h with q | ⟨q, q2⟩
        · go_wp2
          go_ret
          exact ⟨by rw [HM.out]; rfl, HL.out⟩
        · go_wp2
          go_ret
          exact ⟨by rw [HM.out]; rfl, HL.out⟩
      · obtain ⟨q, q2⟩ := fits_t h
        have HK : Hid (okK s 1 = true) := by show _ = _; simp [okK, fitsB] at hok h ⊢; omega
        clear hok h
        go_wp2
        go_roundw
        case rel => exact ⟨1, by omega, by go_num, HK.out, trivial⟩
        case measure => simp [intOf]
    · rcases (Bool.eq_false_or_eq_true (fitsB s.dt 65535)).symm with h | h
      · have HM : Hid (mayG s = false) := by show _ = _; simp [mayG, preG, h]
        rcases fits_f h with q | ⟨q, q2⟩
        · go_wp2
          go_ret
          exact ⟨by rw [HM.out]; rfl, HL.out⟩
        · go_wp2
          go_ret
          exact ⟨by rw [HM.out]; rfl, HL.out⟩
      · obtain ⟨q, q2⟩ := fits_t h
        have HK : Hid (okK s 2 = true) := by show _ = _; simp [okK, fitsB] at hok h ⊢; omega
        clear hok h
        go_wp2
        go_roundw
        case rel => exact ⟨2, by omega, by go_num, HK.out, trivial⟩
        case measure => simp [intOf]
    · rcases (Bool.eq_false_or_eq_true (fitsB s.wi 65535)).symm with h | h
      · have HM : Hid (mayG s = false) := by show _ = _; simp [mayG, preG, h]
        rcases fits_f h with q | ⟨q, q2⟩
        · go_wp2
          go_ret
          exact ⟨by rw [HM.out]; rfl, HL.out⟩
        · go_wp2
          go_ret
          exact ⟨by rw [HM.out]; rfl, HL.out⟩
      · obtain ⟨q, q2⟩ := fits_t h
        have HK : Hid (okK s 3 = true) := by show _ = _; simp [okK, fitsB] at hok h ⊢; omega
        clear hok h
        go_wp2
        go_roundw
        case rel => exact ⟨3, by omega, by go_num, HK.out, trivial⟩
        case measure => simp [intOf]
    · rcases (Bool.eq_false_or_eq_true (fitsB s.ur 65535)).symm with h | h
      · have HM : Hid (mayG s = false) := by show _ = _; simp [mayG, preG, h]
        rcases fits_f h with q | ⟨q, q2⟩
        · go_wp2
          go_ret
          exact ⟨by rw [HM.out]; rfl, HL.out⟩
        · go_wp2
          go_ret
          exact ⟨by rw [HM.out]; rfl, HL.out⟩
      · obtain ⟨q, q2⟩ := fits_t h
        have HK : Hid (okK s 4 = true) := by show _ = _; simp [okK, fitsB] at hok h ⊢; omega
        clear hok h
        go_wp2
        go_roundw
        case rel => exact ⟨4, by omega, by go_num, HK.out, trivial⟩
        case measure => simp [intOf]
    · have h1 : fitsB s.fr 65535 = true := by simp [okK] at hok; exact hok.1.1.1
      have h2 : fitsB s.dt 65535 = true := by simp [okK] at hok; exact hok.1.1.2
      have h6 : fitsB s.wi 65535 = true := by simp [okK] at hok; exact hok.1.2
      have h7 : fitsB s.ur 65535 = true := by simp [okK] at hok; exact hok.2
      have hA := HA.out
      have hl := HL.out
      have hr := HR.out
      clear hok r0 r1 r2 r3 HA HL HR
      obtain ⟨⟨c0, c1, c2, c3, c4, c5, c6, c7, c8, c9, c10, c11, c12, c13, c14, c15⟩, -, -⟩ := hA.sixteen
      go_wp2_with fail
      rcases (Bool.eq_false_or_eq_true (numB s.sq)).symm with h3 | h3
      · refine (rchk_f _ _ h3).mono ?_
        rintro e w' ⟨rfl, rfl⟩
        have HM : Hid (mayG s = false) := by show _ = _; simp [mayG, preG, h3]
        go_wp2
        go_ret
        exact ⟨by rw [HM.out]; rfl, hl⟩
      refine (rchk_t _ _ h3).mono ?_
      rintro e w' ⟨rfl, rfl⟩
      go_wp2_with fail
      rcases (Bool.eq_false_or_eq_true (numB s.ak)).symm with h4 | h4
      · refine (rchk_f _ _ h4).mono ?_
        rintro e w' ⟨rfl, rfl⟩
        have HM : Hid (mayG s = false) := by show _ = _; simp [mayG, preG, h4]
        go_wp2
        go_ret
        exact ⟨by rw [HM.out]; rfl, hl⟩
      refine (rchk_t _ _ h4).mono ?_
      rintro e w' ⟨rfl, rfl⟩
      rcases (Bool.eq_false_or_eq_true (fitsB s.fl 63)).symm with h5 | h5
      · rcases fits_f h5 with q | ⟨q, q2⟩
        · skip
          have HM : Hid (mayG s = false) := by show _ = _; simp [mayG, preG, h5]
          go_wp2
          go_ret
          exact ⟨by rw [HM.out]; rfl, hl⟩
        · skip
          have HM : Hid (mayG s = false) := by show _ = _; simp [mayG, preG, h5]
          go_wp2
          go_ret
          exact ⟨by rw [HM.out]; rfl, hl⟩
      obtain ⟨q5, q6⟩ := fits_t h5
      go_wp2_with (refine wpList_loadG 28 _ (by rfl) (by rfl) w.heap.size 0 (by rfl) _ _ hA.range Tryd.underlying28 rfl size28 ?_)
      rcases Bool.eq_false_or_eq_true (hasV s.fl 16) with ha | ha
      · refine (rhas_t s v 16 _ ha).mono ?_
        rintro e w1 ⟨rfl, hb⟩
        replace hl := bt hl hb
        replace hA := hA.later hb
        replace hr := hr.later hb
        clear hb c0 c1 c2 c3 c4 c5 c6 c7 c8 c9 c10 c11 c12 c13 c14 c15
        obtain ⟨⟨c0, c1, c2, c3, c4, c5, c6, c7, c8, c9, c10, c11, c12, c13, c14, c15⟩, -, -⟩ := hA.sixteen
        go_wp2_with (refine wpList_loadG 28 _ (by rfl) (by rfl) w.heap.size 0 (by rfl) _ _ hA.range Tryd.underlying28 rfl size28 ?_)
        rcases Bool.eq_false_or_eq_true (hasV s.fl 32) with hu | hu
        · refine (rhas_t s v 32 _ hu).mono ?_
          rintro e w2 ⟨rfl, hb⟩
          replace hl := bt hl hb
          replace hA := hA.later hb
          replace hr := hr.later hb
          clear hb c0 c1 c2 c3 c4 c5 c6 c7 c8 c9 c10 c11 c12 c13 c14 c15
          obtain ⟨⟨c0, c1, c2, c3, c4, c5, c6, c7, c8, c9, c10, c11, c12, c13, c14, c15⟩, -, -⟩ := hA.sixteen
          go_wp2_with (refine wpList_loadG 26 _ (by rfl) (by rfl) w.heap.size 7 (by rfl) _ _ hA.opts Tryd.underlying26 rfl size26 ?_)
          rcases (Bool.eq_false_or_eq_true s.o.may).symm with hm | hm
          · refine (rk_f _ hr hn hm).mono ?_
            rintro e w3 ⟨rfl, hb⟩
            replace hl := bt hl hb
            replace hA := hA.later hb
            replace hr := hr.later hb
            clear hb c0 c1 c2 c3 c4 c5 c6 c7 c8 c9 c10 c11 c12 c13 c14 c15
            obtain ⟨⟨c0, c1, c2, c3, c4, c5, c6, c7, c8, c9, c10, c11, c12, c13, c14, c15⟩, -, -⟩ := hA.sixteen
            have HM : Hid (mayG s = false) := by show _ = _; simp [mayG, hm]
            go_wp2
            go_ret
            exact ⟨by rw [HM.out]; rfl, hl⟩
          refine (rk_t _ hr hn hm).mono ?_
          rintro e w3 ⟨rfl, hb⟩
          replace hl := bt hl hb
          replace hA := hA.later hb
          replace hr := hr.later hb
          clear hb c0 c1 c2 c3 c4 c5 c6 c7 c8 c9 c10 c11 c12 c13 c14 c15
          obtain ⟨⟨c0, c1, c2, c3, c4, c5, c6, c7, c8, c9, c10, c11, c12, c13, c14, c15⟩, -, -⟩ := hA.sixteen
          by_cases hd : s.da.size ≤ 1480
          · have hd1 : ¬ (1480 : Int) < (s.da.size : Int) := by omega
            have HM : Hid (mayG s = true) := by show _ = _; exact mayG_t h1 h2 h3 h4 h5 h6 h7 (.inl ha) (.inl hu) hm hd
            go_wp2
            go_ret
            exact ⟨by rw [HM.out]; rfl, hl⟩
          · have hd1 : (1480 : Int) < (s.da.size : Int) := by omega
            have HM : Hid (mayG s = false) := by show _ = _; simp [mayG, hd]
            go_wp2
            go_ret
            exact ⟨by rw [HM.out]; rfl, hl⟩
        · refine (rhas_f s v 32 _ hu).mono ?_
          rintro e w2 ⟨rfl, hb⟩
          replace hl := bt hl hb
          replace hA := hA.later hb
          replace hr := hr.later hb
          clear hb c0 c1 c2 c3 c4 c5 c6 c7 c8 c9 c10 c11 c12 c13 c14 c15
          obtain ⟨⟨c0, c1, c2, c3, c4, c5, c6, c7, c8, c9, c10, c11, c12, c13, c14, c15⟩, -, -⟩ := hA.sixteen
          by_cases ku : s.ur = 0
          · have ku1 : (s.ur != 0) = false := by simpa using ku
            have KU : Hid (s.ur = 0) := ku
            clear ku
            go_wp2_with (refine wpList_loadG 26 _ (by rfl) (by rfl) w.heap.size 7 (by rfl) _ _ hA.opts Tryd.underlying26 rfl size26 ?_)
            rcases (Bool.eq_false_or_eq_true s.o.may).symm with hm | hm
            · refine (rk_f _ hr hn hm).mono ?_
              rintro e w3 ⟨rfl, hb⟩
              replace hl := bt hl hb
              replace hA := hA.later hb
              replace hr := hr.later hb
              clear hb c0 c1 c2 c3 c4 c5 c6 c7 c8 c9 c10 c11 c12 c13 c14 c15
              obtain ⟨⟨c0, c1, c2, c3, c4, c5, c6, c7, c8, c9, c10, c11, c12, c13, c14, c15⟩, -, -⟩ := hA.sixteen
              have HM : Hid (mayG s = false) := by show _ = _; simp [mayG, hm]
              go_wp2
              go_ret
              exact ⟨by rw [HM.out]; rfl, hl⟩
            refine (rk_t _ hr hn hm).mono ?_
            rintro e w3 ⟨rfl, hb⟩
            replace hl := bt hl hb
            replace hA := hA.later hb
            replace hr := hr.later hb
            clear hb c0 c1 c2 c3 c4 c5 c6 c7 c8 c9 c10 c11 c12 c13 c14 c15
            obtain ⟨⟨c0, c1, c2, c3, c4, c5, c6, c7, c8, c9, c10, c11, c12, c13, c14, c15⟩, -, -⟩ := hA.sixteen
            by_cases hd : s.da.size ≤ 1480
            · have hd1 : ¬ (1480 : Int) < (s.da.size : Int) := by omega
              have HM : Hid (mayG s = true) := by show _ = _; exact mayG_t h1 h2 h3 h4 h5 h6 h7 (.inl ha) (.inr KU.out) hm hd
              go_wp2
              go_ret
              exact ⟨by rw [HM.out]; rfl, hl⟩
            · have hd1 : (1480 : Int) < (s.da.size : Int) := by omega
              have HM : Hid (mayG s = false) := by show _ = _; simp [mayG, hd]
              go_wp2
              go_ret
              exact ⟨by rw [HM.out]; rfl, hl⟩
          · have ku1 : (s.ur != 0) = true := by simpa using ku
            have HM : Hid (mayG s = false) := by show _ = _; simp [mayG, hu, ku]
            go_wp2
            go_ret
            exact ⟨by rw [HM.out]; rfl, hl⟩
      · refine (rhas_f s v 16 _ ha).mono ?_
        rintro e w1 ⟨rfl, hb⟩
        replace hl := bt hl hb
        replace hA := hA.later hb
        replace hr := hr.later hb
        clear hb c0 c1 c2 c3 c4 c5 c6 c7 c8 c9 c10 c11 c12 c13 c14 c15
        obtain ⟨⟨c0, c1, c2, c3, c4, c5, c6, c7, c8, c9, c10, c11, c12, c13, c14, c15⟩, -, -⟩ := hA.sixteen
        by_cases ka : s.ak = 0
        · have ka1 : (s.ak != 0) = false := by simpa using ka
          have KA : Hid (s.ak = 0) := ka
          clear ka
          go_wp2_with (refine wpList_loadG 28 _ (by rfl) (by rfl) w.heap.size 0 (by rfl) _ _ hA.range Tryd.underlying28 rfl size28 ?_)
          rcases Bool.eq_false_or_eq_true (hasV s.fl 32) with hu | hu
          · refine (rhas_t s v 32 _ hu).mono ?_
            rintro e w2 ⟨rfl, hb⟩
            replace hl := bt hl hb
            replace hA := hA.later hb
            replace hr := hr.later hb
            clear hb c0 c1 c2 c3 c4 c5 c6 c7 c8 c9 c10 c11 c12 c13 c14 c15
            obtain ⟨⟨c0, c1, c2, c3, c4, c5, c6, c7, c8, c9, c10, c11, c12, c13, c14, c15⟩, -, -⟩ := hA.sixteen
            go_wp2_with (refine wpList_loadG 26 _ (by rfl) (by rfl) w.heap.size 7 (by rfl) _ _ hA.opts Tryd.underlying26 rfl size26 ?_)
            rcases (Bool.eq_false_or_eq_true s.o.may).symm with hm | hm
            · refine (rk_f _ hr hn hm).mono ?_
              rintro e w3 ⟨rfl, hb⟩
              replace hl := bt hl hb
              replace hA := hA.later hb
              replace hr := hr.later hb
              clear hb c0 c1 c2 c3 c4 c5 c6 c7 c8 c9 c10 c11 c12 c13 c14 c15
              obtain ⟨⟨c0, c1, c2, c3, c4, c5, c6, c7, c8, c9, c10, c11, c12, c13, c14, c15⟩, -, -⟩ := hA.sixteen
              have HM : Hid (mayG s = false) := by show _ = _; simp [mayG, hm]
              go_wp2
              go_ret
              exact ⟨by rw [HM.out]; rfl, hl⟩
            refine (rk_t _ hr hn hm).mono ?_
            rintro e w3 ⟨rfl, hb⟩
            replace hl := bt hl hb
            replace hA := hA.later hb
            replace hr := hr.later hb
            clear hb c0 c1 c2 c3 c4 c5 c6 c7 c8 c9 c10 c11 c12 c13 c14 c15
            obtain ⟨⟨c0, c1, c2, c3, c4, c5, c6, c7, c8, c9, c10, c11, c12, c13, c14, c15⟩, -, -⟩ := hA.sixteen
            by_cases hd : s.da.size ≤ 1480
            · have hd1 : ¬ (1480 : Int) < (s.da.size : Int) := by omega
              have HM : Hid (mayG s = true) := by show _ = _; exact mayG_t h1 h2 h3 h4 h5 h6 h7 (.inr KA.out) (.inl hu) hm hd
              go_wp2
              go_ret
              exact ⟨by rw [HM.out]; rfl, hl⟩
            · have hd1 : (1480 : Int) < (s.da.size : Int) := by omega
              have HM : Hid (mayG s = false) := by show _ = _; simp [mayG, hd]
              go_wp2
              go_ret
              exact ⟨by rw [HM.out]; rfl, hl⟩
          · refine (rhas_f s v 32 _ hu).mono ?_
            rintro e w2 ⟨rfl, hb⟩
            replace hl := bt hl hb
            replace hA := hA.later hb
            replace hr := hr.later hb
            clear hb c0 c1 c2 c3 c4 c5 c6 c7 c8 c9 c10 c11 c12 c13 c14 c15
            obtain ⟨⟨c0, c1, c2, c3, c4, c5, c6, c7, c8, c9, c10, c11, c12, c13, c14, c15⟩, -, -⟩ := hA.sixteen
            by_cases ku : s.ur = 0
            · have ku1 : (s.ur != 0) = false := by simpa using ku
              have KU : Hid (s.ur = 0) := ku
              clear ku
              go_wp2_with (refine wpList_loadG 26 _ (by rfl) (by rfl) w.heap.size 7 (by rfl) _ _ hA.opts Tryd.underlying26 rfl size26 ?_)
              rcases (Bool.eq_false_or_eq_true s.o.may).symm with hm | hm
              · refine (rk_f _ hr hn hm).mono ?_
                rintro e w3 ⟨rfl, hb⟩
                replace hl := bt hl hb
                replace hA := hA.later hb
                replace hr := hr.later hb
                clear hb c0 c1 c2 c3 c4 c5 c6 c7 c8 c9 c10 c11 c12 c13 c14 c15
                obtain ⟨⟨c0, c1, c2, c3, c4, c5, c6, c7, c8, c9, c10, c11, c12, c13, c14, c15⟩, -, -⟩ := hA.sixteen
                have HM : Hid (mayG s = false) := by show _ = _; simp [mayG, hm]
                go_wp2
                go_ret
                exact ⟨by rw [HM.out]; rfl, hl⟩
              refine (rk_t _ hr hn hm).mono ?_
              rintro e w3 ⟨rfl, hb⟩
              replace hl := bt hl hb
              replace hA := hA.later hb
              replace hr := hr.later hb
              clear hb c0 c1 c2 c3 c4 c5 c6 c7 c8 c9 c10 c11 c12 c13 c14 c15
              obtain ⟨⟨c0, c1, c2, c3, c4, c5, c6, c7, c8, c9, c10, c11, c12, c13, c14, c15⟩, -, -⟩ := hA.sixteen
              by_cases hd : s.da.size ≤ 1480
              · have hd1 : ¬ (1480 : Int) < (s.da.size : Int) := by omega
                have HM : Hid (mayG s = true) := by show _ = _; exact mayG_t h1 h2 h3 h4 h5 h6 h7 (.inr KA.out) (.inr KU.out) hm hd
                go_wp2
                go_ret
                exact ⟨by rw [HM.out]; rfl, hl⟩
              · have hd1 : (1480 : Int) < (s.da.size : Int) := by omega
                have HM : Hid (mayG s = false) := by show _ = _; simp [mayG, hd]
                go_wp2
                go_ret
                exact ⟨by rw [HM.out]; rfl, hl⟩
            · have ku1 : (s.ur != 0) = true := by simpa using ku
              have HM : Hid (mayG s = false) := by show _ = _; simp [mayG, hu, ku]
              go_wp2
              go_ret
              exact ⟨by rw [HM.out]; rfl, hl⟩
        · have ka1 : (s.ak != 0) = true := by simpa using ka
          have HM : Hid (mayG s = false) := by show _ = _; simp [mayG, ha, ka]
          go_wp2
          go_ret
          exact ⟨by rw [HM.out]; rfl, hl⟩
end Go.Proofs.YtecoknenkjgmjabDoor
