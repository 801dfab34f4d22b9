/- the texts Sa, Tb, Sg, Tj, in part, merged by program -/
import Derived.Test.YtkpdmgoldngdaaaGreatDoorProg
import Derived.Test.YtkpdmgoldngdaaaGreatDoorRows
import Derived.Deep.MidRow
import Derived.WalkKit
import Derived.WalkSpells
import Derived.RegionTactic
import Derived.Below
import Derived.Laws.OwnMore
import Derived.Laws.AppendOwn
import Derived.Laws.AppendOwnNone
import Derived.Deep.LoopGhost
import Derived.Deep.RegionHeld3
import Derived.Deep.QuietTactic
import Derived.BigQuiet
import Derived.WalkSmall
import Derived.Laws.StructEq
import Derived.Shelf.Strings.Repeat
import Derived.Deep.RegionWith
import Derived.LoopN
import Derived.Laws.Tables
import Derived.Great.BuildSlice
import Derived.BigRegion
import Derived.Deep.Light
import Derived.Deep.Cut
import Derived.Deep.CutRange
import Derived.Test.YtkpdmgoldngdaaaGreatDoorMA01
import Derived.Test.YtkpdmgoldngdaaaGreatDoorMA04
import Derived.Test.YtkpdmgoldngdaaaGreatDoorMA05
import Derived.Test.YtkpdmgoldngdaaaGreatDoorMD01
import Derived.Test.YtkpdmgoldngdaaaGreatDoorMD02
import Derived.Test.YtkpdmgoldngdaaaGreatDoorMD03
import Derived.Test.YtkpdmgoldngdaaaGreatDoorMD04
import Derived.Test.YtkpdmgoldngdaaaGreatDoorMG01
import Derived.Test.YtkpdmgoldngdaaaGreatDoorMG03
import Derived.Test.YtkpdmgoldngdaaaGreatDoorMG04
namespace Go.Proofs.YtkpdmgoldngdaaaGreatDoor
open Go.RowKit
set_option maxRecDepth 100000
set_option linter.unusedVariables false
def codeG (b : Bool) : Int := if b = true then 0 else 80
theorem rhas_any (s : Sg) (v : Value) (k : Int) (w : World) : Calls Tryz.prog 123 #[.agg #[.int .i64 s.fr, .int .i64 s.dt, .int .i64 s.sq, .int .i64 s.ak, .int .i64 s.fl, .int .i64 s.wi, .int .i64 s.ur, .int .i64 s.o.m, .int .i64 s.o.c, .int .i64 s.o.t, .int .i64 s.o.ec, .bool s.o.sd, .bool s.o.ok, .bool s.o.sp, v, .string s.da], .int .i64 k] w fun e w' => e = .returned (.bool (hasV s.fl k)) ∧ Below w.heap.size w w' := by
  obtain ⟨⟨c0, c1, c2, c3, c4, c5, c6, c7, c8, c9, c10, c11, c12, c13, c14, c15⟩, -, -⟩ := (At.box w #[.int .i64 s.fr, .int .i64 s.dt, .int .i64 s.sq, .int .i64 s.ak, .int .i64 s.fl, .int .i64 s.wi, .int .i64 s.ur, .int .i64 s.o.m, .int .i64 s.o.c, .int .i64 s.o.t, .int .i64 s.o.ec, .bool s.o.sd, .bool s.o.ok, .bool s.o.sp, v, .string s.da] 34).sixteen
  have hl := bel1 w (.cells #[.int .i64 s.fr, .int .i64 s.dt, .int .i64 s.sq, .int .i64 s.ak, .int .i64 s.fl, .int .i64 s.wi, .int .i64 s.ur, .int .i64 s.o.m, .int .i64 s.o.c, .int .i64 s.o.t, .int .i64 s.o.ec, .bool s.o.sd, .bool s.o.ok, .bool s.o.sp, v, .string s.da] 34)
  go_enter Tryz.func123, Tryz.ntmps123
  go_wp2
  go_ret
  exact ⟨rfl, hl⟩
theorem rhas_t (s : Sg) (v : Value) (k : Int) (w : World) (h : hasV s.fl k = true) : Calls Tryz.prog 123 #[.agg #[.int .i64 s.fr, .int .i64 s.dt, .int .i64 s.sq, .int .i64 s.ak, .int .i64 s.fl, .int .i64 s.wi, .int .i64 s.ur, .int .i64 s.o.m, .int .i64 s.o.c, .int .i64 s.o.t, .int .i64 s.o.ec, .bool s.o.sd, .bool s.o.ok, .bool s.o.sp, v, .string s.da], .int .i64 k] w fun e w' => e = .returned (.bool true) ∧ Below w.heap.size w w' := by have := rhas_any s v k w; rw [h] at this; exact this
theorem rhas_f (s : Sg) (v : Value) (k : Int) (w : World) (h : hasV s.fl k = false) : Calls Tryz.prog 123 #[.agg #[.int .i64 s.fr, .int .i64 s.dt, .int .i64 s.sq, .int .i64 s.ak, .int .i64 s.fl, .int .i64 s.wi, .int .i64 s.ur, .int .i64 s.o.m, .int .i64 s.o.c, .int .i64 s.o.t, .int .i64 s.o.ec, .bool s.o.sd, .bool s.o.ok, .bool s.o.sp, v, .string s.da], .int .i64 k] w fun e w' => e = .returned (.bool false) ∧ Below w.heap.size w w' := by have := rhas_any s v k w; rw [h] at this; exact this
end Go.Proofs.YtkpdmgoldngdaaaGreatDoor

namespace Go.Proofs.YtkpdmgoldngdaaaGreatDoor
open Go.RowKit
set_option maxRecDepth 100000
set_option linter.unusedVariables false
theorem fl_at (b : ByteArray) (h : 13 < b.size) : (b[13].toNat : Int) = numS (b.extract 13 14) := by
  unfold numS
  have hl : 13 < b.data.toList.length := by rw [len_toList]; exact h
  rw [ext_toList, show 14 - 13 = 1 by rfl, List.drop_eq_getElem_cons hl]
  simp [numL, ByteArray.getElem_eq_getElem_data]
theorem finG_may {b : ByteArray} {r : Option Op} {s : Sg} (h : finG b r = .ok s) : mayG s = true := by
  unfold finG at h
  cases r with
  | none => cases h
  | some o =>
    simp only at h
    split at h
    · rename_i hl
      cases h
      unfold lastB at hl
      simp only [Bool.and_eq_true] at hl
      exact hl.2
    · cases h
theorem decG_may {f t : Int} {b : ByteArray} {s : Sg} (h : decG f t b = .ok s) : mayG s = true := by
  unfold decG at h
  split at h
  · split at h
    · split at h
      · exact finG_may h
      · cases h
    · cases h
  · cases h

end Go.Proofs.YtkpdmgoldngdaaaGreatDoor

namespace Go.Proofs.YtkpdmgoldngdaaaGreatDoor
open Go.RowKit
set_option maxRecDepth 100000
set_option linter.unusedVariables false

theorem rk_t {o : Op} {v : Value} (w : World) (hv : Rgs w v o.rs) (hn : o.rs.length ≤ 17592186044416) (h : o.may = true) : Calls Tryz.prog 122 #[.agg #[.int .i64 o.m, .int .i64 o.c, .int .i64 o.t, .int .i64 o.ec, .bool o.sd, .bool o.ok, .bool o.sp, v]] w fun e w' => e = .returned (.int .i64 0) ∧ Below w.heap.size w w' := by
  have := rcheck_o o.m o.c o.t o.ec o.sd o.ok o.sp v o.rs w hv hn
  rw [show mayO o.m o.c o.t o.ec o.sd o.ok o.sp o.rs = true from h, codeO_t] at this
  exact this
theorem rk_f {o : Op} {v : Value} (w : World) (hv : Rgs w v o.rs) (hn : o.rs.length ≤ 17592186044416) (h : o.may = false) : Calls Tryz.prog 122 #[.agg #[.int .i64 o.m, .int .i64 o.c, .int .i64 o.t, .int .i64 o.ec, .bool o.sd, .bool o.ok, .bool o.sp, v]] w fun e w' => e = .returned (.int .i64 70) ∧ Below w.heap.size w w' := by
  have := rcheck_o o.m o.c o.t o.ec o.sd o.ok o.sp v o.rs w hv hn
  rw [show mayO o.m o.c o.t o.ec o.sd o.ok o.sp o.rs = false from h, codeO_f] at this
  exact this
def okK (s : Sg) (k : Nat) : Bool := (decide (k < 1) || fitsB s.fr 65535) && (decide (k < 2) || fitsB s.dt 65535) && (decide (k < 3) || fitsB s.wi 65535) && (decide (k < 4) || fitsB s.ur 65535)
theorem fits_f {n m : Int} (h : fitsB n m = false) : n < 0 ∨ (¬ n < 0 ∧ m < n) := by have := of_decide_eq_false h; omega
theorem fits_t {n m : Int} (h : fitsB n m = true) : ¬ n < 0 ∧ ¬ m < n := by have := of_decide_eq_true h; omega
theorem bs4 (a b c d : Int) (w : World) : (Instr.buildSlice 171 4 #[(0, .int .i64 a), (1, .int .i64 b), (2, .int .i64 c), (3, .int .i64 d)]).run Tryz.prog w = .ok (.slice (some ⟨w.heap.size, 0, none⟩) 4 4) (w.alloc (.cells #[.int .i64 a, .int .i64 b, .int .i64 c, .int .i64 d] 3)) := by kernel_rfl
set_option maxHeartbeats 4000000 in
theorem rchk_s (s : Sg) (v : Value) (w : World) (hv : Rgs w v s.o.rs) (hn : s.o.rs.length ≤ 17592186044416) :
    Calls Tryz.prog 78 #[.agg #[.int .i64 s.fr, .int .i64 s.dt, .int .i64 s.sq, .int .i64 s.ak, .int .i64 s.fl, .int .i64 s.wi, .int .i64 s.ur, .int .i64 s.o.m, .int .i64 s.o.c, .int .i64 s.o.t, .int .i64 s.o.ec, .bool s.o.sd, .bool s.o.ok, .bool s.o.sp, v, .string s.da]] w fun e w' => e = .returned (.int .i64 (codeG (mayG s))) ∧ Below w.heap.size w w' := by
  have hb1 := bel1 w (.cells #[.int .i64 s.fr, .int .i64 s.dt, .int .i64 s.sq, .int .i64 s.ak, .int .i64 s.fl, .int .i64 s.wi, .int .i64 s.ur, .int .i64 s.o.m, .int .i64 s.o.c, .int .i64 s.o.t, .int .i64 s.o.ec, .bool s.o.sd, .bool s.o.ok, .bool s.o.sp, v, .string s.da] 34)
  have hb2 := bel1 (w.alloc (.cells #[.int .i64 s.fr, .int .i64 s.dt, .int .i64 s.sq, .int .i64 s.ak, .int .i64 s.fl, .int .i64 s.wi, .int .i64 s.ur, .int .i64 s.o.m, .int .i64 s.o.c, .int .i64 s.o.t, .int .i64 s.o.ec, .bool s.o.sd, .bool s.o.ok, .bool s.o.sp, v, .string s.da] 34)) (.cells #[.int .i64 s.fr, .int .i64 s.dt, .int .i64 s.wi, .int .i64 s.ur] 3)
  have hA := (At.box w #[.int .i64 s.fr, .int .i64 s.dt, .int .i64 s.sq, .int .i64 s.ak, .int .i64 s.fl, .int .i64 s.wi, .int .i64 s.ur, .int .i64 s.o.m, .int .i64 s.o.c, .int .i64 s.o.t, .int .i64 s.o.ec, .bool s.o.sd, .bool s.o.ok, .bool s.o.sp, v, .string s.da] 34).later hb2
  have hrow := At.box2 w (.cells #[.int .i64 s.fr, .int .i64 s.dt, .int .i64 s.sq, .int .i64 s.ak, .int .i64 s.fl, .int .i64 s.wi, .int .i64 s.ur, .int .i64 s.o.m, .int .i64 s.o.c, .int .i64 s.o.t, .int .i64 s.o.ec, .bool s.o.sd, .bool s.o.ok, .bool s.o.sp, v, .string s.da] 34) #[.int .i64 s.fr, .int .i64 s.dt, .int .i64 s.wi, .int .i64 s.ur] 3
  have hl := bt hb1 hb2
  have hr := (hv.later hb1).later hb2
  have hbs := fun W => bs4 s.fr s.dt s.wi s.ur W
  obtain ⟨⟨c0, c1, c2, c3, c4, c5, c6, c7, c8, c9, c10, c11, c12, c13, c14, c15⟩, -, -⟩ := (At.box w #[.int .i64 s.fr, .int .i64 s.dt, .int .i64 s.sq, .int .i64 s.ak, .int .i64 s.fl, .int .i64 s.wi, .int .i64 s.ur, .int .i64 s.o.m, .int .i64 s.o.c, .int .i64 s.o.t, .int .i64 s.o.ec, .bool s.o.sd, .bool s.o.ok, .bool s.o.sp, v, .string s.da] 34).sixteen
  go_enter Tryz.func78, Tryz.ntmps78
  go_upto_region 2 with fail
  clear c0 c1 c2 c3 c4 c5 c6 c7 c8 c9 c10 c11 c12 c13 c14 c15 hbs
  generalize hw0 : (w.alloc (.cells #[.int .i64 s.fr, .int .i64 s.dt, .int .i64 s.sq, .int .i64 s.ak, .int .i64 s.fl, .int .i64 s.wi, .int .i64 s.ur, .int .i64 s.o.m, .int .i64 s.o.c, .int .i64 s.o.t, .int .i64 s.o.ec, .bool s.o.sd, .bool s.o.ok, .bool s.o.sp, v, .string s.da] 34)).alloc (.cells #[.int .i64 s.fr, .int .i64 s.dt, .int .i64 s.wi, .int .i64 s.ur] 3) = w0 at *
  clear hw0 hb1 hb2 hv
  have HA : Hid (At w0 w.heap.size #[.int .i64 s.fr, .int .i64 s.dt, .int .i64 s.sq, .int .i64 s.ak, .int .i64 s.fl, .int .i64 s.wi, .int .i64 s.ur, .int .i64 s.o.m, .int .i64 s.o.c, .int .i64 s.o.t, .int .i64 s.o.ec, .bool s.o.sd, .bool s.o.ok, .bool s.o.sp, v, .string s.da]) := hA
  have HL : Hid (Below w.heap.size w w0) := hl
  have HR : Hid (Rgs w0 v s.o.rs) := hr
  have r0 := (hrow.2 0 _ rfl).1
  have r1 := (hrow.2 1 _ rfl).1
  have r2 := (hrow.2 2 _ rfl).1
  have r3 := (hrow.2 3 _ rfl).1
  clear hA hl hr hrow
  go_wp2
  go_loopw [4] (fun i W => ∃ k : Nat, k ≤ 4 ∧ i = .int .i64 k ∧ okK s k = true ∧ W = w0) (fun i _ => 4 - (intOf i).toNat)
  case atStart => exact ⟨0, by omega, rfl, rfl, rfl⟩
  case round =>
    obtain ⟨k, hk, rfl, hok, rfl⟩ := hrel
    obtain rfl | rfl | rfl | rfl | rfl : k = 0 ∨ k = 1 ∨ k = 2 ∨ k = 3 ∨ k = 4 := by omega
    · rcases (Bool.eq_false_or_eq_true (fitsB s.fr 65535)).symm with h | h
      · have HM : Hid (mayG s = false) := by show _ = _; simp [mayG, preG, h]
        rcases fits_f h with q | ⟨q, q2⟩
        · go_wp2
          go_ret
          exact ⟨by rw [HM.out]; rfl, HL.out⟩
        · go_wp2
          go_ret
          exact ⟨by rw [HM.out]; rfl, HL.out⟩
      · obtain ⟨q, q2⟩ := fits_t h
        have HK : Hid (okK s 1 = true) := by show _ = _; simp [okK, fitsB] at hok h ⊢; omega
        clear hok h
        go_wp2
        go_roundw
        case rel => exact ⟨1, by omega, by go_num, HK.out, trivial⟩
        case measure => simp [intOf]
    · rcases (Bool.eq_false_or_eq_true (fitsB s.dt 65535)).symm with h | h
      · have HM : Hid (mayG s = false) := by show _ = _; simp [mayG, preG, h]
        rcases fits_f h with q | ⟨q, q2⟩
        · go_wp2
          go_ret
          exact ⟨by rw [HM.out]; rfl, HL.out⟩
        · go_wp2
          go_ret
          exact ⟨by rw [HM.out]; rfl, HL.out⟩
      · obtain ⟨q, q2⟩ := fits_t h
        have HK : Hid (okK s 2 = true) := by show _ = _; simp [okK, fitsB] at hok h ⊢; omega
        clear hok h
        go_wp2
        go_roundw
        case rel => exact ⟨2, by omega, by go_num, HK.out, trivial⟩
        case measure => simp [intOf]
    · rcases (Bool.eq_false_or_eq_true (fitsB s.wi 65535)).symm with h | h
      · have HM : Hid (mayG s = false) := by show _ = _; simp [mayG, preG, h]
        rcases fits_f h with q | ⟨q, q2⟩
        · go_wp2
          go_ret
          exact ⟨by rw [HM.out]; rfl, HL.out⟩
        · go_wp2
          go_ret
          exact ⟨by rw [HM.out]; rfl, HL.out⟩
      · obtain ⟨q, q2⟩ := fits_t h
        have HK : Hid (okK s 3 = true) := by show _ = _; simp [okK, fitsB] at hok h ⊢; omega
        clear hok h
        go_wp2
        go_roundw
        case rel => exact ⟨3, by omega, by go_num, HK.out, trivial⟩
        case measure => simp [intOf]
    · rcases (Bool.eq_false_or_eq_true (fitsB s.ur 65535)).symm with h | h
      · have HM : Hid (mayG s = false) := by show _ = _; simp [mayG, preG, h]
        rcases fits_f h with q | ⟨q, q2⟩
        · go_wp2
          go_ret
          exact ⟨by rw [HM.out]; rfl, HL.out⟩
        · go_wp2
          go_ret
          exact ⟨by rw [HM.out]; rfl, HL.out⟩
      · obtain ⟨q, q2⟩ := fits_t h
        have HK : Hid (okK s 4 = true) := by show _ = _; simp [okK, fitsB] at hok h ⊢; omega
        clear hok h
        go_wp2
        go_roundw
        case rel => exact ⟨4, by omega, by go_num, HK.out, trivial⟩
        case measure => simp [intOf]
    · have h1 : fitsB s.fr 65535 = true := by simp [okK] at hok; exact hok.1.1.1
      have h2 : fitsB s.dt 65535 = true := by simp [okK] at hok; exact hok.1.1.2
      have h6 : fitsB s.wi 65535 = true := by simp [okK] at hok; exact hok.1.2
      have h7 : fitsB s.ur 65535 = true := by simp [okK] at hok; exact hok.2
      have hA := HA.out
      have hl := HL.out
      have hr := HR.out
      clear hok r0 r1 r2 r3 HA HL HR
      obtain ⟨⟨c0, c1, c2, c3, c4, c5, c6, c7, c8, c9, c10, c11, c12, c13, c14, c15⟩, -, -⟩ := hA.sixteen
      go_wp2_with fail
      rcases (Bool.eq_false_or_eq_true (numB s.sq)).symm with h3 | h3
      · refine (rchk_f _ _ h3).mono ?_
        rintro e w' ⟨rfl, rfl⟩
        have HM : Hid (mayG s = false) := by show _ = _; simp [mayG, preG, h3]
        go_wp2
        go_ret
        exact ⟨by rw [HM.out]; rfl, hl⟩
      refine (rchk_t _ _ h3).mono ?_
      rintro e w' ⟨rfl, rfl⟩
      go_wp2_with fail
      rcases (Bool.eq_false_or_eq_true (numB s.ak)).symm with h4 | h4
      · refine (rchk_f _ _ h4).mono ?_
        rintro e w' ⟨rfl, rfl⟩
        have HM : Hid (mayG s = false) := by show _ = _; simp [mayG, preG, h4]
        go_wp2
        go_ret
        exact ⟨by rw [HM.out]; rfl, hl⟩
      refine (rchk_t _ _ h4).mono ?_
      rintro e w' ⟨rfl, rfl⟩
      rcases (Bool.eq_false_or_eq_true (fitsB s.fl 63)).symm with h5 | h5
      · rcases fits_f h5 with q | ⟨q, q2⟩
        · skip
          have HM : Hid (mayG s = false) := by show _ = _; simp [mayG, preG, h5]
          go_wp2
          go_ret
          exact ⟨by rw [HM.out]; rfl, hl⟩
        · skip
          have HM : Hid (mayG s = false) := by show _ = _; simp [mayG, preG, h5]
          go_wp2
          go_ret
          exact ⟨by rw [HM.out]; rfl, hl⟩
      obtain ⟨q5, q6⟩ := fits_t h5
      go_wp2_with (refine wpList_loadG 34 _ (by rfl) (by rfl) w.heap.size 0 (by rfl) _ _ hA.range Tryz.underlying34 rfl size34 ?_)
      rcases Bool.eq_false_or_eq_true (hasV s.fl 16) with ha | ha
      · refine (rhas_t s v 16 _ ha).mono ?_
        rintro e w1 ⟨rfl, hb⟩
        replace hl := bt hl hb
        replace hA := hA.later hb
        replace hr := hr.later hb
        clear hb c0 c1 c2 c3 c4 c5 c6 c7 c8 c9 c10 c11 c12 c13 c14 c15
        obtain ⟨⟨c0, c1, c2, c3, c4, c5, c6, c7, c8, c9, c10, c11, c12, c13, c14, c15⟩, -, -⟩ := hA.sixteen
        go_wp2_with (refine wpList_loadG 34 _ (by rfl) (by rfl) w.heap.size 0 (by rfl) _ _ hA.range Tryz.underlying34 rfl size34 ?_)
        rcases Bool.eq_false_or_eq_true (hasV s.fl 32) with hu | hu
        · refine (rhas_t s v 32 _ hu).mono ?_
          rintro e w2 ⟨rfl, hb⟩
          replace hl := bt hl hb
          replace hA := hA.later hb
          replace hr := hr.later hb
          clear hb c0 c1 c2 c3 c4 c5 c6 c7 c8 c9 c10 c11 c12 c13 c14 c15
          obtain ⟨⟨c0, c1, c2, c3, c4, c5, c6, c7, c8, c9, c10, c11, c12, c13, c14, c15⟩, -, -⟩ := hA.sixteen
          go_wp2_with (refine wpList_loadG 32 _ (by rfl) (by rfl) w.heap.size 7 (by rfl) _ _ hA.opts Tryz.underlying32 rfl size32 ?_)
          rcases (Bool.eq_false_or_eq_true s.o.may).symm with hm | hm
          · refine (rk_f _ hr hn hm).mono ?_
            rintro e w3 ⟨rfl, hb⟩
            replace hl := bt hl hb
            replace hA := hA.later hb
            replace hr := hr.later hb
            clear hb c0 c1 c2 c3 c4 c5 c6 c7 c8 c9 c10 c11 c12 c13 c14 c15
            obtain ⟨⟨c0, c1, c2, c3, c4, c5, c6, c7, c8, c9, c10, c11, c12, c13, c14, c15⟩, -, -⟩ := hA.sixteen
            have HM : Hid (mayG s = false) := by show _ = _; simp [mayG, hm]
            go_wp2
            go_ret
            exact ⟨by rw [HM.out]; rfl, hl⟩
          refine (rk_t _ hr hn hm).mono ?_
          rintro e w3 ⟨rfl, hb⟩
          replace hl := bt hl hb
          replace hA := hA.later hb
          replace hr := hr.later hb
          clear hb c0 c1 c2 c3 c4 c5 c6 c7 c8 c9 c10 c11 c12 c13 c14 c15
          obtain ⟨⟨c0, c1, c2, c3, c4, c5, c6, c7, c8, c9, c10, c11, c12, c13, c14, c15⟩, -, -⟩ := hA.sixteen
          by_cases hd : s.da.size ≤ 1480
          · have hd1 : ¬ (1480 : Int) < (s.da.size : Int) := by omega
            have HM : Hid (mayG s = true) := by show _ = _; exact mayG_t h1 h2 h3 h4 h5 h6 h7 (.inl ha) (.inl hu) hm hd
            go_wp2
            go_ret
            exact ⟨by rw [HM.out]; rfl, hl⟩
          · have hd1 : (1480 : Int) < (s.da.size : Int) := by omega
            have HM : Hid (mayG s = false) := by show _ = _; simp [mayG, hd]
            go_wp2
            go_ret
            exact ⟨by rw [HM.out]; rfl, hl⟩
        · refine (rhas_f s v 32 _ hu).mono ?_
          rintro e w2 ⟨rfl, hb⟩
          replace hl := bt hl hb
          replace hA := hA.later hb
          replace hr := hr.later hb
          clear hb c0 c1 c2 c3 c4 c5 c6 c7 c8 c9 c10 c11 c12 c13 c14 c15
          obtain ⟨⟨c0, c1, c2, c3, c4, c5, c6, c7, c8, c9, c10, c11, c12, c13, c14, c15⟩, -, -⟩ := hA.sixteen
          by_cases ku : s.ur = 0
          · have ku1 : (s.ur != 0) = false := by simpa using ku
            have KU : Hid (s.ur = 0) := ku
            clear ku
            go_wp2_with (refine wpList_loadG 32 _ (by rfl) (by rfl) w.heap.size 7 (by rfl) _ _ hA.opts Tryz.underlying32 rfl size32 ?_)
            rcases (Bool.eq_false_or_eq_true s.o.may).symm with hm | hm
            · refine (rk_f _ hr hn hm).mono ?_
              rintro e w3 ⟨rfl, hb⟩
              replace hl := bt hl hb
              replace hA := hA.later hb
              replace hr := hr.later hb
              clear hb c0 c1 c2 c3 c4 c5 c6 c7 c8 c9 c10 c11 c12 c13 c14 c15
              obtain ⟨⟨c0, c1, c2, c3, c4, c5, c6, c7, c8, c9, c10, c11, c12, c13, c14, c15⟩, -, -⟩ := hA.sixteen
              have HM : Hid (mayG s = false) := by show _ = _; simp [mayG, hm]
              go_wp2
              go_ret
              exact ⟨by rw [HM.out]; rfl, hl⟩
            refine (rk_t _ hr hn hm).mono ?_
            rintro e w3 ⟨rfl, hb⟩
            replace hl := bt hl hb
            replace hA := hA.later hb
            replace hr := hr.later hb
            clear hb c0 c1 c2 c3 c4 c5 c6 c7 c8 c9 c10 c11 c12 c13 c14 c15
            obtain ⟨⟨c0, c1, c2, c3, c4, c5, c6, c7, c8, c9, c10, c11, c12, c13, c14, c15⟩, -, -⟩ := hA.sixteen
            by_cases hd : s.da.size ≤ 1480
            · have hd1 : ¬ (1480 : Int) < (s.da.size : Int) := by omega
              have HM : Hid (mayG s = true) := by show _ = _; exact mayG_t h1 h2 h3 h4 h5 h6 h7 (.inl ha) (.inr KU.out) hm hd
              go_wp2
              go_ret
              exact ⟨by rw [HM.out]; rfl, hl⟩
            · have hd1 : (1480 : Int) < (s.da.size : Int) := by omega
              have HM : Hid (mayG s = false) := by show _ = _; simp [mayG, hd]
              go_wp2
              go_ret
              exact ⟨by rw [HM.out]; rfl, hl⟩
          · have ku1 : (s.ur != 0) = true := by simpa using ku
            have HM : Hid (mayG s = false) := by show _ = _; simp [mayG, hu, ku]
            go_wp2
            go_ret
            exact ⟨by rw [HM.out]; rfl, hl⟩
      · refine (rhas_f s v 16 _ ha).mono ?_
        rintro e w1 ⟨rfl, hb⟩
        replace hl := bt hl hb
        replace hA := hA.later hb
        replace hr := hr.later hb
        clear hb c0 c1 c2 c3 c4 c5 c6 c7 c8 c9 c10 c11 c12 c13 c14 c15
        obtain ⟨⟨c0, c1, c2, c3, c4, c5, c6, c7, c8, c9, c10, c11, c12, c13, c14, c15⟩, -, -⟩ := hA.sixteen
        by_cases ka : s.ak = 0
        · have ka1 : (s.ak != 0) = false := by simpa using ka
          have KA : Hid (s.ak = 0) := ka
          clear ka
          go_wp2_with (refine wpList_loadG 34 _ (by rfl) (by rfl) w.heap.size 0 (by rfl) _ _ hA.range Tryz.underlying34 rfl size34 ?_)
          rcases Bool.eq_false_or_eq_true (hasV s.fl 32) with hu | hu
          · refine (rhas_t s v 32 _ hu).mono ?_
            rintro e w2 ⟨rfl, hb⟩
            replace hl := bt hl hb
            replace hA := hA.later hb
            replace hr := hr.later hb
            clear hb c0 c1 c2 c3 c4 c5 c6 c7 c8 c9 c10 c11 c12 c13 c14 c15
            obtain ⟨⟨c0, c1, c2, c3, c4, c5, c6, c7, c8, c9, c10, c11, c12, c13, c14, c15⟩, -, -⟩ := hA.sixteen
            go_wp2_with (refine wpList_loadG 32 _ (by rfl) (by rfl) w.heap.size 7 (by rfl) _ _ hA.opts Tryz.underlying32 rfl size32 ?_)
            rcases (Bool.eq_false_or_eq_true s.o.may).symm with hm | hm
            · refine (rk_f _ hr hn hm).mono ?_
              rintro e w3 ⟨rfl, hb⟩
              replace hl := bt hl hb
              replace hA := hA.later hb
              replace hr := hr.later hb
              clear hb c0 c1 c2 c3 c4 c5 c6 c7 c8 c9 c10 c11 c12 c13 c14 c15
              obtain ⟨⟨c0, c1, c2, c3, c4, c5, c6, c7, c8, c9, c10, c11, c12, c13, c14, c15⟩, -, -⟩ := hA.sixteen
              have HM : Hid (mayG s = false) := by show _ = _; simp [mayG, hm]
              go_wp2
              go_ret
              exact ⟨by rw [HM.out]; rfl, hl⟩
            refine (rk_t _ hr hn hm).mono ?_
            rintro e w3 ⟨rfl, hb⟩
            replace hl := bt hl hb
            replace hA := hA.later hb
            replace hr := hr.later hb
            clear hb c0 c1 c2 c3 c4 c5 c6 c7 c8 c9 c10 c11 c12 c13 c14 c15
            obtain ⟨⟨c0, c1, c2, c3, c4, c5, c6, c7, c8, c9, c10, c11, c12, c13, c14, c15⟩, -, -⟩ := hA.sixteen
            by_cases hd : s.da.size ≤ 1480
            · have hd1 : ¬ (1480 : Int) < (s.da.size : Int) := by omega
              have HM : Hid (mayG s = true) := by show _ = _; exact mayG_t h1 h2 h3 h4 h5 h6 h7 (.inr KA.out) (.inl hu) hm hd
              go_wp2
              go_ret
              exact ⟨by rw [HM.out]; rfl, hl⟩
            · have hd1 : (1480 : Int) < (s.da.size : Int) := by omega
              have HM : Hid (mayG s = false) := by show _ = _; simp [mayG, hd]
              go_wp2
              go_ret
              exact ⟨by rw [HM.out]; rfl, hl⟩
          · refine (rhas_f s v 32 _ hu).mono ?_
            rintro e w2 ⟨rfl, hb⟩
            replace hl := bt hl hb
            replace hA := hA.later hb
            replace hr := hr.later hb
            clear hb c0 c1 c2 c3 c4 c5 c6 c7 c8 c9 c10 c11 c12 c13 c14 c15
            obtain ⟨⟨c0, c1, c2, c3, c4, c5, c6, c7, c8, c9, c10, c11, c12, c13, c14, c15⟩, -, -⟩ := hA.sixteen
            by_cases ku : s.ur = 0
            · have ku1 : (s.ur != 0) = false := by simpa using ku
              have KU : Hid (s.ur = 0) := ku
              clear ku
              go_wp2_with (refine wpList_loadG 32 _ (by rfl) (by rfl) w.heap.size 7 (by rfl) _ _ hA.opts Tryz.underlying32 rfl size32 ?_)
              rcases (Bool.eq_false_or_eq_true s.o.may).symm with hm | hm
              · refine (rk_f _ hr hn hm).mono ?_
                rintro e w3 ⟨rfl, hb⟩
                replace hl := bt hl hb
                replace hA := hA.later hb
                replace hr := hr.later hb
                clear hb c0 c1 c2 c3 c4 c5 c6 c7 c8 c9 c10 c11 c12 c13 c14 c15
                obtain ⟨⟨c0, c1, c2, c3, c4, c5, c6, c7, c8, c9, c10, c11, c12, c13, c14, c15⟩, -, -⟩ := hA.sixteen
                have HM : Hid (mayG s = false) := by show _ = _; simp [mayG, hm]
                go_wp2
                go_ret
                exact ⟨by rw [HM.out]; rfl, hl⟩
              refine (rk_t _ hr hn hm).mono ?_
              rintro e w3 ⟨rfl, hb⟩
              replace hl := bt hl hb
              replace hA := hA.later hb
              replace hr := hr.later hb
              clear hb c0 c1 c2 c3 c4 c5 c6 c7 c8 c9 c10 c11 c12 c13 c14 c15
              obtain ⟨⟨c0, c1, c2, c3, c4, c5, c6, c7, c8, c9, c10, c11, c12, c13, c14, c15⟩, -, -⟩ := hA.sixteen
              by_cases hd : s.da.size ≤ 1480
              · have hd1 : ¬ (1480 : Int) < (s.da.size : Int) := by omega
                have HM : Hid (mayG s = true) := by show _ = _; exact mayG_t h1 h2 h3 h4 h5 h6 h7 (.inr KA.out) (.inr KU.out) hm hd
                go_wp2
                go_ret
                exact ⟨by rw [HM.out]; rfl, hl⟩
              · have hd1 : (1480 : Int) < (s.da.size : Int) := by omega
                have HM : Hid (mayG s = false) := by show _ = _; simp [mayG, hd]
                go_wp2
                go_ret
                exact ⟨by rw [HM.out]; rfl, hl⟩
            · have ku1 : (s.ur != 0) = true := by simpa using ku
              have HM : Hid (mayG s = false) := by show _ = _; simp [mayG, hu, ku]
              go_wp2
              go_ret
              exact ⟨by rw [HM.out]; rfl, hl⟩
        · have ka1 : (s.ak != 0) = true := by simpa using ka
          have HM : Hid (mayG s = false) := by show _ = _; simp [mayG, ha, ka]
          go_wp2
          go_ret
          exact ⟨by rw [HM.out]; rfl, hl⟩
end Go.Proofs.YtkpdmgoldngdaaaGreatDoor

namespace Go.Proofs.YtkpdmgoldngdaaaGreatDoor
open Go.RowKit
set_option maxRecDepth 100000
set_option linter.unusedVariables false

theorem pseuB_of (f t : Int) (n : Nat) (hf : numB f = true) (ht : numB t = true) (hn : n ≤ 65535) : codeB (pseuB f t 6 (n : Int)) = 0 := by
  have h1 := of_decide_eq_true hf
  have h2 := of_decide_eq_true ht
  unfold pseuB
  rw [outB_f (by omega), outB_f (by omega), outB_f (by omega), outB_f (by omega)]
  rfl

set_option maxHeartbeats 8000000 in
theorem rdecs_1 (f t : Int) (b : ByteArray) (w : World)
    (hf : numB f = false) :
    Calls Tryz.prog 41 #[.int .i64 f, .int .i64 t, .string b] w fun e w' => e = .returned (.tuple #[.agg #[.int .i64 0, .int .i64 0, .int .i64 0, .int .i64 0, .int .i64 0, .int .i64 0, .int .i64 0, .int .i64 0, .int .i64 0, .int .i64 0, .int .i64 0, .bool false, .bool false, .bool false, .slice none 0 0, .string ⟨#[]⟩], .int .i64 1]) ∧ Below w.heap.size w w' := by
  have hR := At.box w #[.int .i64 0, .int .i64 0, .int .i64 0, .int .i64 0, .int .i64 0, .int .i64 0, .int .i64 0, .int .i64 0, .int .i64 0, .int .i64 0, .int .i64 0, .bool false, .bool false, .bool false, .slice none 0 0, .string ⟨#[]⟩] 34
  have hl := bel1 w (.cells #[.int .i64 0, .int .i64 0, .int .i64 0, .int .i64 0, .int .i64 0, .int .i64 0, .int .i64 0, .int .i64 0, .int .i64 0, .int .i64 0, .int .i64 0, .bool false, .bool false, .bool false, .slice none 0 0, .string ⟨#[]⟩] 34)
  have hz : ∀ W, (Instr.build 34 #[]).run Tryz.prog W = .ok (.agg #[.int .i64 0, .int .i64 0, .int .i64 0, .int .i64 0, .int .i64 0, .int .i64 0, .int .i64 0, .int .i64 0, .int .i64 0, .int .i64 0, .int .i64 0, .bool false, .bool false, .bool false, .slice none 0 0, .string ⟨#[]⟩]) W := fun W => run_build W 34 #[] _ (by kernel_rfl)
  go_enter Tryz.func41, Tryz.ntmps41
  go_wp2_with fail
  refine (rchk_f f _ hf).mono ?_
  rintro e w1 ⟨rfl, rfl⟩
  go_wp2_with (refine wpList_store_mid (by rfl) 34 _ _ (by rfl) (w.heap.size) 0 #[.int .i64 0, .int .i64 0, .int .i64 0, .int .i64 0, .int .i64 0, .int .i64 0, .int .i64 0, .int .i64 0, .int .i64 0, .int .i64 0, .int .i64 0, .bool false, .bool false, .bool false, .slice none 0 0, .string ⟨#[]⟩] (by rfl) (by rfl) hR.there size34 (by simp [Value.oneCell']) ?_)
  go_wp2
  exact bodyPost_ret (v := .tuple #[.agg #[.int .i64 0, .int .i64 0, .int .i64 0, .int .i64 0, .int .i64 0, .int .i64 0, .int .i64 0, .int .i64 0, .int .i64 0, .int .i64 0, .int .i64 0, .bool false, .bool false, .bool false, .slice none 0 0, .string ⟨#[]⟩], .int .i64 1]) (ret_cell (by rfl) (At.whole (vs := #[.int .i64 0, .int .i64 0, .int .i64 0, .int .i64 0, .int .i64 0, .int .i64 0, .int .i64 0, .int .i64 0, .int .i64 0, .int .i64 0, .int .i64 0, .bool false, .bool false, .bool false, .slice none 0 0, .string ⟨#[]⟩]) hR rfl) rfl (by rfl) (by rfl)) (by rfl) ⟨rfl, Below.setCells (Nat.le_refl _) _ _ _ hl⟩
set_option maxHeartbeats 8000000 in
theorem rdecs_1b (f t : Int) (b : ByteArray) (w : World)
    (hf : numB f = true) (ht : numB t = false) :
    Calls Tryz.prog 41 #[.int .i64 f, .int .i64 t, .string b] w fun e w' => e = .returned (.tuple #[.agg #[.int .i64 0, .int .i64 0, .int .i64 0, .int .i64 0, .int .i64 0, .int .i64 0, .int .i64 0, .int .i64 0, .int .i64 0, .int .i64 0, .int .i64 0, .bool false, .bool false, .bool false, .slice none 0 0, .string ⟨#[]⟩], .int .i64 1]) ∧ Below w.heap.size w w' := by
  have hR := At.box w #[.int .i64 0, .int .i64 0, .int .i64 0, .int .i64 0, .int .i64 0, .int .i64 0, .int .i64 0, .int .i64 0, .int .i64 0, .int .i64 0, .int .i64 0, .bool false, .bool false, .bool false, .slice none 0 0, .string ⟨#[]⟩] 34
  have hl := bel1 w (.cells #[.int .i64 0, .int .i64 0, .int .i64 0, .int .i64 0, .int .i64 0, .int .i64 0, .int .i64 0, .int .i64 0, .int .i64 0, .int .i64 0, .int .i64 0, .bool false, .bool false, .bool false, .slice none 0 0, .string ⟨#[]⟩] 34)
  have hz : ∀ W, (Instr.build 34 #[]).run Tryz.prog W = .ok (.agg #[.int .i64 0, .int .i64 0, .int .i64 0, .int .i64 0, .int .i64 0, .int .i64 0, .int .i64 0, .int .i64 0, .int .i64 0, .int .i64 0, .int .i64 0, .bool false, .bool false, .bool false, .slice none 0 0, .string ⟨#[]⟩]) W := fun W => run_build W 34 #[] _ (by kernel_rfl)
  go_enter Tryz.func41, Tryz.ntmps41
  go_wp2_with fail
  refine (rchk_t f _ hf).mono ?_
  rintro e w1 ⟨rfl, rfl⟩
  go_wp2_with fail
  refine (rchk_f t _ ht).mono ?_
  rintro e w1 ⟨rfl, rfl⟩
  go_wp2_with (refine wpList_store_mid (by rfl) 34 _ _ (by rfl) (w.heap.size) 0 #[.int .i64 0, .int .i64 0, .int .i64 0, .int .i64 0, .int .i64 0, .int .i64 0, .int .i64 0, .int .i64 0, .int .i64 0, .int .i64 0, .int .i64 0, .bool false, .bool false, .bool false, .slice none 0 0, .string ⟨#[]⟩] (by rfl) (by rfl) hR.there size34 (by simp [Value.oneCell']) ?_)
  go_wp2
  exact bodyPost_ret (v := .tuple #[.agg #[.int .i64 0, .int .i64 0, .int .i64 0, .int .i64 0, .int .i64 0, .int .i64 0, .int .i64 0, .int .i64 0, .int .i64 0, .int .i64 0, .int .i64 0, .bool false, .bool false, .bool false, .slice none 0 0, .string ⟨#[]⟩], .int .i64 1]) (ret_cell (by rfl) (At.whole (vs := #[.int .i64 0, .int .i64 0, .int .i64 0, .int .i64 0, .int .i64 0, .int .i64 0, .int .i64 0, .int .i64 0, .int .i64 0, .int .i64 0, .int .i64 0, .bool false, .bool false, .bool false, .slice none 0 0, .string ⟨#[]⟩]) hR rfl) rfl (by rfl) (by rfl)) (by rfl) ⟨rfl, Below.setCells (Nat.le_refl _) _ _ _ hl⟩
set_option maxHeartbeats 8000000 in
theorem rdecs_2a (f t : Int) (b : ByteArray) (w : World)
    (hf : numB f = true) (ht : numB t = true) (a1 : (b.size : Int) < 20) :
    Calls Tryz.prog 41 #[.int .i64 f, .int .i64 t, .string b] w fun e w' => e = .returned (.tuple #[.agg #[.int .i64 0, .int .i64 0, .int .i64 0, .int .i64 0, .int .i64 0, .int .i64 0, .int .i64 0, .int .i64 0, .int .i64 0, .int .i64 0, .int .i64 0, .bool false, .bool false, .bool false, .slice none 0 0, .string ⟨#[]⟩], .int .i64 80]) ∧ Below w.heap.size w w' := by
  have hR := At.box w #[.int .i64 0, .int .i64 0, .int .i64 0, .int .i64 0, .int .i64 0, .int .i64 0, .int .i64 0, .int .i64 0, .int .i64 0, .int .i64 0, .int .i64 0, .bool false, .bool false, .bool false, .slice none 0 0, .string ⟨#[]⟩] 34
  have hl := bel1 w (.cells #[.int .i64 0, .int .i64 0, .int .i64 0, .int .i64 0, .int .i64 0, .int .i64 0, .int .i64 0, .int .i64 0, .int .i64 0, .int .i64 0, .int .i64 0, .bool false, .bool false, .bool false, .slice none 0 0, .string ⟨#[]⟩] 34)
  have hz : ∀ W, (Instr.build 34 #[]).run Tryz.prog W = .ok (.agg #[.int .i64 0, .int .i64 0, .int .i64 0, .int .i64 0, .int .i64 0, .int .i64 0, .int .i64 0, .int .i64 0, .int .i64 0, .int .i64 0, .int .i64 0, .bool false, .bool false, .bool false, .slice none 0 0, .string ⟨#[]⟩]) W := fun W => run_build W 34 #[] _ (by kernel_rfl)
  go_enter Tryz.func41, Tryz.ntmps41
  go_wp2_with fail
  refine (rchk_t f _ hf).mono ?_
  rintro e w1 ⟨rfl, rfl⟩
  go_wp2_with fail
  refine (rchk_t t _ ht).mono ?_
  rintro e w1 ⟨rfl, rfl⟩
  go_wp2_with (refine wpList_store_mid (by rfl) 34 _ _ (by rfl) (w.heap.size) 0 #[.int .i64 0, .int .i64 0, .int .i64 0, .int .i64 0, .int .i64 0, .int .i64 0, .int .i64 0, .int .i64 0, .int .i64 0, .int .i64 0, .int .i64 0, .bool false, .bool false, .bool false, .slice none 0 0, .string ⟨#[]⟩] (by rfl) (by rfl) hR.there size34 (by simp [Value.oneCell']) ?_)
  go_wp2
  exact bodyPost_ret (v := .tuple #[.agg #[.int .i64 0, .int .i64 0, .int .i64 0, .int .i64 0, .int .i64 0, .int .i64 0, .int .i64 0, .int .i64 0, .int .i64 0, .int .i64 0, .int .i64 0, .bool false, .bool false, .bool false, .slice none 0 0, .string ⟨#[]⟩], .int .i64 80]) (ret_cell (by rfl) (At.whole (vs := #[.int .i64 0, .int .i64 0, .int .i64 0, .int .i64 0, .int .i64 0, .int .i64 0, .int .i64 0, .int .i64 0, .int .i64 0, .int .i64 0, .int .i64 0, .bool false, .bool false, .bool false, .slice none 0 0, .string ⟨#[]⟩]) hR rfl) rfl (by rfl) (by rfl)) (by rfl) ⟨rfl, Below.setCells (Nat.le_refl _) _ _ _ hl⟩
set_option maxHeartbeats 8000000 in
theorem rdecs_2b (f t : Int) (b : ByteArray) (w : World)
    (hf : numB f = true) (ht : numB t = true) (a1 : ¬ (b.size : Int) < 20) (a2 : 1540 < (b.size : Int)) :
    Calls Tryz.prog 41 #[.int .i64 f, .int .i64 t, .string b] w fun e w' => e = .returned (.tuple #[.agg #[.int .i64 0, .int .i64 0, .int .i64 0, .int .i64 0, .int .i64 0, .int .i64 0, .int .i64 0, .int .i64 0, .int .i64 0, .int .i64 0, .int .i64 0, .bool false, .bool false, .bool false, .slice none 0 0, .string ⟨#[]⟩], .int .i64 80]) ∧ Below w.heap.size w w' := by
  have hR := At.box w #[.int .i64 0, .int .i64 0, .int .i64 0, .int .i64 0, .int .i64 0, .int .i64 0, .int .i64 0, .int .i64 0, .int .i64 0, .int .i64 0, .int .i64 0, .bool false, .bool false, .bool false, .slice none 0 0, .string ⟨#[]⟩] 34
  have hl := bel1 w (.cells #[.int .i64 0, .int .i64 0, .int .i64 0, .int .i64 0, .int .i64 0, .int .i64 0, .int .i64 0, .int .i64 0, .int .i64 0, .int .i64 0, .int .i64 0, .bool false, .bool false, .bool false, .slice none 0 0, .string ⟨#[]⟩] 34)
  have hz : ∀ W, (Instr.build 34 #[]).run Tryz.prog W = .ok (.agg #[.int .i64 0, .int .i64 0, .int .i64 0, .int .i64 0, .int .i64 0, .int .i64 0, .int .i64 0, .int .i64 0, .int .i64 0, .int .i64 0, .int .i64 0, .bool false, .bool false, .bool false, .slice none 0 0, .string ⟨#[]⟩]) W := fun W => run_build W 34 #[] _ (by kernel_rfl)
  go_enter Tryz.func41, Tryz.ntmps41
  go_wp2_with fail
  refine (rchk_t f _ hf).mono ?_
  rintro e w1 ⟨rfl, rfl⟩
  go_wp2_with fail
  refine (rchk_t t _ ht).mono ?_
  rintro e w1 ⟨rfl, rfl⟩
  go_wp2_with (refine wpList_store_mid (by rfl) 34 _ _ (by rfl) (w.heap.size) 0 #[.int .i64 0, .int .i64 0, .int .i64 0, .int .i64 0, .int .i64 0, .int .i64 0, .int .i64 0, .int .i64 0, .int .i64 0, .int .i64 0, .int .i64 0, .bool false, .bool false, .bool false, .slice none 0 0, .string ⟨#[]⟩] (by rfl) (by rfl) hR.there size34 (by simp [Value.oneCell']) ?_)
  go_wp2
  exact bodyPost_ret (v := .tuple #[.agg #[.int .i64 0, .int .i64 0, .int .i64 0, .int .i64 0, .int .i64 0, .int .i64 0, .int .i64 0, .int .i64 0, .int .i64 0, .int .i64 0, .int .i64 0, .bool false, .bool false, .bool false, .slice none 0 0, .string ⟨#[]⟩], .int .i64 80]) (ret_cell (by rfl) (At.whole (vs := #[.int .i64 0, .int .i64 0, .int .i64 0, .int .i64 0, .int .i64 0, .int .i64 0, .int .i64 0, .int .i64 0, .int .i64 0, .int .i64 0, .int .i64 0, .bool false, .bool false, .bool false, .slice none 0 0, .string ⟨#[]⟩]) hR rfl) rfl (by rfl) (by rfl)) (by rfl) ⟨rfl, Below.setCells (Nat.le_refl _) _ _ _ hl⟩
set_option maxHeartbeats 8000000 in
theorem rdecs_2c (f t : Int) (b : ByteArray) (BN h : Int) (w : World)
    (hf : numB f = true) (ht : numB t = true)
    (r3 : ∀ W, (Instr.index 9 (.string b) (.int .i64 12)).run Tryz.prog W = .ok (.int .u8 BN) W) (b0 : 0 ≤ BN) (b1 : BN ≤ 255) (e1 : IntKind.i64.wrap (BN / 16) = BN / 16) (e2 : IntKind.i64.wrap (BN / 16 * 4) = h) (a1 : ¬ (b.size : Int) < 20) (a2 : ¬ 1540 < (b.size : Int)) (a3 : h < 20) :
    Calls Tryz.prog 41 #[.int .i64 f, .int .i64 t, .string b] w fun e w' => e = .returned (.tuple #[.agg #[.int .i64 0, .int .i64 0, .int .i64 0, .int .i64 0, .int .i64 0, .int .i64 0, .int .i64 0, .int .i64 0, .int .i64 0, .int .i64 0, .int .i64 0, .bool false, .bool false, .bool false, .slice none 0 0, .string ⟨#[]⟩], .int .i64 80]) ∧ Below w.heap.size w w' := by
  have hR := At.box w #[.int .i64 0, .int .i64 0, .int .i64 0, .int .i64 0, .int .i64 0, .int .i64 0, .int .i64 0, .int .i64 0, .int .i64 0, .int .i64 0, .int .i64 0, .bool false, .bool false, .bool false, .slice none 0 0, .string ⟨#[]⟩] 34
  have hl := bel1 w (.cells #[.int .i64 0, .int .i64 0, .int .i64 0, .int .i64 0, .int .i64 0, .int .i64 0, .int .i64 0, .int .i64 0, .int .i64 0, .int .i64 0, .int .i64 0, .bool false, .bool false, .bool false, .slice none 0 0, .string ⟨#[]⟩] 34)
  have hz : ∀ W, (Instr.build 34 #[]).run Tryz.prog W = .ok (.agg #[.int .i64 0, .int .i64 0, .int .i64 0, .int .i64 0, .int .i64 0, .int .i64 0, .int .i64 0, .int .i64 0, .int .i64 0, .int .i64 0, .int .i64 0, .bool false, .bool false, .bool false, .slice none 0 0, .string ⟨#[]⟩]) W := fun W => run_build W 34 #[] _ (by kernel_rfl)
  go_enter Tryz.func41, Tryz.ntmps41
  go_wp2_with fail
  refine (rchk_t f _ hf).mono ?_
  rintro e w1 ⟨rfl, rfl⟩
  go_wp2_with fail
  refine (rchk_t t _ ht).mono ?_
  rintro e w1 ⟨rfl, rfl⟩
  go_wp2_with (refine wpList_store_mid (by rfl) 34 _ _ (by rfl) (w.heap.size) 0 #[.int .i64 0, .int .i64 0, .int .i64 0, .int .i64 0, .int .i64 0, .int .i64 0, .int .i64 0, .int .i64 0, .int .i64 0, .int .i64 0, .int .i64 0, .bool false, .bool false, .bool false, .slice none 0 0, .string ⟨#[]⟩] (by rfl) (by rfl) hR.there size34 (by simp [Value.oneCell']) ?_)
  go_wp2
  exact bodyPost_ret (v := .tuple #[.agg #[.int .i64 0, .int .i64 0, .int .i64 0, .int .i64 0, .int .i64 0, .int .i64 0, .int .i64 0, .int .i64 0, .int .i64 0, .int .i64 0, .int .i64 0, .bool false, .bool false, .bool false, .slice none 0 0, .string ⟨#[]⟩], .int .i64 80]) (ret_cell (by rfl) (At.whole (vs := #[.int .i64 0, .int .i64 0, .int .i64 0, .int .i64 0, .int .i64 0, .int .i64 0, .int .i64 0, .int .i64 0, .int .i64 0, .int .i64 0, .int .i64 0, .bool false, .bool false, .bool false, .slice none 0 0, .string ⟨#[]⟩]) hR rfl) rfl (by rfl) (by rfl)) (by rfl) ⟨rfl, Below.setCells (Nat.le_refl _) _ _ _ hl⟩
set_option maxHeartbeats 8000000 in
theorem rdecs_2d (f t : Int) (b : ByteArray) (BN h : Int) (w : World)
    (hf : numB f = true) (ht : numB t = true)
    (r3 : ∀ W, (Instr.index 9 (.string b) (.int .i64 12)).run Tryz.prog W = .ok (.int .u8 BN) W) (b0 : 0 ≤ BN) (b1 : BN ≤ 255) (e1 : IntKind.i64.wrap (BN / 16) = BN / 16) (e2 : IntKind.i64.wrap (BN / 16 * 4) = h) (a1 : ¬ (b.size : Int) < 20) (a2 : ¬ 1540 < (b.size : Int)) (a3 : ¬ h < 20) (a4 : (b.size : Int) < h) :
    Calls Tryz.prog 41 #[.int .i64 f, .int .i64 t, .string b] w fun e w' => e = .returned (.tuple #[.agg #[.int .i64 0, .int .i64 0, .int .i64 0, .int .i64 0, .int .i64 0, .int .i64 0, .int .i64 0, .int .i64 0, .int .i64 0, .int .i64 0, .int .i64 0, .bool false, .bool false, .bool false, .slice none 0 0, .string ⟨#[]⟩], .int .i64 80]) ∧ Below w.heap.size w w' := by
  have hR := At.box w #[.int .i64 0, .int .i64 0, .int .i64 0, .int .i64 0, .int .i64 0, .int .i64 0, .int .i64 0, .int .i64 0, .int .i64 0, .int .i64 0, .int .i64 0, .bool false, .bool false, .bool false, .slice none 0 0, .string ⟨#[]⟩] 34
  have hl := bel1 w (.cells #[.int .i64 0, .int .i64 0, .int .i64 0, .int .i64 0, .int .i64 0, .int .i64 0, .int .i64 0, .int .i64 0, .int .i64 0, .int .i64 0, .int .i64 0, .bool false, .bool false, .bool false, .slice none 0 0, .string ⟨#[]⟩] 34)
  have hz : ∀ W, (Instr.build 34 #[]).run Tryz.prog W = .ok (.agg #[.int .i64 0, .int .i64 0, .int .i64 0, .int .i64 0, .int .i64 0, .int .i64 0, .int .i64 0, .int .i64 0, .int .i64 0, .int .i64 0, .int .i64 0, .bool false, .bool false, .bool false, .slice none 0 0, .string ⟨#[]⟩]) W := fun W => run_build W 34 #[] _ (by kernel_rfl)
  go_enter Tryz.func41, Tryz.ntmps41
  go_wp2_with fail
  refine (rchk_t f _ hf).mono ?_
  rintro e w1 ⟨rfl, rfl⟩
  go_wp2_with fail
  refine (rchk_t t _ ht).mono ?_
  rintro e w1 ⟨rfl, rfl⟩
  go_wp2_with (refine wpList_store_mid (by rfl) 34 _ _ (by rfl) (w.heap.size) 0 #[.int .i64 0, .int .i64 0, .int .i64 0, .int .i64 0, .int .i64 0, .int .i64 0, .int .i64 0, .int .i64 0, .int .i64 0, .int .i64 0, .int .i64 0, .bool false, .bool false, .bool false, .slice none 0 0, .string ⟨#[]⟩] (by rfl) (by rfl) hR.there size34 (by simp [Value.oneCell']) ?_)
  go_wp2
  exact bodyPost_ret (v := .tuple #[.agg #[.int .i64 0, .int .i64 0, .int .i64 0, .int .i64 0, .int .i64 0, .int .i64 0, .int .i64 0, .int .i64 0, .int .i64 0, .int .i64 0, .int .i64 0, .bool false, .bool false, .bool false, .slice none 0 0, .string ⟨#[]⟩], .int .i64 80]) (ret_cell (by rfl) (At.whole (vs := #[.int .i64 0, .int .i64 0, .int .i64 0, .int .i64 0, .int .i64 0, .int .i64 0, .int .i64 0, .int .i64 0, .int .i64 0, .int .i64 0, .int .i64 0, .bool false, .bool false, .bool false, .slice none 0 0, .string ⟨#[]⟩]) hR rfl) rfl (by rfl) (by rfl)) (by rfl) ⟨rfl, Below.setCells (Nat.le_refl _) _ _ _ hl⟩
set_option maxHeartbeats 8000000 in
theorem rdecs_3 (f t : Int) (b : ByteArray) (PS : ByteArray) (BN h : Int) (w : World)
    (hf : numB f = true) (ht : numB t = true)
    (r3 : ∀ W, (Instr.index 9 (.string b) (.int .i64 12)).run Tryz.prog W = .ok (.int .u8 BN) W) (b0 : 0 ≤ BN) (b1 : BN ≤ 255) (e1 : IntKind.i64.wrap (BN / 16) = BN / 16) (e2 : IntKind.i64.wrap (BN / 16 * 4) = h) (a1 : ¬ (b.size : Int) < 20) (a2 : ¬ 1540 < (b.size : Int)) (a3 : ¬ h < 20) (a4 : ¬ (b.size : Int) < h)
    (HPS : Hid (∀ W, Calls Tryz.prog 76 #[.int .i64 f, .int .i64 t, .int .i64 6, .int .i64 (b.size : Int)] W fun e w' => e = .returned (.tuple #[.string PS, .int .i64 0]) ∧ Below W.heap.size W w'))
    (r1 : ∀ W, (Op.stringOp .add PS b).run Tryz.prog W = .ok (.string (PS ++ b)) W)
    (HWH : Hid (∀ W, Calls Tryz.prog 66 #[.string (PS ++ b)] W fun e w' => e = .returned (.bool false) ∧ w' = W)) :
    Calls Tryz.prog 41 #[.int .i64 f, .int .i64 t, .string b] w fun e w' => e = .returned (.tuple #[.agg #[.int .i64 0, .int .i64 0, .int .i64 0, .int .i64 0, .int .i64 0, .int .i64 0, .int .i64 0, .int .i64 0, .int .i64 0, .int .i64 0, .int .i64 0, .bool false, .bool false, .bool false, .slice none 0 0, .string ⟨#[]⟩], .int .i64 20]) ∧ Below w.heap.size w w' := by
  have hR := At.box w #[.int .i64 0, .int .i64 0, .int .i64 0, .int .i64 0, .int .i64 0, .int .i64 0, .int .i64 0, .int .i64 0, .int .i64 0, .int .i64 0, .int .i64 0, .bool false, .bool false, .bool false, .slice none 0 0, .string ⟨#[]⟩] 34
  have hl := bel1 w (.cells #[.int .i64 0, .int .i64 0, .int .i64 0, .int .i64 0, .int .i64 0, .int .i64 0, .int .i64 0, .int .i64 0, .int .i64 0, .int .i64 0, .int .i64 0, .bool false, .bool false, .bool false, .slice none 0 0, .string ⟨#[]⟩] 34)
  have hz : ∀ W, (Instr.build 34 #[]).run Tryz.prog W = .ok (.agg #[.int .i64 0, .int .i64 0, .int .i64 0, .int .i64 0, .int .i64 0, .int .i64 0, .int .i64 0, .int .i64 0, .int .i64 0, .int .i64 0, .int .i64 0, .bool false, .bool false, .bool false, .slice none 0 0, .string ⟨#[]⟩]) W := fun W => run_build W 34 #[] _ (by kernel_rfl)
  go_enter Tryz.func41, Tryz.ntmps41
  go_wp2_with fail
  refine (rchk_t f _ hf).mono ?_
  rintro e w1 ⟨rfl, rfl⟩
  go_wp2_with fail
  refine (rchk_t t _ ht).mono ?_
  rintro e w1 ⟨rfl, rfl⟩
  go_wp2_with fail
  refine (HPS.out _).mono ?_
  rintro e w2 ⟨rfl, hb⟩
  replace hl := bt hl hb
  replace hR := hR.later hb
  clear hb
  clear HPS
  go_wp2_with fail
  refine (HWH.out _).mono ?_
  rintro e w3 ⟨rfl, rfl⟩
  clear HWH
  go_wp2_with (refine wpList_store_mid (by rfl) 34 _ _ (by rfl) (w.heap.size) 0 #[.int .i64 0, .int .i64 0, .int .i64 0, .int .i64 0, .int .i64 0, .int .i64 0, .int .i64 0, .int .i64 0, .int .i64 0, .int .i64 0, .int .i64 0, .bool false, .bool false, .bool false, .slice none 0 0, .string ⟨#[]⟩] (by rfl) (by rfl) hR.there size34 (by simp [Value.oneCell']) ?_)
  go_wp2
  exact bodyPost_ret (v := .tuple #[.agg #[.int .i64 0, .int .i64 0, .int .i64 0, .int .i64 0, .int .i64 0, .int .i64 0, .int .i64 0, .int .i64 0, .int .i64 0, .int .i64 0, .int .i64 0, .bool false, .bool false, .bool false, .slice none 0 0, .string ⟨#[]⟩], .int .i64 20]) (ret_cell (by rfl) (At.whole (vs := #[.int .i64 0, .int .i64 0, .int .i64 0, .int .i64 0, .int .i64 0, .int .i64 0, .int .i64 0, .int .i64 0, .int .i64 0, .int .i64 0, .int .i64 0, .bool false, .bool false, .bool false, .slice none 0 0, .string ⟨#[]⟩]) hR rfl) rfl (by rfl) (by rfl)) (by rfl) ⟨rfl, Below.setCells (Nat.le_refl _) _ _ _ hl⟩
set_option maxHeartbeats 8000000 in
theorem rdecs_4 (f t : Int) (b : ByteArray) (PS OB : ByteArray) (BN h : Int) (w : World)
    (hf : numB f = true) (ht : numB t = true)
    (r3 : ∀ W, (Instr.index 9 (.string b) (.int .i64 12)).run Tryz.prog W = .ok (.int .u8 BN) W) (b0 : 0 ≤ BN) (b1 : BN ≤ 255) (e1 : IntKind.i64.wrap (BN / 16) = BN / 16) (e2 : IntKind.i64.wrap (BN / 16 * 4) = h) (a1 : ¬ (b.size : Int) < 20) (a2 : ¬ 1540 < (b.size : Int)) (a3 : ¬ h < 20) (a4 : ¬ (b.size : Int) < h)
    (HPS : Hid (∀ W, Calls Tryz.prog 76 #[.int .i64 f, .int .i64 t, .int .i64 6, .int .i64 (b.size : Int)] W fun e w' => e = .returned (.tuple #[.string PS, .int .i64 0]) ∧ Below W.heap.size W w'))
    (r1 : ∀ W, (Op.stringOp .add PS b).run Tryz.prog W = .ok (.string (PS ++ b)) W)
    (HWH : Hid (∀ W, Calls Tryz.prog 66 #[.string (PS ++ b)] W fun e w' => e = .returned (.bool true) ∧ w' = W))
    (r2 : ∀ W, (Instr.slice 9 (.string b) (some (.int .i64 20)) (some (.int .i64 h)) none).run Tryz.prog W = .ok (.string OB) W)
    (HOD : Hid (∀ W, Calls Tryz.prog 77 #[.string OB] W fun e w' => e = .returned (.tuple #[.agg #[.int .i64 0, .int .i64 0, .int .i64 0, .int .i64 0, .bool false, .bool false, .bool false, .slice none 0 0], .int .i64 70]) ∧ Below W.heap.size W w')) :
    Calls Tryz.prog 41 #[.int .i64 f, .int .i64 t, .string b] w fun e w' => e = .returned (.tuple #[.agg #[.int .i64 0, .int .i64 0, .int .i64 0, .int .i64 0, .int .i64 0, .int .i64 0, .int .i64 0, .int .i64 0, .int .i64 0, .int .i64 0, .int .i64 0, .bool false, .bool false, .bool false, .slice none 0 0, .string ⟨#[]⟩], .int .i64 70]) ∧ Below w.heap.size w w' := by
  have hR := At.box w #[.int .i64 0, .int .i64 0, .int .i64 0, .int .i64 0, .int .i64 0, .int .i64 0, .int .i64 0, .int .i64 0, .int .i64 0, .int .i64 0, .int .i64 0, .bool false, .bool false, .bool false, .slice none 0 0, .string ⟨#[]⟩] 34
  have hl := bel1 w (.cells #[.int .i64 0, .int .i64 0, .int .i64 0, .int .i64 0, .int .i64 0, .int .i64 0, .int .i64 0, .int .i64 0, .int .i64 0, .int .i64 0, .int .i64 0, .bool false, .bool false, .bool false, .slice none 0 0, .string ⟨#[]⟩] 34)
  have hz : ∀ W, (Instr.build 34 #[]).run Tryz.prog W = .ok (.agg #[.int .i64 0, .int .i64 0, .int .i64 0, .int .i64 0, .int .i64 0, .int .i64 0, .int .i64 0, .int .i64 0, .int .i64 0, .int .i64 0, .int .i64 0, .bool false, .bool false, .bool false, .slice none 0 0, .string ⟨#[]⟩]) W := fun W => run_build W 34 #[] _ (by kernel_rfl)
  go_enter Tryz.func41, Tryz.ntmps41
  go_wp2_with fail
  refine (rchk_t f _ hf).mono ?_
  rintro e w1 ⟨rfl, rfl⟩
  go_wp2_with fail
  refine (rchk_t t _ ht).mono ?_
  rintro e w1 ⟨rfl, rfl⟩
  go_wp2_with fail
  refine (HPS.out _).mono ?_
  rintro e w2 ⟨rfl, hb⟩
  replace hl := bt hl hb
  replace hR := hR.later hb
  clear hb
  clear HPS
  go_wp2_with fail
  refine (HWH.out _).mono ?_
  rintro e w3 ⟨rfl, rfl⟩
  clear HWH
  go_wp2_with fail
  refine (HOD.out _).mono ?_
  rintro e w4 ⟨rfl, hb⟩
  replace hl := bt hl hb
  replace hR := hR.later hb
  clear hb
  clear HOD
  have hbx := bel1 w4 (.cells #[.int .i64 0, .int .i64 0, .int .i64 0, .int .i64 0, .bool false, .bool false, .bool false, .slice none 0 0] 32)
  go_upto_region 12 with fail
  replace hl := bt hl hbx
  replace hR := hR.later hbx
  generalize w4.alloc (.cells #[.int .i64 0, .int .i64 0, .int .i64 0, .int .i64 0, .bool false, .bool false, .bool false, .slice none 0 0] 32) = w5 at *
  clear hbx
  go_wp2_with (refine wpList_store_mid (by rfl) 34 _ _ (by rfl) (w.heap.size) 0 #[.int .i64 0, .int .i64 0, .int .i64 0, .int .i64 0, .int .i64 0, .int .i64 0, .int .i64 0, .int .i64 0, .int .i64 0, .int .i64 0, .int .i64 0, .bool false, .bool false, .bool false, .slice none 0 0, .string ⟨#[]⟩] (by rfl) (by rfl) hR.there size34 (by simp [Value.oneCell']) ?_)
  go_wp2
  exact bodyPost_ret (v := .tuple #[.agg #[.int .i64 0, .int .i64 0, .int .i64 0, .int .i64 0, .int .i64 0, .int .i64 0, .int .i64 0, .int .i64 0, .int .i64 0, .int .i64 0, .int .i64 0, .bool false, .bool false, .bool false, .slice none 0 0, .string ⟨#[]⟩], .int .i64 70]) (ret_cell (by rfl) (At.whole (vs := #[.int .i64 0, .int .i64 0, .int .i64 0, .int .i64 0, .int .i64 0, .int .i64 0, .int .i64 0, .int .i64 0, .int .i64 0, .int .i64 0, .int .i64 0, .bool false, .bool false, .bool false, .slice none 0 0, .string ⟨#[]⟩]) hR rfl) rfl (by rfl) (by rfl)) (by rfl) ⟨rfl, Below.setCells (Nat.le_refl _) _ _ _ hl⟩
set_option maxHeartbeats 8000000 in
theorem rdecs_5 (f t : Int) (b : ByteArray) (PS OB D0 D2 D4 D8 D14 D18 : ByteArray) (BN h : Int) (o : Op) (G : Sg) (w : World)
    (hf : numB f = true) (ht : numB t = true)
    (r3 : ∀ W, (Instr.index 9 (.string b) (.int .i64 12)).run Tryz.prog W = .ok (.int .u8 BN) W) (b0 : 0 ≤ BN) (b1 : BN ≤ 255) (e1 : IntKind.i64.wrap (BN / 16) = BN / 16) (e2 : IntKind.i64.wrap (BN / 16 * 4) = h) (a1 : ¬ (b.size : Int) < 20) (a2 : ¬ 1540 < (b.size : Int)) (a3 : ¬ h < 20) (a4 : ¬ (b.size : Int) < h)
    (HPS : Hid (∀ W, Calls Tryz.prog 76 #[.int .i64 f, .int .i64 t, .int .i64 6, .int .i64 (b.size : Int)] W fun e w' => e = .returned (.tuple #[.string PS, .int .i64 0]) ∧ Below W.heap.size W w'))
    (r1 : ∀ W, (Op.stringOp .add PS b).run Tryz.prog W = .ok (.string (PS ++ b)) W)
    (HWH : Hid (∀ W, Calls Tryz.prog 66 #[.string (PS ++ b)] W fun e w' => e = .returned (.bool true) ∧ w' = W))
    (r2 : ∀ W, (Instr.slice 9 (.string b) (some (.int .i64 20)) (some (.int .i64 h)) none).run Tryz.prog W = .ok (.string OB) W)
    (HOD : Hid (∀ W, Calls Tryz.prog 77 #[.string OB] W fun e w' => ∃ v, e = .returned (.tuple #[.agg #[.int .i64 o.m, .int .i64 o.c, .int .i64 o.t, .int .i64 o.ec, .bool o.sd, .bool o.ok, .bool o.sp, v], .int .i64 0]) ∧ RgA W.heap.size w' v o.rs ∧ Below W.heap.size W w'))
    (HN0 : Hid (∀ W, Calls Tryz.prog 62 #[.string D0] W fun e w' => e = .returned (.int .i64 G.fr) ∧ w' = W)) (q0 : ∀ W, (Instr.slice 9 (.string b) none (some (.int .i64 2)) none).run Tryz.prog W = .ok (.string D0) W)
    (HN2 : Hid (∀ W, Calls Tryz.prog 62 #[.string D2] W fun e w' => e = .returned (.int .i64 G.dt) ∧ w' = W)) (q2 : ∀ W, (Instr.slice 9 (.string b) (some (.int .i64 2)) (some (.int .i64 4)) none).run Tryz.prog W = .ok (.string D2) W)
    (HN4 : Hid (∀ W, Calls Tryz.prog 62 #[.string D4] W fun e w' => e = .returned (.int .i64 G.sq) ∧ w' = W)) (q4 : ∀ W, (Instr.slice 9 (.string b) (some (.int .i64 4)) (some (.int .i64 8)) none).run Tryz.prog W = .ok (.string D4) W)
    (HN8 : Hid (∀ W, Calls Tryz.prog 62 #[.string D8] W fun e w' => e = .returned (.int .i64 G.ak) ∧ w' = W)) (q8 : ∀ W, (Instr.slice 9 (.string b) (some (.int .i64 8)) (some (.int .i64 12)) none).run Tryz.prog W = .ok (.string D8) W)
    (HN14 : Hid (∀ W, Calls Tryz.prog 62 #[.string D14] W fun e w' => e = .returned (.int .i64 G.wi) ∧ w' = W)) (q14 : ∀ W, (Instr.slice 9 (.string b) (some (.int .i64 14)) (some (.int .i64 16)) none).run Tryz.prog W = .ok (.string D14) W)
    (HN18 : Hid (∀ W, Calls Tryz.prog 62 #[.string D18] W fun e w' => e = .returned (.int .i64 G.ur) ∧ w' = W)) (q18 : ∀ W, (Instr.slice 9 (.string b) (some (.int .i64 18)) (some (.int .i64 20)) none).run Tryz.prog W = .ok (.string D18) W)
    (q13 : ∀ W, (Instr.index 9 (.string b) (.int .i64 13)).run Tryz.prog W = .ok (.int .u8 G.fl) W) (q14 : IntKind.i64.wrap G.fl = G.fl)
    (qd : ∀ W, (Instr.slice 9 (.string b) (some (.int .i64 h)) none none).run Tryz.prog W = .ok (.string G.da) W)
    (r5 : (BN % 16 != 0) = true) :
    Calls Tryz.prog 41 #[.int .i64 f, .int .i64 t, .string b] w fun e w' => e = .returned (.tuple #[.agg #[.int .i64 0, .int .i64 0, .int .i64 0, .int .i64 0, .int .i64 0, .int .i64 0, .int .i64 0, .int .i64 0, .int .i64 0, .int .i64 0, .int .i64 0, .bool false, .bool false, .bool false, .slice none 0 0, .string ⟨#[]⟩], .int .i64 80]) ∧ Below w.heap.size w w' := by
  have hR := At.box w #[.int .i64 0, .int .i64 0, .int .i64 0, .int .i64 0, .int .i64 0, .int .i64 0, .int .i64 0, .int .i64 0, .int .i64 0, .int .i64 0, .int .i64 0, .bool false, .bool false, .bool false, .slice none 0 0, .string ⟨#[]⟩] 34
  have hl := bel1 w (.cells #[.int .i64 0, .int .i64 0, .int .i64 0, .int .i64 0, .int .i64 0, .int .i64 0, .int .i64 0, .int .i64 0, .int .i64 0, .int .i64 0, .int .i64 0, .bool false, .bool false, .bool false, .slice none 0 0, .string ⟨#[]⟩] 34)
  have hz : ∀ W, (Instr.build 34 #[]).run Tryz.prog W = .ok (.agg #[.int .i64 0, .int .i64 0, .int .i64 0, .int .i64 0, .int .i64 0, .int .i64 0, .int .i64 0, .int .i64 0, .int .i64 0, .int .i64 0, .int .i64 0, .bool false, .bool false, .bool false, .slice none 0 0, .string ⟨#[]⟩]) W := fun W => run_build W 34 #[] _ (by kernel_rfl)
  go_enter Tryz.func41, Tryz.ntmps41
  go_wp2_with fail
  refine (rchk_t f _ hf).mono ?_
  rintro e w1 ⟨rfl, rfl⟩
  go_wp2_with fail
  refine (rchk_t t _ ht).mono ?_
  rintro e w1 ⟨rfl, rfl⟩
  go_wp2_with fail
  refine (HPS.out _).mono ?_
  rintro e w2 ⟨rfl, hb⟩
  replace hl := bt hl hb
  replace hR := hR.later hb
  clear hb
  clear HPS
  go_wp2_with fail
  refine (HWH.out _).mono ?_
  rintro e w3 ⟨rfl, rfl⟩
  clear HWH
  have hlt : w.heap.size < w3.heap.size := hR.1
  go_upto_region 11 with fail
  go_cut [11, 12] from 14 (fun q z W => ∃ (a0 : Option Addr) (cap0 B4 : Nat), q = .pointer (some ⟨B4, 0, none⟩) ∧ z = .int .i64 0 ∧ Below w.heap.size w W ∧ At W w.heap.size #[.int .i64 0, .int .i64 0, .int .i64 0, .int .i64 0, .int .i64 0, .int .i64 0, .int .i64 0, .int .i64 0, .int .i64 0, .int .i64 0, .int .i64 0, .bool false, .bool false, .bool false, .slice none 0 0, .string ⟨#[]⟩] ∧ At W B4 #[.int .i64 o.m, .int .i64 o.c, .int .i64 o.t, .int .i64 o.ec, .bool o.sd, .bool o.ok, .bool o.sp, (.slice a0 o.rs.length cap0)] ∧ RgA w3.heap.size W (.slice a0 o.rs.length cap0) o.rs)
  case first =>
    go_wp2_with fail
    refine (HOD.out _).mono ?_
    rintro e w4 ⟨v, rfl, hvr, hb⟩
    obtain ⟨a0, cap0, hve, -⟩ := id hvr
    subst hve
    replace hl := bt hl hb
    replace hR := hR.later hb
    clear hb HOD
    have hbx := bel1 w4 (.cells #[.int .i64 o.m, .int .i64 o.c, .int .i64 o.t, .int .i64 o.ec, .bool o.sd, .bool o.ok, .bool o.sp, (.slice a0 o.rs.length cap0)] 32)
    have hO := At.box w4 #[.int .i64 o.m, .int .i64 o.c, .int .i64 o.t, .int .i64 o.ec, .bool o.sd, .bool o.ok, .bool o.sp, (.slice a0 o.rs.length cap0)] 32
    go_wp2
    go_meet
    case rel => exact ⟨a0, cap0, w4.heap.size, rfl, rfl, bt hl hbx, hR.later hbx, hO, hvr.later hbx⟩
  case rest =>
  clear hl hR HOD
  obtain ⟨a0, cap0, B4, rfl, rfl, hl, hR, hO, hvr⟩ := hcut
  have HC : Hid (Below w.heap.size w wc ∧ At wc w.heap.size #[.int .i64 0, .int .i64 0, .int .i64 0, .int .i64 0, .int .i64 0, .int .i64 0, .int .i64 0, .int .i64 0, .int .i64 0, .int .i64 0, .int .i64 0, .bool false, .bool false, .bool false, .slice none 0 0, .string ⟨#[]⟩] ∧ At wc B4 #[.int .i64 o.m, .int .i64 o.c, .int .i64 o.t, .int .i64 o.ec, .bool o.sd, .bool o.ok, .bool o.sp, (.slice a0 o.rs.length cap0)] ∧ RgA w3.heap.size wc (.slice a0 o.rs.length cap0) o.rs ∧ Below wc.heap.size wc wc.drew) := ⟨hl, hR, hO, hvr, (Below.refl _ _).drew⟩
  clear hl hR hO hvr
  go_wp2
  refine wp_region_any (by kernel_rfl) ?_
  refine region_facts_end (fun W => Below w.heap.size w W ∧ At W w.heap.size #[.int .i64 0, .int .i64 0, .int .i64 0, .int .i64 0, .int .i64 0, .int .i64 0, .int .i64 0, .int .i64 0, .int .i64 0, .int .i64 0, .int .i64 0, .bool false, .bool false, .bool false, .slice none 0 0, .string ⟨#[]⟩] ∧ At W B4 #[.int .i64 o.m, .int .i64 o.c, .int .i64 o.t, .int .i64 o.ec, .bool o.sd, .bool o.ok, .bool o.sp, (.slice a0 o.rs.length cap0)] ∧ RgA w3.heap.size W (.slice a0 o.rs.length cap0) o.rs ∧ Below wc.heap.size wc W) (GE (fun qq => match qq with | 0 => .string b | 1 => .string D0 | 2 => .int .i64 G.fr | 3 => .string b | 4 => .string D2 | 5 => .int .i64 G.dt | 6 => .string b | 7 => .string D4 | 8 => .int .i64 G.sq | 9 => .string b | 10 => .string D8 | 11 => .int .i64 G.ak | 12 => .string b | 13 => .int .u8 G.fl | 14 => .int .i64 G.fl | 15 => .string b | 16 => .string D14 | 17 => .int .i64 G.wi | 18 => .string b | 19 => .string D18 | 20 => .int .i64 G.ur | 21 => .agg #[.int .i64 o.m, .int .i64 o.c, .int .i64 o.t, .int .i64 o.ec, .bool o.sd, .bool o.ok, .bool o.sp, (.slice a0 o.rs.length cap0)] | 22 => .string b | 23 => .int .i64 h | 24 => .string G.da | 25 => .agg #[.int .i64 G.fr, .int .i64 G.dt, .int .i64 G.sq, .int .i64 G.ak, .int .i64 G.fl, .int .i64 G.wi, .int .i64 G.ur, .int .i64 o.m, .int .i64 o.c, .int .i64 o.t, .int .i64 o.ec, .bool o.sd, .bool o.ok, .bool o.sp, (.slice a0 o.rs.length cap0), .string G.da] | _ => undef) (fun qq => match qq with | 26 => some (fun v W => ∃ p, v = .pointer (some ⟨p, 0, none⟩) ∧ wc.heap.size ≤ p ∧ At W p #[.int .i64 0, .int .i64 0, .int .i64 0, .int .i64 0, .int .i64 0, .int .i64 0, .int .i64 0, .int .i64 0, .int .i64 0, .int .i64 0, .int .i64 0, .bool false, .bool false, .bool false, .slice none 0 0, .string ⟨#[]⟩]) | _ => none)) (n := 108) 27 8 (by kernel_rfl) (by kernel_rfl) rfl (by kernel_rfl) (GE_later _ _ (by
      intro i F hF v w w' h hb
      split at hF
      · obtain rfl := Option.some.inj hF
        obtain ⟨p, e, h0, h1⟩ := h
        exact ⟨p, e, h0, h1.later hb⟩
      · cases hF)) ?_ ?_ ⟨bt HC.out.1 HC.out.2.2.2.2, HC.out.2.1.later HC.out.2.2.2.2, HC.out.2.2.1.later HC.out.2.2.2.2, HC.out.2.2.2.1.later HC.out.2.2.2.2, HC.out.2.2.2.2⟩ (Nat.le_refl _)
  · clear HC
    refine ⟨?_, ?_, ?_, ?_, ?_, ?_, ?_, ?_, ?_, ?_, ?_, ?_, ?_, ?_, ?_, ?_, ?_, ?_, ?_, ?_, ?_, ?_, ?_, ?_, ?_, ?_, ?_, trivial⟩
    · intro ac w1 hS hT hB hD K hK
      rw [if_pos (by rfl)]
      have d2 : ac.tmps.getD 2 undef = .string b := hB 2 (by kernel_rfl)
      clear hB hD hT
      go_simp
      exact hK _ _ hS (Below.refl _ _) rfl
    · intro ac w1 hS hT hB hD K hK
      rw [if_pos (by rfl)]
      have d71 : ac.tmps.getD 71 undef = .string b := hD ⟨0, .data⟩ (by simp) rfl _ 71 rfl rfl
      clear hB hD hT
      go_simp
      exact hK _ _ hS (Below.refl _ _) rfl
    · intro ac w1 hS hT hB hD K hK
      rw [if_pos (by rfl)]
      have d72 : ac.tmps.getD 72 undef = .string D0 := hD ⟨1, .data⟩ (by simp) rfl _ 72 rfl rfl
      clear hB hD hT
      go_simp
      refine (HN0.out _).mono ?_
      rintro e w' ⟨rfl, rfl⟩
      exact hK _ _ hS (Below.refl _ _) rfl
    · intro ac w1 hS hT hB hD K hK
      rw [if_pos (by rfl)]
      have d2 : ac.tmps.getD 2 undef = .string b := hB 2 (by kernel_rfl)
      clear hB hD hT
      go_simp
      exact hK _ _ hS (Below.refl _ _) rfl
    · intro ac w1 hS hT hB hD K hK
      rw [if_pos (by rfl)]
      have d74 : ac.tmps.getD 74 undef = .string b := hD ⟨3, .data⟩ (by simp) rfl _ 74 rfl rfl
      clear hB hD hT
      go_simp
      exact hK _ _ hS (Below.refl _ _) rfl
    · intro ac w1 hS hT hB hD K hK
      rw [if_pos (by rfl)]
      have d75 : ac.tmps.getD 75 undef = .string D2 := hD ⟨4, .data⟩ (by simp) rfl _ 75 rfl rfl
      clear hB hD hT
      go_simp
      refine (HN2.out _).mono ?_
      rintro e w' ⟨rfl, rfl⟩
      exact hK _ _ hS (Below.refl _ _) rfl
    · intro ac w1 hS hT hB hD K hK
      rw [if_pos (by rfl)]
      have d2 : ac.tmps.getD 2 undef = .string b := hB 2 (by kernel_rfl)
      clear hB hD hT
      go_simp
      exact hK _ _ hS (Below.refl _ _) rfl
    · intro ac w1 hS hT hB hD K hK
      rw [if_pos (by rfl)]
      have d77 : ac.tmps.getD 77 undef = .string b := hD ⟨6, .data⟩ (by simp) rfl _ 77 rfl rfl
      clear hB hD hT
      go_simp
      exact hK _ _ hS (Below.refl _ _) rfl
    · intro ac w1 hS hT hB hD K hK
      rw [if_pos (by rfl)]
      have d78 : ac.tmps.getD 78 undef = .string D4 := hD ⟨7, .data⟩ (by simp) rfl _ 78 rfl rfl
      clear hB hD hT
      go_simp
      refine (HN4.out _).mono ?_
      rintro e w' ⟨rfl, rfl⟩
      exact hK _ _ hS (Below.refl _ _) rfl
    · intro ac w1 hS hT hB hD K hK
      rw [if_pos (by rfl)]
      have d2 : ac.tmps.getD 2 undef = .string b := hB 2 (by kernel_rfl)
      clear hB hD hT
      go_simp
      exact hK _ _ hS (Below.refl _ _) rfl
    · intro ac w1 hS hT hB hD K hK
      rw [if_pos (by rfl)]
      have d80 : ac.tmps.getD 80 undef = .string b := hD ⟨9, .data⟩ (by simp) rfl _ 80 rfl rfl
      clear hB hD hT
      go_simp
      exact hK _ _ hS (Below.refl _ _) rfl
    · intro ac w1 hS hT hB hD K hK
      rw [if_pos (by rfl)]
      have d81 : ac.tmps.getD 81 undef = .string D8 := hD ⟨10, .data⟩ (by simp) rfl _ 81 rfl rfl
      clear hB hD hT
      go_simp
      refine (HN8.out _).mono ?_
      rintro e w' ⟨rfl, rfl⟩
      exact hK _ _ hS (Below.refl _ _) rfl
    · intro ac w1 hS hT hB hD K hK
      rw [if_pos (by rfl)]
      have d2 : ac.tmps.getD 2 undef = .string b := hB 2 (by kernel_rfl)
      clear hB hD hT
      go_simp
      exact hK _ _ hS (Below.refl _ _) rfl
    · intro ac w1 hS hT hB hD K hK
      rw [if_pos (by rfl)]
      have d83 : ac.tmps.getD 83 undef = .string b := hD ⟨12, .data⟩ (by simp) rfl _ 83 rfl rfl
      clear hB hD hT
      go_simp
      exact hK _ _ hS (Below.refl _ _) rfl
    · intro ac w1 hS hT hB hD K hK
      rw [if_pos (by rfl)]
      have d84 : ac.tmps.getD 84 undef = .int .u8 G.fl := hD ⟨13, .data⟩ (by simp) rfl _ 84 rfl rfl
      clear hB hD hT
      go_simp
      exact hK _ _ hS (Below.refl _ _) rfl
    · intro ac w1 hS hT hB hD K hK
      rw [if_pos (by rfl)]
      have d2 : ac.tmps.getD 2 undef = .string b := hB 2 (by kernel_rfl)
      clear hB hD hT
      go_simp
      exact hK _ _ hS (Below.refl _ _) rfl
    · intro ac w1 hS hT hB hD K hK
      rw [if_pos (by rfl)]
      have d86 : ac.tmps.getD 86 undef = .string b := hD ⟨15, .data⟩ (by simp) rfl _ 86 rfl rfl
      clear hB hD hT
      go_simp
      exact hK _ _ hS (Below.refl _ _) rfl
    · intro ac w1 hS hT hB hD K hK
      rw [if_pos (by rfl)]
      have d87 : ac.tmps.getD 87 undef = .string D14 := hD ⟨16, .data⟩ (by simp) rfl _ 87 rfl rfl
      clear hB hD hT
      go_simp
      refine (HN14.out _).mono ?_
      rintro e w' ⟨rfl, rfl⟩
      exact hK _ _ hS (Below.refl _ _) rfl
    · intro ac w1 hS hT hB hD K hK
      rw [if_pos (by rfl)]
      have d2 : ac.tmps.getD 2 undef = .string b := hB 2 (by kernel_rfl)
      clear hB hD hT
      go_simp
      exact hK _ _ hS (Below.refl _ _) rfl
    · intro ac w1 hS hT hB hD K hK
      rw [if_pos (by rfl)]
      have d89 : ac.tmps.getD 89 undef = .string b := hD ⟨18, .data⟩ (by simp) rfl _ 89 rfl rfl
      clear hB hD hT
      go_simp
      exact hK _ _ hS (Below.refl _ _) rfl
    · intro ac w1 hS hT hB hD K hK
      rw [if_pos (by rfl)]
      have d90 : ac.tmps.getD 90 undef = .string D18 := hD ⟨19, .data⟩ (by simp) rfl _ 90 rfl rfl
      clear hB hD hT
      go_simp
      refine (HN18.out _).mono ?_
      rintro e w' ⟨rfl, rfl⟩
      exact hK _ _ hS (Below.refl _ _) rfl
    · intro ac w1 hS hT hB hD K hK
      rw [if_pos (by rfl)]
      have d11 : ac.tmps.getD 11 undef = .pointer (some ⟨B4, 0, none⟩) := hB 11 (by kernel_rfl)
      clear hB hD hT
      exact wp_load_mid 32 (.tmp 11) rfl B4 0 d11 _ _ hS.2.2.1.range Tryz.underlying32 rfl size32 (hK _ _ hS (Below.refl _ _) rfl)
    · intro ac w1 hS hT hB hD K hK
      rw [if_pos (by rfl)]
      have d2 : ac.tmps.getD 2 undef = .string b := hB 2 (by kernel_rfl)
      clear hB hD hT
      go_simp
      exact hK _ _ hS (Below.refl _ _) rfl
    · intro ac w1 hS hT hB hD K hK
      rw [if_pos (by rfl)]
      have d8 : ac.tmps.getD 8 undef = .int .i64 h := hB 8 (by kernel_rfl)
      clear hB hD hT
      go_simp
      exact hK _ _ hS (Below.refl _ _) rfl
    · intro ac w1 hS hT hB hD K hK
      rw [if_pos (by rfl)]
      have d93 : ac.tmps.getD 93 undef = .string b := hD ⟨22, .data⟩ (by simp) rfl _ 93 rfl rfl
      have d94 : ac.tmps.getD 94 undef = .int .i64 h := hD ⟨23, .data⟩ (by simp) rfl _ 94 rfl rfl
      clear hB hD hT
      go_simp
      exact hK _ _ hS (Below.refl _ _) rfl
    · intro ac w1 hS hT hB hD K hK
      rw [if_pos (by rfl)]
      have d73 : ac.tmps.getD 73 undef = .int .i64 G.fr := hD ⟨2, .data⟩ (by simp) rfl _ 73 rfl rfl
      have d76 : ac.tmps.getD 76 undef = .int .i64 G.dt := hD ⟨5, .data⟩ (by simp) rfl _ 76 rfl rfl
      have d79 : ac.tmps.getD 79 undef = .int .i64 G.sq := hD ⟨8, .data⟩ (by simp) rfl _ 79 rfl rfl
      have d82 : ac.tmps.getD 82 undef = .int .i64 G.ak := hD ⟨11, .data⟩ (by simp) rfl _ 82 rfl rfl
      have d85 : ac.tmps.getD 85 undef = .int .i64 G.fl := hD ⟨14, .data⟩ (by simp) rfl _ 85 rfl rfl
      have d88 : ac.tmps.getD 88 undef = .int .i64 G.wi := hD ⟨17, .data⟩ (by simp) rfl _ 88 rfl rfl
      have d91 : ac.tmps.getD 91 undef = .int .i64 G.ur := hD ⟨20, .data⟩ (by simp) rfl _ 91 rfl rfl
      have d92 : ac.tmps.getD 92 undef = .agg #[.int .i64 o.m, .int .i64 o.c, .int .i64 o.t, .int .i64 o.ec, .bool o.sd, .bool o.ok, .bool o.sp, (.slice a0 o.rs.length cap0)] := hD ⟨21, .data⟩ (by simp) rfl _ 92 rfl rfl
      have d95 : ac.tmps.getD 95 undef = .string G.da := hD ⟨24, .data⟩ (by simp) rfl _ 95 rfl rfl
      clear hB hD hT
      exact wp_build9 34 (.tmp 73) (.tmp 76) (.tmp 79) (.tmp 82) (.tmp 85) (.tmp 88) (.tmp 91) (.tmp 92) (.tmp 95) _ _ _ _ _ _ _ _ _ _ rfl d73 d76 d79 d82 d85 d88 d91 d92 d95 (by kernel_rfl) (hK _ _ hS (Below.refl _ _) rfl)
    · intro ac w1 hS hT hB hD K hK
      rw [if_pos (by rfl)]
      clear hB hD hT
      go_simp
      have hb := bel1 w1 (.cells #[.int .i64 0, .int .i64 0, .int .i64 0, .int .i64 0, .int .i64 0, .int .i64 0, .int .i64 0, .int .i64 0, .int .i64 0, .int .i64 0, .int .i64 0, .bool false, .bool false, .bool false, .slice none 0 0, .string ⟨#[]⟩] 34)
      exact hK _ _ ⟨bt hS.1 hb, hS.2.1.later hb, hS.2.2.1.later hb, hS.2.2.2.1.later hb, bt hS.2.2.2.2 hb⟩ hb ⟨w1.heap.size, rfl, hS.2.2.2.2.size, At.box w1 #[.int .i64 0, .int .i64 0, .int .i64 0, .int .i64 0, .int .i64 0, .int .i64 0, .int .i64 0, .int .i64 0, .int .i64 0, .int .i64 0, .int .i64 0, .bool false, .bool false, .bool false, .slice none 0 0, .string ⟨#[]⟩] 34⟩
  · intro ac w9 hS hT hdf hB hF
    have hfr : ac.tmps = #[.int .i64 f, .int .i64 t, .string b, undef, undef, undef, .pointer (some ⟨w.heap.size, 0, none⟩), .int .i64 0, .int .i64 h, .string PS, .int .i64 0, .pointer (some ⟨B4, 0, none⟩), .int .i64 0, (ac.tmps.getD 13 undef), u14, u15, u16, u17, u18, u19, u20, u21, u22, u23, u24, u25, u26, u27, u28, u29, u30, u31, u32, u33, u34, u35, u36, u37, u38, u39, u40, u41, u42, u43, u44, u45, u46, u47, u48, u49, u50, u51, u52, u53, u54, u55, u56, u57, u58, u59, u60, u61, u62, u63, u64, u65, u66, .int .i64 0, .bool false, u69, u70, (ac.tmps.getD 71 undef), (ac.tmps.getD 72 undef), (ac.tmps.getD 73 undef), (ac.tmps.getD 74 undef), (ac.tmps.getD 75 undef), (ac.tmps.getD 76 undef), (ac.tmps.getD 77 undef), (ac.tmps.getD 78 undef), (ac.tmps.getD 79 undef), (ac.tmps.getD 80 undef), (ac.tmps.getD 81 undef), (ac.tmps.getD 82 undef), (ac.tmps.getD 83 undef), (ac.tmps.getD 84 undef), (ac.tmps.getD 85 undef), (ac.tmps.getD 86 undef), (ac.tmps.getD 87 undef), (ac.tmps.getD 88 undef), (ac.tmps.getD 89 undef), (ac.tmps.getD 90 undef), (ac.tmps.getD 91 undef), (ac.tmps.getD 92 undef), (ac.tmps.getD 93 undef), (ac.tmps.getD 94 undef), (ac.tmps.getD 95 undef), (ac.tmps.getD 96 undef), u97, u98, u99, u100, u101, u102, u103, u104, u105, u106, u107] := (frame_eq hT rfl hB).trans (by kernel_rfl)
    obtain ⟨T, df⟩ := ac
    have s96 : T.getD 96 undef = .agg #[.int .i64 G.fr, .int .i64 G.dt, .int .i64 G.sq, .int .i64 G.ak, .int .i64 G.fl, .int .i64 G.wi, .int .i64 G.ur, .int .i64 o.m, .int .i64 o.c, .int .i64 o.t, .int .i64 o.ec, .bool o.sd, .bool o.ok, .bool o.sp, (.slice a0 o.rs.length cap0), .string G.da] := hF 25 _ 96 (by decide) rfl rfl
    obtain ⟨p, s13, hp, hPP⟩ : ∃ p, T.getD 13 undef = .pointer (some ⟨p, 0, none⟩) ∧ wc.heap.size ≤ p ∧ At w9 p #[.int .i64 0, .int .i64 0, .int .i64 0, .int .i64 0, .int .i64 0, .int .i64 0, .int .i64 0, .int .i64 0, .int .i64 0, .int .i64 0, .int .i64 0, .bool false, .bool false, .bool false, .slice none 0 0, .string ⟨#[]⟩] := hF 26 _ 13 (by decide) rfl rfl
    have sdf : df = [] := hdf
    simp only at hfr
    clear hB hF hT hdf HN0 HN2 HN4 HN8 HN14 HN18
    generalize T.getD 71 undef = y71 at *
    generalize T.getD 72 undef = y72 at *
    generalize T.getD 73 undef = y73 at *
    generalize T.getD 74 undef = y74 at *
    generalize T.getD 75 undef = y75 at *
    generalize T.getD 76 undef = y76 at *
    generalize T.getD 77 undef = y77 at *
    generalize T.getD 78 undef = y78 at *
    generalize T.getD 79 undef = y79 at *
    generalize T.getD 80 undef = y80 at *
    generalize T.getD 81 undef = y81 at *
    generalize T.getD 82 undef = y82 at *
    generalize T.getD 83 undef = y83 at *
    generalize T.getD 84 undef = y84 at *
    generalize T.getD 85 undef = y85 at *
    generalize T.getD 86 undef = y86 at *
    generalize T.getD 87 undef = y87 at *
    generalize T.getD 88 undef = y88 at *
    generalize T.getD 89 undef = y89 at *
    generalize T.getD 90 undef = y90 at *
    generalize T.getD 91 undef = y91 at *
    generalize T.getD 92 undef = y92 at *
    generalize T.getD 93 undef = y93 at *
    generalize T.getD 94 undef = y94 at *
    generalize T.getD 95 undef = y95 at *
    generalize T.getD 96 undef = y96 at *
    generalize T.getD 13 undef = y13 at *
    subst hfr s96 s13 sdf
    have hbx : Below wc.heap.size wc (w9.setCells p 0 [.int .i64 G.fr, .int .i64 G.dt, .int .i64 G.sq, .int .i64 G.ak, .int .i64 G.fl, .int .i64 G.wi, .int .i64 G.ur, .int .i64 o.m, .int .i64 o.c, .int .i64 o.t, .int .i64 o.ec, .bool o.sd, .bool o.ok, .bool o.sp, (.slice a0 o.rs.length cap0), .string G.da]) := Below.setCells hp _ _ _ hS.2.2.2.2
    have hO : At (w9.setCells p 0 [.int .i64 G.fr, .int .i64 G.dt, .int .i64 G.sq, .int .i64 G.ak, .int .i64 G.fl, .int .i64 G.wi, .int .i64 G.ur, .int .i64 o.m, .int .i64 o.c, .int .i64 o.t, .int .i64 o.ec, .bool o.sd, .bool o.ok, .bool o.sp, (.slice a0 o.rs.length cap0), .string G.da]) p #[.int .i64 G.fr, .int .i64 G.dt, .int .i64 G.sq, .int .i64 G.ak, .int .i64 G.fl, .int .i64 G.wi, .int .i64 G.ur, .int .i64 o.m, .int .i64 o.c, .int .i64 o.t, .int .i64 o.ec, .bool o.sd, .bool o.ok, .bool o.sp, (.slice a0 o.rs.length cap0), .string G.da] := At.whole (vs := #[.int .i64 G.fr, .int .i64 G.dt, .int .i64 G.sq, .int .i64 G.ak, .int .i64 G.fl, .int .i64 G.wi, .int .i64 G.ur, .int .i64 o.m, .int .i64 o.c, .int .i64 o.t, .int .i64 o.ec, .bool o.sd, .bool o.ok, .bool o.sp, (.slice a0 o.rs.length cap0), .string G.da]) hPP rfl
    have hl := bt HC.out.1 hbx
    have hR := HC.out.2.1.later hbx
    have hvr := HC.out.2.2.2.1.later hbx
    clear HC hS
    intro Kc hKc
    rw [if_pos (by rfl)]
    refine wp_store_mid 34 (.tmp 13) (.tmp 96) (by rfl) p 0 #[.int .i64 G.fr, .int .i64 G.dt, .int .i64 G.sq, .int .i64 G.ak, .int .i64 G.fl, .int .i64 G.wi, .int .i64 G.ur, .int .i64 o.m, .int .i64 o.c, .int .i64 o.t, .int .i64 o.ec, .bool o.sd, .bool o.ok, .bool o.sp, (.slice a0 o.rs.length cap0), .string G.da] (by rfl) (by rfl) hPP.there size34 (all_oneCell_toArray (cs := [.int .i64 G.fr, .int .i64 G.dt, .int .i64 G.sq, .int .i64 G.ak, .int .i64 G.fl, .int .i64 G.wi, .int .i64 G.ur, .int .i64 o.m, .int .i64 o.c, .int .i64 o.t, .int .i64 o.ec, .bool o.sd, .bool o.ok, .bool o.sp, (.slice a0 o.rs.length cap0), .string G.da]) (by simp only [List.mem_cons, List.not_mem_nil, or_false, forall_eq_or_imp, forall_eq]; exact ⟨rfl, rfl, rfl, rfl, rfl, rfl, rfl, rfl, rfl, rfl, rfl, rfl, rfl, rfl, rfl, rfl⟩)) ?_
    apply hKc
    clear hKc Kc
    refine TailOk_nil ?_
    clear hPP hbx hp
    go_upto_region 15 with fail
    generalize w9.setCells p 0 [.int .i64 G.fr, .int .i64 G.dt, .int .i64 G.sq, .int .i64 G.ak, .int .i64 G.fl, .int .i64 G.wi, .int .i64 G.ur, .int .i64 o.m, .int .i64 o.c, .int .i64 o.t, .int .i64 o.ec, .bool o.sd, .bool o.ok, .bool o.sp, (.slice a0 o.rs.length cap0), .string G.da] = w10 at *
    go_wp2_with (refine wpList_store_mid (by rfl) 34 _ _ (by rfl) (w.heap.size) 0 #[.int .i64 0, .int .i64 0, .int .i64 0, .int .i64 0, .int .i64 0, .int .i64 0, .int .i64 0, .int .i64 0, .int .i64 0, .int .i64 0, .int .i64 0, .bool false, .bool false, .bool false, .slice none 0 0, .string ⟨#[]⟩] (by rfl) (by rfl) hR.there size34 (by simp [Value.oneCell']) ?_)
    go_wp2
    exact bodyPost_ret (v := .tuple #[.agg #[.int .i64 0, .int .i64 0, .int .i64 0, .int .i64 0, .int .i64 0, .int .i64 0, .int .i64 0, .int .i64 0, .int .i64 0, .int .i64 0, .int .i64 0, .bool false, .bool false, .bool false, .slice none 0 0, .string ⟨#[]⟩], .int .i64 80]) (ret_cell (by rfl) (At.whole (vs := #[.int .i64 0, .int .i64 0, .int .i64 0, .int .i64 0, .int .i64 0, .int .i64 0, .int .i64 0, .int .i64 0, .int .i64 0, .int .i64 0, .int .i64 0, .bool false, .bool false, .bool false, .slice none 0 0, .string ⟨#[]⟩]) hR rfl) rfl (by rfl) (by rfl)) (by rfl) ⟨rfl, Below.setCells (Nat.le_refl _) _ _ _ hl⟩
set_option maxHeartbeats 8000000 in
theorem rdecs_6 (f t : Int) (b : ByteArray) (PS OB D0 D2 D4 D8 D14 D18 : ByteArray) (BN h : Int) (o : Op) (G : Sg) (w : World)
    (hf : numB f = true) (ht : numB t = true)
    (r3 : ∀ W, (Instr.index 9 (.string b) (.int .i64 12)).run Tryz.prog W = .ok (.int .u8 BN) W) (b0 : 0 ≤ BN) (b1 : BN ≤ 255) (e1 : IntKind.i64.wrap (BN / 16) = BN / 16) (e2 : IntKind.i64.wrap (BN / 16 * 4) = h) (a1 : ¬ (b.size : Int) < 20) (a2 : ¬ 1540 < (b.size : Int)) (a3 : ¬ h < 20) (a4 : ¬ (b.size : Int) < h)
    (HPS : Hid (∀ W, Calls Tryz.prog 76 #[.int .i64 f, .int .i64 t, .int .i64 6, .int .i64 (b.size : Int)] W fun e w' => e = .returned (.tuple #[.string PS, .int .i64 0]) ∧ Below W.heap.size W w'))
    (r1 : ∀ W, (Op.stringOp .add PS b).run Tryz.prog W = .ok (.string (PS ++ b)) W)
    (HWH : Hid (∀ W, Calls Tryz.prog 66 #[.string (PS ++ b)] W fun e w' => e = .returned (.bool true) ∧ w' = W))
    (r2 : ∀ W, (Instr.slice 9 (.string b) (some (.int .i64 20)) (some (.int .i64 h)) none).run Tryz.prog W = .ok (.string OB) W)
    (HOD : Hid (∀ W, Calls Tryz.prog 77 #[.string OB] W fun e w' => ∃ v, e = .returned (.tuple #[.agg #[.int .i64 o.m, .int .i64 o.c, .int .i64 o.t, .int .i64 o.ec, .bool o.sd, .bool o.ok, .bool o.sp, v], .int .i64 0]) ∧ RgA W.heap.size w' v o.rs ∧ Below W.heap.size W w'))
    (HN0 : Hid (∀ W, Calls Tryz.prog 62 #[.string D0] W fun e w' => e = .returned (.int .i64 G.fr) ∧ w' = W)) (q0 : ∀ W, (Instr.slice 9 (.string b) none (some (.int .i64 2)) none).run Tryz.prog W = .ok (.string D0) W)
    (HN2 : Hid (∀ W, Calls Tryz.prog 62 #[.string D2] W fun e w' => e = .returned (.int .i64 G.dt) ∧ w' = W)) (q2 : ∀ W, (Instr.slice 9 (.string b) (some (.int .i64 2)) (some (.int .i64 4)) none).run Tryz.prog W = .ok (.string D2) W)
    (HN4 : Hid (∀ W, Calls Tryz.prog 62 #[.string D4] W fun e w' => e = .returned (.int .i64 G.sq) ∧ w' = W)) (q4 : ∀ W, (Instr.slice 9 (.string b) (some (.int .i64 4)) (some (.int .i64 8)) none).run Tryz.prog W = .ok (.string D4) W)
    (HN8 : Hid (∀ W, Calls Tryz.prog 62 #[.string D8] W fun e w' => e = .returned (.int .i64 G.ak) ∧ w' = W)) (q8 : ∀ W, (Instr.slice 9 (.string b) (some (.int .i64 8)) (some (.int .i64 12)) none).run Tryz.prog W = .ok (.string D8) W)
    (HN14 : Hid (∀ W, Calls Tryz.prog 62 #[.string D14] W fun e w' => e = .returned (.int .i64 G.wi) ∧ w' = W)) (q14 : ∀ W, (Instr.slice 9 (.string b) (some (.int .i64 14)) (some (.int .i64 16)) none).run Tryz.prog W = .ok (.string D14) W)
    (HN18 : Hid (∀ W, Calls Tryz.prog 62 #[.string D18] W fun e w' => e = .returned (.int .i64 G.ur) ∧ w' = W)) (q18 : ∀ W, (Instr.slice 9 (.string b) (some (.int .i64 18)) (some (.int .i64 20)) none).run Tryz.prog W = .ok (.string D18) W)
    (q13 : ∀ W, (Instr.index 9 (.string b) (.int .i64 13)).run Tryz.prog W = .ok (.int .u8 G.fl) W) (q14 : IntKind.i64.wrap G.fl = G.fl)
    (qd : ∀ W, (Instr.slice 9 (.string b) (some (.int .i64 h)) none none).run Tryz.prog W = .ok (.string G.da) W)
    (r5 : (BN % 16 != 0) = false)
    (HMY : Hid (∀ W v, Rgs W v o.rs → Calls Tryz.prog 78 #[.agg #[.int .i64 G.fr, .int .i64 G.dt, .int .i64 G.sq, .int .i64 G.ak, .int .i64 G.fl, .int .i64 G.wi, .int .i64 G.ur, .int .i64 o.m, .int .i64 o.c, .int .i64 o.t, .int .i64 o.ec, .bool o.sd, .bool o.ok, .bool o.sp, v, .string G.da]] W fun e w' => e = .returned (.int .i64 80) ∧ Below W.heap.size W w')) :
    Calls Tryz.prog 41 #[.int .i64 f, .int .i64 t, .string b] w fun e w' => e = .returned (.tuple #[.agg #[.int .i64 0, .int .i64 0, .int .i64 0, .int .i64 0, .int .i64 0, .int .i64 0, .int .i64 0, .int .i64 0, .int .i64 0, .int .i64 0, .int .i64 0, .bool false, .bool false, .bool false, .slice none 0 0, .string ⟨#[]⟩], .int .i64 80]) ∧ Below w.heap.size w w' := by
  have hR := At.box w #[.int .i64 0, .int .i64 0, .int .i64 0, .int .i64 0, .int .i64 0, .int .i64 0, .int .i64 0, .int .i64 0, .int .i64 0, .int .i64 0, .int .i64 0, .bool false, .bool false, .bool false, .slice none 0 0, .string ⟨#[]⟩] 34
  have hl := bel1 w (.cells #[.int .i64 0, .int .i64 0, .int .i64 0, .int .i64 0, .int .i64 0, .int .i64 0, .int .i64 0, .int .i64 0, .int .i64 0, .int .i64 0, .int .i64 0, .bool false, .bool false, .bool false, .slice none 0 0, .string ⟨#[]⟩] 34)
  have hz : ∀ W, (Instr.build 34 #[]).run Tryz.prog W = .ok (.agg #[.int .i64 0, .int .i64 0, .int .i64 0, .int .i64 0, .int .i64 0, .int .i64 0, .int .i64 0, .int .i64 0, .int .i64 0, .int .i64 0, .int .i64 0, .bool false, .bool false, .bool false, .slice none 0 0, .string ⟨#[]⟩]) W := fun W => run_build W 34 #[] _ (by kernel_rfl)
  go_enter Tryz.func41, Tryz.ntmps41
  go_wp2_with fail
  refine (rchk_t f _ hf).mono ?_
  rintro e w1 ⟨rfl, rfl⟩
  go_wp2_with fail
  refine (rchk_t t _ ht).mono ?_
  rintro e w1 ⟨rfl, rfl⟩
  go_wp2_with fail
  refine (HPS.out _).mono ?_
  rintro e w2 ⟨rfl, hb⟩
  replace hl := bt hl hb
  replace hR := hR.later hb
  clear hb
  clear HPS
  go_wp2_with fail
  refine (HWH.out _).mono ?_
  rintro e w3 ⟨rfl, rfl⟩
  clear HWH
  have hlt : w.heap.size < w3.heap.size := hR.1
  go_upto_region 11 with fail
  go_cut [11, 12] from 14 (fun q z W => ∃ (a0 : Option Addr) (cap0 B4 : Nat), q = .pointer (some ⟨B4, 0, none⟩) ∧ z = .int .i64 0 ∧ Below w.heap.size w W ∧ At W w.heap.size #[.int .i64 0, .int .i64 0, .int .i64 0, .int .i64 0, .int .i64 0, .int .i64 0, .int .i64 0, .int .i64 0, .int .i64 0, .int .i64 0, .int .i64 0, .bool false, .bool false, .bool false, .slice none 0 0, .string ⟨#[]⟩] ∧ At W B4 #[.int .i64 o.m, .int .i64 o.c, .int .i64 o.t, .int .i64 o.ec, .bool o.sd, .bool o.ok, .bool o.sp, (.slice a0 o.rs.length cap0)] ∧ RgA w3.heap.size W (.slice a0 o.rs.length cap0) o.rs)
  case first =>
    go_wp2_with fail
    refine (HOD.out _).mono ?_
    rintro e w4 ⟨v, rfl, hvr, hb⟩
    obtain ⟨a0, cap0, hve, -⟩ := id hvr
    subst hve
    replace hl := bt hl hb
    replace hR := hR.later hb
    clear hb HOD
    have hbx := bel1 w4 (.cells #[.int .i64 o.m, .int .i64 o.c, .int .i64 o.t, .int .i64 o.ec, .bool o.sd, .bool o.ok, .bool o.sp, (.slice a0 o.rs.length cap0)] 32)
    have hO := At.box w4 #[.int .i64 o.m, .int .i64 o.c, .int .i64 o.t, .int .i64 o.ec, .bool o.sd, .bool o.ok, .bool o.sp, (.slice a0 o.rs.length cap0)] 32
    go_wp2
    go_meet
    case rel => exact ⟨a0, cap0, w4.heap.size, rfl, rfl, bt hl hbx, hR.later hbx, hO, hvr.later hbx⟩
  case rest =>
  clear hl hR HOD
  obtain ⟨a0, cap0, B4, rfl, rfl, hl, hR, hO, hvr⟩ := hcut
  have HC : Hid (Below w.heap.size w wc ∧ At wc w.heap.size #[.int .i64 0, .int .i64 0, .int .i64 0, .int .i64 0, .int .i64 0, .int .i64 0, .int .i64 0, .int .i64 0, .int .i64 0, .int .i64 0, .int .i64 0, .bool false, .bool false, .bool false, .slice none 0 0, .string ⟨#[]⟩] ∧ At wc B4 #[.int .i64 o.m, .int .i64 o.c, .int .i64 o.t, .int .i64 o.ec, .bool o.sd, .bool o.ok, .bool o.sp, (.slice a0 o.rs.length cap0)] ∧ RgA w3.heap.size wc (.slice a0 o.rs.length cap0) o.rs ∧ Below wc.heap.size wc wc.drew) := ⟨hl, hR, hO, hvr, (Below.refl _ _).drew⟩
  clear hl hR hO hvr
  go_wp2
  refine wp_region_any (by kernel_rfl) ?_
  refine region_facts_end (fun W => Below w.heap.size w W ∧ At W w.heap.size #[.int .i64 0, .int .i64 0, .int .i64 0, .int .i64 0, .int .i64 0, .int .i64 0, .int .i64 0, .int .i64 0, .int .i64 0, .int .i64 0, .int .i64 0, .bool false, .bool false, .bool false, .slice none 0 0, .string ⟨#[]⟩] ∧ At W B4 #[.int .i64 o.m, .int .i64 o.c, .int .i64 o.t, .int .i64 o.ec, .bool o.sd, .bool o.ok, .bool o.sp, (.slice a0 o.rs.length cap0)] ∧ RgA w3.heap.size W (.slice a0 o.rs.length cap0) o.rs ∧ Below wc.heap.size wc W) (GE (fun qq => match qq with | 0 => .string b | 1 => .string D0 | 2 => .int .i64 G.fr | 3 => .string b | 4 => .string D2 | 5 => .int .i64 G.dt | 6 => .string b | 7 => .string D4 | 8 => .int .i64 G.sq | 9 => .string b | 10 => .string D8 | 11 => .int .i64 G.ak | 12 => .string b | 13 => .int .u8 G.fl | 14 => .int .i64 G.fl | 15 => .string b | 16 => .string D14 | 17 => .int .i64 G.wi | 18 => .string b | 19 => .string D18 | 20 => .int .i64 G.ur | 21 => .agg #[.int .i64 o.m, .int .i64 o.c, .int .i64 o.t, .int .i64 o.ec, .bool o.sd, .bool o.ok, .bool o.sp, (.slice a0 o.rs.length cap0)] | 22 => .string b | 23 => .int .i64 h | 24 => .string G.da | 25 => .agg #[.int .i64 G.fr, .int .i64 G.dt, .int .i64 G.sq, .int .i64 G.ak, .int .i64 G.fl, .int .i64 G.wi, .int .i64 G.ur, .int .i64 o.m, .int .i64 o.c, .int .i64 o.t, .int .i64 o.ec, .bool o.sd, .bool o.ok, .bool o.sp, (.slice a0 o.rs.length cap0), .string G.da] | _ => undef) (fun qq => match qq with | 26 => some (fun v W => ∃ p, v = .pointer (some ⟨p, 0, none⟩) ∧ wc.heap.size ≤ p ∧ At W p #[.int .i64 0, .int .i64 0, .int .i64 0, .int .i64 0, .int .i64 0, .int .i64 0, .int .i64 0, .int .i64 0, .int .i64 0, .int .i64 0, .int .i64 0, .bool false, .bool false, .bool false, .slice none 0 0, .string ⟨#[]⟩]) | _ => none)) (n := 108) 27 8 (by kernel_rfl) (by kernel_rfl) rfl (by kernel_rfl) (GE_later _ _ (by
      intro i F hF v w w' h hb
      split at hF
      · obtain rfl := Option.some.inj hF
        obtain ⟨p, e, h0, h1⟩ := h
        exact ⟨p, e, h0, h1.later hb⟩
      · cases hF)) ?_ ?_ ⟨bt HC.out.1 HC.out.2.2.2.2, HC.out.2.1.later HC.out.2.2.2.2, HC.out.2.2.1.later HC.out.2.2.2.2, HC.out.2.2.2.1.later HC.out.2.2.2.2, HC.out.2.2.2.2⟩ (Nat.le_refl _)
  · clear HC
    refine ⟨?_, ?_, ?_, ?_, ?_, ?_, ?_, ?_, ?_, ?_, ?_, ?_, ?_, ?_, ?_, ?_, ?_, ?_, ?_, ?_, ?_, ?_, ?_, ?_, ?_, ?_, ?_, trivial⟩
    · intro ac w1 hS hT hB hD K hK
      rw [if_pos (by rfl)]
      have d2 : ac.tmps.getD 2 undef = .string b := hB 2 (by kernel_rfl)
      clear hB hD hT
      go_simp
      exact hK _ _ hS (Below.refl _ _) rfl
    · intro ac w1 hS hT hB hD K hK
      rw [if_pos (by rfl)]
      have d71 : ac.tmps.getD 71 undef = .string b := hD ⟨0, .data⟩ (by simp) rfl _ 71 rfl rfl
      clear hB hD hT
      go_simp
      exact hK _ _ hS (Below.refl _ _) rfl
    · intro ac w1 hS hT hB hD K hK
      rw [if_pos (by rfl)]
      have d72 : ac.tmps.getD 72 undef = .string D0 := hD ⟨1, .data⟩ (by simp) rfl _ 72 rfl rfl
      clear hB hD hT
      go_simp
      refine (HN0.out _).mono ?_
      rintro e w' ⟨rfl, rfl⟩
      exact hK _ _ hS (Below.refl _ _) rfl
    · intro ac w1 hS hT hB hD K hK
      rw [if_pos (by rfl)]
      have d2 : ac.tmps.getD 2 undef = .string b := hB 2 (by kernel_rfl)
      clear hB hD hT
      go_simp
      exact hK _ _ hS (Below.refl _ _) rfl
    · intro ac w1 hS hT hB hD K hK
      rw [if_pos (by rfl)]
      have d74 : ac.tmps.getD 74 undef = .string b := hD ⟨3, .data⟩ (by simp) rfl _ 74 rfl rfl
      clear hB hD hT
      go_simp
      exact hK _ _ hS (Below.refl _ _) rfl
    · intro ac w1 hS hT hB hD K hK
      rw [if_pos (by rfl)]
      have d75 : ac.tmps.getD 75 undef = .string D2 := hD ⟨4, .data⟩ (by simp) rfl _ 75 rfl rfl
      clear hB hD hT
      go_simp
      refine (HN2.out _).mono ?_
      rintro e w' ⟨rfl, rfl⟩
      exact hK _ _ hS (Below.refl _ _) rfl
    · intro ac w1 hS hT hB hD K hK
      rw [if_pos (by rfl)]
      have d2 : ac.tmps.getD 2 undef = .string b := hB 2 (by kernel_rfl)
      clear hB hD hT
      go_simp
      exact hK _ _ hS (Below.refl _ _) rfl
    · intro ac w1 hS hT hB hD K hK
      rw [if_pos (by rfl)]
      have d77 : ac.tmps.getD 77 undef = .string b := hD ⟨6, .data⟩ (by simp) rfl _ 77 rfl rfl
      clear hB hD hT
      go_simp
      exact hK _ _ hS (Below.refl _ _) rfl
    · intro ac w1 hS hT hB hD K hK
      rw [if_pos (by rfl)]
      have d78 : ac.tmps.getD 78 undef = .string D4 := hD ⟨7, .data⟩ (by simp) rfl _ 78 rfl rfl
      clear hB hD hT
      go_simp
      refine (HN4.out _).mono ?_
      rintro e w' ⟨rfl, rfl⟩
      exact hK _ _ hS (Below.refl _ _) rfl
    · intro ac w1 hS hT hB hD K hK
      rw [if_pos (by rfl)]
      have d2 : ac.tmps.getD 2 undef = .string b := hB 2 (by kernel_rfl)
      clear hB hD hT
      go_simp
      exact hK _ _ hS (Below.refl _ _) rfl
    · intro ac w1 hS hT hB hD K hK
      rw [if_pos (by rfl)]
      have d80 : ac.tmps.getD 80 undef = .string b := hD ⟨9, .data⟩ (by simp) rfl _ 80 rfl rfl
      clear hB hD hT
      go_simp
      exact hK _ _ hS (Below.refl _ _) rfl
    · intro ac w1 hS hT hB hD K hK
      rw [if_pos (by rfl)]
      have d81 : ac.tmps.getD 81 undef = .string D8 := hD ⟨10, .data⟩ (by simp) rfl _ 81 rfl rfl
      clear hB hD hT
      go_simp
      refine (HN8.out _).mono ?_
      rintro e w' ⟨rfl, rfl⟩
      exact hK _ _ hS (Below.refl _ _) rfl
    · intro ac w1 hS hT hB hD K hK
      rw [if_pos (by rfl)]
      have d2 : ac.tmps.getD 2 undef = .string b := hB 2 (by kernel_rfl)
      clear hB hD hT
      go_simp
      exact hK _ _ hS (Below.refl _ _) rfl
    · intro ac w1 hS hT hB hD K hK
      rw [if_pos (by rfl)]
      have d83 : ac.tmps.getD 83 undef = .string b := hD ⟨12, .data⟩ (by simp) rfl _ 83 rfl rfl
      clear hB hD hT
      go_simp
      exact hK _ _ hS (Below.refl _ _) rfl
    · intro ac w1 hS hT hB hD K hK
      rw [if_pos (by rfl)]
      have d84 : ac.tmps.getD 84 undef = .int .u8 G.fl := hD ⟨13, .data⟩ (by simp) rfl _ 84 rfl rfl
      clear hB hD hT
      go_simp
      exact hK _ _ hS (Below.refl _ _) rfl
    · intro ac w1 hS hT hB hD K hK
      rw [if_pos (by rfl)]
      have d2 : ac.tmps.getD 2 undef = .string b := hB 2 (by kernel_rfl)
      clear hB hD hT
      go_simp
      exact hK _ _ hS (Below.refl _ _) rfl
    · intro ac w1 hS hT hB hD K hK
      rw [if_pos (by rfl)]
      have d86 : ac.tmps.getD 86 undef = .string b := hD ⟨15, .data⟩ (by simp) rfl _ 86 rfl rfl
      clear hB hD hT
      go_simp
      exact hK _ _ hS (Below.refl _ _) rfl
    · intro ac w1 hS hT hB hD K hK
      rw [if_pos (by rfl)]
      have d87 : ac.tmps.getD 87 undef = .string D14 := hD ⟨16, .data⟩ (by simp) rfl _ 87 rfl rfl
      clear hB hD hT
      go_simp
      refine (HN14.out _).mono ?_
      rintro e w' ⟨rfl, rfl⟩
      exact hK _ _ hS (Below.refl _ _) rfl
    · intro ac w1 hS hT hB hD K hK
      rw [if_pos (by rfl)]
      have d2 : ac.tmps.getD 2 undef = .string b := hB 2 (by kernel_rfl)
      clear hB hD hT
      go_simp
      exact hK _ _ hS (Below.refl _ _) rfl
    · intro ac w1 hS hT hB hD K hK
      rw [if_pos (by rfl)]
      have d89 : ac.tmps.getD 89 undef = .string b := hD ⟨18, .data⟩ (by simp) rfl _ 89 rfl rfl
      clear hB hD hT
      go_simp
      exact hK _ _ hS (Below.refl _ _) rfl
    · intro ac w1 hS hT hB hD K hK
      rw [if_pos (by rfl)]
      have d90 : ac.tmps.getD 90 undef = .string D18 := hD ⟨19, .data⟩ (by simp) rfl _ 90 rfl rfl
      clear hB hD hT
      go_simp
      refine (HN18.out _).mono ?_
      rintro e w' ⟨rfl, rfl⟩
      exact hK _ _ hS (Below.refl _ _) rfl
    · intro ac w1 hS hT hB hD K hK
      rw [if_pos (by rfl)]
      have d11 : ac.tmps.getD 11 undef = .pointer (some ⟨B4, 0, none⟩) := hB 11 (by kernel_rfl)
      clear hB hD hT
      exact wp_load_mid 32 (.tmp 11) rfl B4 0 d11 _ _ hS.2.2.1.range Tryz.underlying32 rfl size32 (hK _ _ hS (Below.refl _ _) rfl)
    · intro ac w1 hS hT hB hD K hK
      rw [if_pos (by rfl)]
      have d2 : ac.tmps.getD 2 undef = .string b := hB 2 (by kernel_rfl)
      clear hB hD hT
      go_simp
      exact hK _ _ hS (Below.refl _ _) rfl
    · intro ac w1 hS hT hB hD K hK
      rw [if_pos (by rfl)]
      have d8 : ac.tmps.getD 8 undef = .int .i64 h := hB 8 (by kernel_rfl)
      clear hB hD hT
      go_simp
      exact hK _ _ hS (Below.refl _ _) rfl
    · intro ac w1 hS hT hB hD K hK
      rw [if_pos (by rfl)]
      have d93 : ac.tmps.getD 93 undef = .string b := hD ⟨22, .data⟩ (by simp) rfl _ 93 rfl rfl
      have d94 : ac.tmps.getD 94 undef = .int .i64 h := hD ⟨23, .data⟩ (by simp) rfl _ 94 rfl rfl
      clear hB hD hT
      go_simp
      exact hK _ _ hS (Below.refl _ _) rfl
    · intro ac w1 hS hT hB hD K hK
      rw [if_pos (by rfl)]
      have d73 : ac.tmps.getD 73 undef = .int .i64 G.fr := hD ⟨2, .data⟩ (by simp) rfl _ 73 rfl rfl
      have d76 : ac.tmps.getD 76 undef = .int .i64 G.dt := hD ⟨5, .data⟩ (by simp) rfl _ 76 rfl rfl
      have d79 : ac.tmps.getD 79 undef = .int .i64 G.sq := hD ⟨8, .data⟩ (by simp) rfl _ 79 rfl rfl
      have d82 : ac.tmps.getD 82 undef = .int .i64 G.ak := hD ⟨11, .data⟩ (by simp) rfl _ 82 rfl rfl
      have d85 : ac.tmps.getD 85 undef = .int .i64 G.fl := hD ⟨14, .data⟩ (by simp) rfl _ 85 rfl rfl
      have d88 : ac.tmps.getD 88 undef = .int .i64 G.wi := hD ⟨17, .data⟩ (by simp) rfl _ 88 rfl rfl
      have d91 : ac.tmps.getD 91 undef = .int .i64 G.ur := hD ⟨20, .data⟩ (by simp) rfl _ 91 rfl rfl
      have d92 : ac.tmps.getD 92 undef = .agg #[.int .i64 o.m, .int .i64 o.c, .int .i64 o.t, .int .i64 o.ec, .bool o.sd, .bool o.ok, .bool o.sp, (.slice a0 o.rs.length cap0)] := hD ⟨21, .data⟩ (by simp) rfl _ 92 rfl rfl
      have d95 : ac.tmps.getD 95 undef = .string G.da := hD ⟨24, .data⟩ (by simp) rfl _ 95 rfl rfl
      clear hB hD hT
      exact wp_build9 34 (.tmp 73) (.tmp 76) (.tmp 79) (.tmp 82) (.tmp 85) (.tmp 88) (.tmp 91) (.tmp 92) (.tmp 95) _ _ _ _ _ _ _ _ _ _ rfl d73 d76 d79 d82 d85 d88 d91 d92 d95 (by kernel_rfl) (hK _ _ hS (Below.refl _ _) rfl)
    · intro ac w1 hS hT hB hD K hK
      rw [if_pos (by rfl)]
      clear hB hD hT
      go_simp
      have hb := bel1 w1 (.cells #[.int .i64 0, .int .i64 0, .int .i64 0, .int .i64 0, .int .i64 0, .int .i64 0, .int .i64 0, .int .i64 0, .int .i64 0, .int .i64 0, .int .i64 0, .bool false, .bool false, .bool false, .slice none 0 0, .string ⟨#[]⟩] 34)
      exact hK _ _ ⟨bt hS.1 hb, hS.2.1.later hb, hS.2.2.1.later hb, hS.2.2.2.1.later hb, bt hS.2.2.2.2 hb⟩ hb ⟨w1.heap.size, rfl, hS.2.2.2.2.size, At.box w1 #[.int .i64 0, .int .i64 0, .int .i64 0, .int .i64 0, .int .i64 0, .int .i64 0, .int .i64 0, .int .i64 0, .int .i64 0, .int .i64 0, .int .i64 0, .bool false, .bool false, .bool false, .slice none 0 0, .string ⟨#[]⟩] 34⟩
  · intro ac w9 hS hT hdf hB hF
    have hfr : ac.tmps = #[.int .i64 f, .int .i64 t, .string b, undef, undef, undef, .pointer (some ⟨w.heap.size, 0, none⟩), .int .i64 0, .int .i64 h, .string PS, .int .i64 0, .pointer (some ⟨B4, 0, none⟩), .int .i64 0, (ac.tmps.getD 13 undef), u14, u15, u16, u17, u18, u19, u20, u21, u22, u23, u24, u25, u26, u27, u28, u29, u30, u31, u32, u33, u34, u35, u36, u37, u38, u39, u40, u41, u42, u43, u44, u45, u46, u47, u48, u49, u50, u51, u52, u53, u54, u55, u56, u57, u58, u59, u60, u61, u62, u63, u64, u65, u66, .int .i64 0, .bool false, u69, u70, (ac.tmps.getD 71 undef), (ac.tmps.getD 72 undef), (ac.tmps.getD 73 undef), (ac.tmps.getD 74 undef), (ac.tmps.getD 75 undef), (ac.tmps.getD 76 undef), (ac.tmps.getD 77 undef), (ac.tmps.getD 78 undef), (ac.tmps.getD 79 undef), (ac.tmps.getD 80 undef), (ac.tmps.getD 81 undef), (ac.tmps.getD 82 undef), (ac.tmps.getD 83 undef), (ac.tmps.getD 84 undef), (ac.tmps.getD 85 undef), (ac.tmps.getD 86 undef), (ac.tmps.getD 87 undef), (ac.tmps.getD 88 undef), (ac.tmps.getD 89 undef), (ac.tmps.getD 90 undef), (ac.tmps.getD 91 undef), (ac.tmps.getD 92 undef), (ac.tmps.getD 93 undef), (ac.tmps.getD 94 undef), (ac.tmps.getD 95 undef), (ac.tmps.getD 96 undef), u97, u98, u99, u100, u101, u102, u103, u104, u105, u106, u107] := (frame_eq hT rfl hB).trans (by kernel_rfl)
    obtain ⟨T, df⟩ := ac
    have s96 : T.getD 96 undef = .agg #[.int .i64 G.fr, .int .i64 G.dt, .int .i64 G.sq, .int .i64 G.ak, .int .i64 G.fl, .int .i64 G.wi, .int .i64 G.ur, .int .i64 o.m, .int .i64 o.c, .int .i64 o.t, .int .i64 o.ec, .bool o.sd, .bool o.ok, .bool o.sp, (.slice a0 o.rs.length cap0), .string G.da] := hF 25 _ 96 (by decide) rfl rfl
    obtain ⟨p, s13, hp, hPP⟩ : ∃ p, T.getD 13 undef = .pointer (some ⟨p, 0, none⟩) ∧ wc.heap.size ≤ p ∧ At w9 p #[.int .i64 0, .int .i64 0, .int .i64 0, .int .i64 0, .int .i64 0, .int .i64 0, .int .i64 0, .int .i64 0, .int .i64 0, .int .i64 0, .int .i64 0, .bool false, .bool false, .bool false, .slice none 0 0, .string ⟨#[]⟩] := hF 26 _ 13 (by decide) rfl rfl
    have sdf : df = [] := hdf
    simp only at hfr
    clear hB hF hT hdf HN0 HN2 HN4 HN8 HN14 HN18
    generalize T.getD 71 undef = y71 at *
    generalize T.getD 72 undef = y72 at *
    generalize T.getD 73 undef = y73 at *
    generalize T.getD 74 undef = y74 at *
    generalize T.getD 75 undef = y75 at *
    generalize T.getD 76 undef = y76 at *
    generalize T.getD 77 undef = y77 at *
    generalize T.getD 78 undef = y78 at *
    generalize T.getD 79 undef = y79 at *
    generalize T.getD 80 undef = y80 at *
    generalize T.getD 81 undef = y81 at *
    generalize T.getD 82 undef = y82 at *
    generalize T.getD 83 undef = y83 at *
    generalize T.getD 84 undef = y84 at *
    generalize T.getD 85 undef = y85 at *
    generalize T.getD 86 undef = y86 at *
    generalize T.getD 87 undef = y87 at *
    generalize T.getD 88 undef = y88 at *
    generalize T.getD 89 undef = y89 at *
    generalize T.getD 90 undef = y90 at *
    generalize T.getD 91 undef = y91 at *
    generalize T.getD 92 undef = y92 at *
    generalize T.getD 93 undef = y93 at *
    generalize T.getD 94 undef = y94 at *
    generalize T.getD 95 undef = y95 at *
    generalize T.getD 96 undef = y96 at *
    generalize T.getD 13 undef = y13 at *
    subst hfr s96 s13 sdf
    have hbx : Below wc.heap.size wc (w9.setCells p 0 [.int .i64 G.fr, .int .i64 G.dt, .int .i64 G.sq, .int .i64 G.ak, .int .i64 G.fl, .int .i64 G.wi, .int .i64 G.ur, .int .i64 o.m, .int .i64 o.c, .int .i64 o.t, .int .i64 o.ec, .bool o.sd, .bool o.ok, .bool o.sp, (.slice a0 o.rs.length cap0), .string G.da]) := Below.setCells hp _ _ _ hS.2.2.2.2
    have hO : At (w9.setCells p 0 [.int .i64 G.fr, .int .i64 G.dt, .int .i64 G.sq, .int .i64 G.ak, .int .i64 G.fl, .int .i64 G.wi, .int .i64 G.ur, .int .i64 o.m, .int .i64 o.c, .int .i64 o.t, .int .i64 o.ec, .bool o.sd, .bool o.ok, .bool o.sp, (.slice a0 o.rs.length cap0), .string G.da]) p #[.int .i64 G.fr, .int .i64 G.dt, .int .i64 G.sq, .int .i64 G.ak, .int .i64 G.fl, .int .i64 G.wi, .int .i64 G.ur, .int .i64 o.m, .int .i64 o.c, .int .i64 o.t, .int .i64 o.ec, .bool o.sd, .bool o.ok, .bool o.sp, (.slice a0 o.rs.length cap0), .string G.da] := At.whole (vs := #[.int .i64 G.fr, .int .i64 G.dt, .int .i64 G.sq, .int .i64 G.ak, .int .i64 G.fl, .int .i64 G.wi, .int .i64 G.ur, .int .i64 o.m, .int .i64 o.c, .int .i64 o.t, .int .i64 o.ec, .bool o.sd, .bool o.ok, .bool o.sp, (.slice a0 o.rs.length cap0), .string G.da]) hPP rfl
    have hl := bt HC.out.1 hbx
    have hR := HC.out.2.1.later hbx
    have hvr := HC.out.2.2.2.1.later hbx
    clear HC hS
    intro Kc hKc
    rw [if_pos (by rfl)]
    refine wp_store_mid 34 (.tmp 13) (.tmp 96) (by rfl) p 0 #[.int .i64 G.fr, .int .i64 G.dt, .int .i64 G.sq, .int .i64 G.ak, .int .i64 G.fl, .int .i64 G.wi, .int .i64 G.ur, .int .i64 o.m, .int .i64 o.c, .int .i64 o.t, .int .i64 o.ec, .bool o.sd, .bool o.ok, .bool o.sp, (.slice a0 o.rs.length cap0), .string G.da] (by rfl) (by rfl) hPP.there size34 (all_oneCell_toArray (cs := [.int .i64 G.fr, .int .i64 G.dt, .int .i64 G.sq, .int .i64 G.ak, .int .i64 G.fl, .int .i64 G.wi, .int .i64 G.ur, .int .i64 o.m, .int .i64 o.c, .int .i64 o.t, .int .i64 o.ec, .bool o.sd, .bool o.ok, .bool o.sp, (.slice a0 o.rs.length cap0), .string G.da]) (by simp only [List.mem_cons, List.not_mem_nil, or_false, forall_eq_or_imp, forall_eq]; exact ⟨rfl, rfl, rfl, rfl, rfl, rfl, rfl, rfl, rfl, rfl, rfl, rfl, rfl, rfl, rfl, rfl⟩)) ?_
    apply hKc
    clear hKc Kc
    refine TailOk_nil ?_
    clear hPP hbx hp
    go_upto_region 15 with fail
    generalize w9.setCells p 0 [.int .i64 G.fr, .int .i64 G.dt, .int .i64 G.sq, .int .i64 G.ak, .int .i64 G.fl, .int .i64 G.wi, .int .i64 G.ur, .int .i64 o.m, .int .i64 o.c, .int .i64 o.t, .int .i64 o.ec, .bool o.sd, .bool o.ok, .bool o.sp, (.slice a0 o.rs.length cap0), .string G.da] = w10 at *
    go_wp2_with (refine wpList_loadG 34 _ (by rfl) (by rfl) p 0 (by rfl) _ _ hO.range Tryz.underlying34 rfl size34 ?_)
    refine (HMY.out _ _ hvr.rgs).mono ?_
    rintro e w11 ⟨rfl, hb⟩
    replace hl := bt hl hb
    replace hR := hR.later hb
    replace hvr := hvr.later hb
    replace hO := hO.later hb
    clear hb HMY
    go_wp2_with (refine wpList_store_mid (by rfl) 34 _ _ (by rfl) (w.heap.size) 0 #[.int .i64 0, .int .i64 0, .int .i64 0, .int .i64 0, .int .i64 0, .int .i64 0, .int .i64 0, .int .i64 0, .int .i64 0, .int .i64 0, .int .i64 0, .bool false, .bool false, .bool false, .slice none 0 0, .string ⟨#[]⟩] (by rfl) (by rfl) hR.there size34 (by simp [Value.oneCell']) ?_)
    go_wp2
    exact bodyPost_ret (v := .tuple #[.agg #[.int .i64 0, .int .i64 0, .int .i64 0, .int .i64 0, .int .i64 0, .int .i64 0, .int .i64 0, .int .i64 0, .int .i64 0, .int .i64 0, .int .i64 0, .bool false, .bool false, .bool false, .slice none 0 0, .string ⟨#[]⟩], .int .i64 80]) (ret_cell (by rfl) (At.whole (vs := #[.int .i64 0, .int .i64 0, .int .i64 0, .int .i64 0, .int .i64 0, .int .i64 0, .int .i64 0, .int .i64 0, .int .i64 0, .int .i64 0, .int .i64 0, .bool false, .bool false, .bool false, .slice none 0 0, .string ⟨#[]⟩]) hR rfl) rfl (by rfl) (by rfl)) (by rfl) ⟨rfl, Below.setCells (Nat.le_refl _) _ _ _ hl⟩
set_option maxHeartbeats 8000000 in
theorem rdecs_7 (f t : Int) (b : ByteArray) (PS OB D0 D2 D4 D8 D14 D18 : ByteArray) (BN h : Int) (o : Op) (G : Sg) (w : World)
    (hf : numB f = true) (ht : numB t = true)
    (r3 : ∀ W, (Instr.index 9 (.string b) (.int .i64 12)).run Tryz.prog W = .ok (.int .u8 BN) W) (b0 : 0 ≤ BN) (b1 : BN ≤ 255) (e1 : IntKind.i64.wrap (BN / 16) = BN / 16) (e2 : IntKind.i64.wrap (BN / 16 * 4) = h) (a1 : ¬ (b.size : Int) < 20) (a2 : ¬ 1540 < (b.size : Int)) (a3 : ¬ h < 20) (a4 : ¬ (b.size : Int) < h)
    (HPS : Hid (∀ W, Calls Tryz.prog 76 #[.int .i64 f, .int .i64 t, .int .i64 6, .int .i64 (b.size : Int)] W fun e w' => e = .returned (.tuple #[.string PS, .int .i64 0]) ∧ Below W.heap.size W w'))
    (r1 : ∀ W, (Op.stringOp .add PS b).run Tryz.prog W = .ok (.string (PS ++ b)) W)
    (HWH : Hid (∀ W, Calls Tryz.prog 66 #[.string (PS ++ b)] W fun e w' => e = .returned (.bool true) ∧ w' = W))
    (r2 : ∀ W, (Instr.slice 9 (.string b) (some (.int .i64 20)) (some (.int .i64 h)) none).run Tryz.prog W = .ok (.string OB) W)
    (HOD : Hid (∀ W, Calls Tryz.prog 77 #[.string OB] W fun e w' => ∃ v, e = .returned (.tuple #[.agg #[.int .i64 o.m, .int .i64 o.c, .int .i64 o.t, .int .i64 o.ec, .bool o.sd, .bool o.ok, .bool o.sp, v], .int .i64 0]) ∧ RgA W.heap.size w' v o.rs ∧ Below W.heap.size W w'))
    (HN0 : Hid (∀ W, Calls Tryz.prog 62 #[.string D0] W fun e w' => e = .returned (.int .i64 G.fr) ∧ w' = W)) (q0 : ∀ W, (Instr.slice 9 (.string b) none (some (.int .i64 2)) none).run Tryz.prog W = .ok (.string D0) W)
    (HN2 : Hid (∀ W, Calls Tryz.prog 62 #[.string D2] W fun e w' => e = .returned (.int .i64 G.dt) ∧ w' = W)) (q2 : ∀ W, (Instr.slice 9 (.string b) (some (.int .i64 2)) (some (.int .i64 4)) none).run Tryz.prog W = .ok (.string D2) W)
    (HN4 : Hid (∀ W, Calls Tryz.prog 62 #[.string D4] W fun e w' => e = .returned (.int .i64 G.sq) ∧ w' = W)) (q4 : ∀ W, (Instr.slice 9 (.string b) (some (.int .i64 4)) (some (.int .i64 8)) none).run Tryz.prog W = .ok (.string D4) W)
    (HN8 : Hid (∀ W, Calls Tryz.prog 62 #[.string D8] W fun e w' => e = .returned (.int .i64 G.ak) ∧ w' = W)) (q8 : ∀ W, (Instr.slice 9 (.string b) (some (.int .i64 8)) (some (.int .i64 12)) none).run Tryz.prog W = .ok (.string D8) W)
    (HN14 : Hid (∀ W, Calls Tryz.prog 62 #[.string D14] W fun e w' => e = .returned (.int .i64 G.wi) ∧ w' = W)) (q14 : ∀ W, (Instr.slice 9 (.string b) (some (.int .i64 14)) (some (.int .i64 16)) none).run Tryz.prog W = .ok (.string D14) W)
    (HN18 : Hid (∀ W, Calls Tryz.prog 62 #[.string D18] W fun e w' => e = .returned (.int .i64 G.ur) ∧ w' = W)) (q18 : ∀ W, (Instr.slice 9 (.string b) (some (.int .i64 18)) (some (.int .i64 20)) none).run Tryz.prog W = .ok (.string D18) W)
    (q13 : ∀ W, (Instr.index 9 (.string b) (.int .i64 13)).run Tryz.prog W = .ok (.int .u8 G.fl) W) (q14 : IntKind.i64.wrap G.fl = G.fl)
    (qd : ∀ W, (Instr.slice 9 (.string b) (some (.int .i64 h)) none none).run Tryz.prog W = .ok (.string G.da) W)
    (r5 : (BN % 16 != 0) = false)
    (HMY : Hid (∀ W v, Rgs W v o.rs → Calls Tryz.prog 78 #[.agg #[.int .i64 G.fr, .int .i64 G.dt, .int .i64 G.sq, .int .i64 G.ak, .int .i64 G.fl, .int .i64 G.wi, .int .i64 G.ur, .int .i64 o.m, .int .i64 o.c, .int .i64 o.t, .int .i64 o.ec, .bool o.sd, .bool o.ok, .bool o.sp, v, .string G.da]] W fun e w' => e = .returned (.int .i64 0) ∧ Below W.heap.size W w')) :
    Calls Tryz.prog 41 #[.int .i64 f, .int .i64 t, .string b] w fun e w' => ∃ v, e = .returned (.tuple #[.agg #[.int .i64 G.fr, .int .i64 G.dt, .int .i64 G.sq, .int .i64 G.ak, .int .i64 G.fl, .int .i64 G.wi, .int .i64 G.ur, .int .i64 o.m, .int .i64 o.c, .int .i64 o.t, .int .i64 o.ec, .bool o.sd, .bool o.ok, .bool o.sp, v, .string G.da], .int .i64 0]) ∧ RgA w.heap.size w' v o.rs ∧ Below w.heap.size w w' := by
  have hR := At.box w #[.int .i64 0, .int .i64 0, .int .i64 0, .int .i64 0, .int .i64 0, .int .i64 0, .int .i64 0, .int .i64 0, .int .i64 0, .int .i64 0, .int .i64 0, .bool false, .bool false, .bool false, .slice none 0 0, .string ⟨#[]⟩] 34
  have hl := bel1 w (.cells #[.int .i64 0, .int .i64 0, .int .i64 0, .int .i64 0, .int .i64 0, .int .i64 0, .int .i64 0, .int .i64 0, .int .i64 0, .int .i64 0, .int .i64 0, .bool false, .bool false, .bool false, .slice none 0 0, .string ⟨#[]⟩] 34)
  have hz : ∀ W, (Instr.build 34 #[]).run Tryz.prog W = .ok (.agg #[.int .i64 0, .int .i64 0, .int .i64 0, .int .i64 0, .int .i64 0, .int .i64 0, .int .i64 0, .int .i64 0, .int .i64 0, .int .i64 0, .int .i64 0, .bool false, .bool false, .bool false, .slice none 0 0, .string ⟨#[]⟩]) W := fun W => run_build W 34 #[] _ (by kernel_rfl)
  go_enter Tryz.func41, Tryz.ntmps41
  go_wp2_with fail
  refine (rchk_t f _ hf).mono ?_
  rintro e w1 ⟨rfl, rfl⟩
  go_wp2_with fail
  refine (rchk_t t _ ht).mono ?_
  rintro e w1 ⟨rfl, rfl⟩
  go_wp2_with fail
  refine (HPS.out _).mono ?_
  rintro e w2 ⟨rfl, hb⟩
  replace hl := bt hl hb
  replace hR := hR.later hb
  clear hb
  clear HPS
  go_wp2_with fail
  refine (HWH.out _).mono ?_
  rintro e w3 ⟨rfl, rfl⟩
  clear HWH
  have hlt : w.heap.size < w3.heap.size := hR.1
  go_upto_region 11 with fail
  go_cut [11, 12] from 14 (fun q z W => ∃ (a0 : Option Addr) (cap0 B4 : Nat), q = .pointer (some ⟨B4, 0, none⟩) ∧ z = .int .i64 0 ∧ Below w.heap.size w W ∧ At W w.heap.size #[.int .i64 0, .int .i64 0, .int .i64 0, .int .i64 0, .int .i64 0, .int .i64 0, .int .i64 0, .int .i64 0, .int .i64 0, .int .i64 0, .int .i64 0, .bool false, .bool false, .bool false, .slice none 0 0, .string ⟨#[]⟩] ∧ At W B4 #[.int .i64 o.m, .int .i64 o.c, .int .i64 o.t, .int .i64 o.ec, .bool o.sd, .bool o.ok, .bool o.sp, (.slice a0 o.rs.length cap0)] ∧ RgA w3.heap.size W (.slice a0 o.rs.length cap0) o.rs)
  case first =>
    go_wp2_with fail
    refine (HOD.out _).mono ?_
    rintro e w4 ⟨v, rfl, hvr, hb⟩
    obtain ⟨a0, cap0, hve, -⟩ := id hvr
    subst hve
    replace hl := bt hl hb
    replace hR := hR.later hb
    clear hb HOD
    have hbx := bel1 w4 (.cells #[.int .i64 o.m, .int .i64 o.c, .int .i64 o.t, .int .i64 o.ec, .bool o.sd, .bool o.ok, .bool o.sp, (.slice a0 o.rs.length cap0)] 32)
    have hO := At.box w4 #[.int .i64 o.m, .int .i64 o.c, .int .i64 o.t, .int .i64 o.ec, .bool o.sd, .bool o.ok, .bool o.sp, (.slice a0 o.rs.length cap0)] 32
    go_wp2
    go_meet
    case rel => exact ⟨a0, cap0, w4.heap.size, rfl, rfl, bt hl hbx, hR.later hbx, hO, hvr.later hbx⟩
  case rest =>
  clear hl hR HOD
  obtain ⟨a0, cap0, B4, rfl, rfl, hl, hR, hO, hvr⟩ := hcut
  have HC : Hid (Below w.heap.size w wc ∧ At wc w.heap.size #[.int .i64 0, .int .i64 0, .int .i64 0, .int .i64 0, .int .i64 0, .int .i64 0, .int .i64 0, .int .i64 0, .int .i64 0, .int .i64 0, .int .i64 0, .bool false, .bool false, .bool false, .slice none 0 0, .string ⟨#[]⟩] ∧ At wc B4 #[.int .i64 o.m, .int .i64 o.c, .int .i64 o.t, .int .i64 o.ec, .bool o.sd, .bool o.ok, .bool o.sp, (.slice a0 o.rs.length cap0)] ∧ RgA w3.heap.size wc (.slice a0 o.rs.length cap0) o.rs ∧ Below wc.heap.size wc wc.drew) := ⟨hl, hR, hO, hvr, (Below.refl _ _).drew⟩
  clear hl hR hO hvr
  go_wp2
  refine wp_region_any (by kernel_rfl) ?_
  refine region_facts_end (fun W => Below w.heap.size w W ∧ At W w.heap.size #[.int .i64 0, .int .i64 0, .int .i64 0, .int .i64 0, .int .i64 0, .int .i64 0, .int .i64 0, .int .i64 0, .int .i64 0, .int .i64 0, .int .i64 0, .bool false, .bool false, .bool false, .slice none 0 0, .string ⟨#[]⟩] ∧ At W B4 #[.int .i64 o.m, .int .i64 o.c, .int .i64 o.t, .int .i64 o.ec, .bool o.sd, .bool o.ok, .bool o.sp, (.slice a0 o.rs.length cap0)] ∧ RgA w3.heap.size W (.slice a0 o.rs.length cap0) o.rs ∧ Below wc.heap.size wc W) (GE (fun qq => match qq with | 0 => .string b | 1 => .string D0 | 2 => .int .i64 G.fr | 3 => .string b | 4 => .string D2 | 5 => .int .i64 G.dt | 6 => .string b | 7 => .string D4 | 8 => .int .i64 G.sq | 9 => .string b | 10 => .string D8 | 11 => .int .i64 G.ak | 12 => .string b | 13 => .int .u8 G.fl | 14 => .int .i64 G.fl | 15 => .string b | 16 => .string D14 | 17 => .int .i64 G.wi | 18 => .string b | 19 => .string D18 | 20 => .int .i64 G.ur | 21 => .agg #[.int .i64 o.m, .int .i64 o.c, .int .i64 o.t, .int .i64 o.ec, .bool o.sd, .bool o.ok, .bool o.sp, (.slice a0 o.rs.length cap0)] | 22 => .string b | 23 => .int .i64 h | 24 => .string G.da | 25 => .agg #[.int .i64 G.fr, .int .i64 G.dt, .int .i64 G.sq, .int .i64 G.ak, .int .i64 G.fl, .int .i64 G.wi, .int .i64 G.ur, .int .i64 o.m, .int .i64 o.c, .int .i64 o.t, .int .i64 o.ec, .bool o.sd, .bool o.ok, .bool o.sp, (.slice a0 o.rs.length cap0), .string G.da] | _ => undef) (fun qq => match qq with | 26 => some (fun v W => ∃ p, v = .pointer (some ⟨p, 0, none⟩) ∧ wc.heap.size ≤ p ∧ At W p #[.int .i64 0, .int .i64 0, .int .i64 0, .int .i64 0, .int .i64 0, .int .i64 0, .int .i64 0, .int .i64 0, .int .i64 0, .int .i64 0, .int .i64 0, .bool false, .bool false, .bool false, .slice none 0 0, .string ⟨#[]⟩]) | _ => none)) (n := 108) 27 8 (by kernel_rfl) (by kernel_rfl) rfl (by kernel_rfl) (GE_later _ _ (by
      intro i F hF v w w' h hb
      split at hF
      · obtain rfl := Option.some.inj hF
        obtain ⟨p, e, h0, h1⟩ := h
        exact ⟨p, e, h0, h1.later hb⟩
      · cases hF)) ?_ ?_ ⟨bt HC.out.1 HC.out.2.2.2.2, HC.out.2.1.later HC.out.2.2.2.2, HC.out.2.2.1.later HC.out.2.2.2.2, HC.out.2.2.2.1.later HC.out.2.2.2.2, HC.out.2.2.2.2⟩ (Nat.le_refl _)
  · clear HC
    refine ⟨?_, ?_, ?_, ?_, ?_, ?_, ?_, ?_, ?_, ?_, ?_, ?_, ?_, ?_, ?_, ?_, ?_, ?_, ?_, ?_, ?_, ?_, ?_, ?_, ?_, ?_, ?_, trivial⟩
    · intro ac w1 hS hT hB hD K hK
      rw [if_pos (by rfl)]
      have d2 : ac.tmps.getD 2 undef = .string b := hB 2 (by kernel_rfl)
      clear hB hD hT
      go_simp
      exact hK _ _ hS (Below.refl _ _) rfl
    · intro ac w1 hS hT hB hD K hK
      rw [if_pos (by rfl)]
      have d71 : ac.tmps.getD 71 undef = .string b := hD ⟨0, .data⟩ (by simp) rfl _ 71 rfl rfl
      clear hB hD hT
      go_simp
      exact hK _ _ hS (Below.refl _ _) rfl
    · intro ac w1 hS hT hB hD K hK
      rw [if_pos (by rfl)]
      have d72 : ac.tmps.getD 72 undef = .string D0 := hD ⟨1, .data⟩ (by simp) rfl _ 72 rfl rfl
      clear hB hD hT
      go_simp
      refine (HN0.out _).mono ?_
      rintro e w' ⟨rfl, rfl⟩
      exact hK _ _ hS (Below.refl _ _) rfl
    · intro ac w1 hS hT hB hD K hK
      rw [if_pos (by rfl)]
      have d2 : ac.tmps.getD 2 undef = .string b := hB 2 (by kernel_rfl)
      clear hB hD hT
      go_simp
      exact hK _ _ hS (Below.refl _ _) rfl
    · intro ac w1 hS hT hB hD K hK
      rw [if_pos (by rfl)]
      have d74 : ac.tmps.getD 74 undef = .string b := hD ⟨3, .data⟩ (by simp) rfl _ 74 rfl rfl
      clear hB hD hT
      go_simp
      exact hK _ _ hS (Below.refl _ _) rfl
    · intro ac w1 hS hT hB hD K hK
      rw [if_pos (by rfl)]
      have d75 : ac.tmps.getD 75 undef = .string D2 := hD ⟨4, .data⟩ (by simp) rfl _ 75 rfl rfl
      clear hB hD hT
      go_simp
      refine (HN2.out _).mono ?_
      rintro e w' ⟨rfl, rfl⟩
      exact hK _ _ hS (Below.refl _ _) rfl
    · intro ac w1 hS hT hB hD K hK
      rw [if_pos (by rfl)]
      have d2 : ac.tmps.getD 2 undef = .string b := hB 2 (by kernel_rfl)
      clear hB hD hT
      go_simp
      exact hK _ _ hS (Below.refl _ _) rfl
    · intro ac w1 hS hT hB hD K hK
      rw [if_pos (by rfl)]
      have d77 : ac.tmps.getD 77 undef = .string b := hD ⟨6, .data⟩ (by simp) rfl _ 77 rfl rfl
      clear hB hD hT
      go_simp
      exact hK _ _ hS (Below.refl _ _) rfl
    · intro ac w1 hS hT hB hD K hK
      rw [if_pos (by rfl)]
      have d78 : ac.tmps.getD 78 undef = .string D4 := hD ⟨7, .data⟩ (by simp) rfl _ 78 rfl rfl
      clear hB hD hT
      go_simp
      refine (HN4.out _).mono ?_
      rintro e w' ⟨rfl, rfl⟩
      exact hK _ _ hS (Below.refl _ _) rfl
    · intro ac w1 hS hT hB hD K hK
      rw [if_pos (by rfl)]
      have d2 : ac.tmps.getD 2 undef = .string b := hB 2 (by kernel_rfl)
      clear hB hD hT
      go_simp
      exact hK _ _ hS (Below.refl _ _) rfl
    · intro ac w1 hS hT hB hD K hK
      rw [if_pos (by rfl)]
      have d80 : ac.tmps.getD 80 undef = .string b := hD ⟨9, .data⟩ (by simp) rfl _ 80 rfl rfl
      clear hB hD hT
      go_simp
      exact hK _ _ hS (Below.refl _ _) rfl
    · intro ac w1 hS hT hB hD K hK
      rw [if_pos (by rfl)]
      have d81 : ac.tmps.getD 81 undef = .string D8 := hD ⟨10, .data⟩ (by simp) rfl _ 81 rfl rfl
      clear hB hD hT
      go_simp
      refine (HN8.out _).mono ?_
      rintro e w' ⟨rfl, rfl⟩
      exact hK _ _ hS (Below.refl _ _) rfl
    · intro ac w1 hS hT hB hD K hK
      rw [if_pos (by rfl)]
      have d2 : ac.tmps.getD 2 undef = .string b := hB 2 (by kernel_rfl)
      clear hB hD hT
      go_simp
      exact hK _ _ hS (Below.refl _ _) rfl
    · intro ac w1 hS hT hB hD K hK
      rw [if_pos (by rfl)]
      have d83 : ac.tmps.getD 83 undef = .string b := hD ⟨12, .data⟩ (by simp) rfl _ 83 rfl rfl
      clear hB hD hT
      go_simp
      exact hK _ _ hS (Below.refl _ _) rfl
    · intro ac w1 hS hT hB hD K hK
      rw [if_pos (by rfl)]
      have d84 : ac.tmps.getD 84 undef = .int .u8 G.fl := hD ⟨13, .data⟩ (by simp) rfl _ 84 rfl rfl
      clear hB hD hT
      go_simp
      exact hK _ _ hS (Below.refl _ _) rfl
    · intro ac w1 hS hT hB hD K hK
      rw [if_pos (by rfl)]
      have d2 : ac.tmps.getD 2 undef = .string b := hB 2 (by kernel_rfl)
      clear hB hD hT
      go_simp
      exact hK _ _ hS (Below.refl _ _) rfl
    · intro ac w1 hS hT hB hD K hK
      rw [if_pos (by rfl)]
      have d86 : ac.tmps.getD 86 undef = .string b := hD ⟨15, .data⟩ (by simp) rfl _ 86 rfl rfl
      clear hB hD hT
      go_simp
      exact hK _ _ hS (Below.refl _ _) rfl
    · intro ac w1 hS hT hB hD K hK
      rw [if_pos (by rfl)]
      have d87 : ac.tmps.getD 87 undef = .string D14 := hD ⟨16, .data⟩ (by simp) rfl _ 87 rfl rfl
      clear hB hD hT
      go_simp
      refine (HN14.out _).mono ?_
      rintro e w' ⟨rfl, rfl⟩
      exact hK _ _ hS (Below.refl _ _) rfl
    · intro ac w1 hS hT hB hD K hK
      rw [if_pos (by rfl)]
      have d2 : ac.tmps.getD 2 undef = .string b := hB 2 (by kernel_rfl)
      clear hB hD hT
      go_simp
      exact hK _ _ hS (Below.refl _ _) rfl
    · intro ac w1 hS hT hB hD K hK
      rw [if_pos (by rfl)]
      have d89 : ac.tmps.getD 89 undef = .string b := hD ⟨18, .data⟩ (by simp) rfl _ 89 rfl rfl
      clear hB hD hT
      go_simp
      exact hK _ _ hS (Below.refl _ _) rfl
    · intro ac w1 hS hT hB hD K hK
      rw [if_pos (by rfl)]
      have d90 : ac.tmps.getD 90 undef = .string D18 := hD ⟨19, .data⟩ (by simp) rfl _ 90 rfl rfl
      clear hB hD hT
      go_simp
      refine (HN18.out _).mono ?_
      rintro e w' ⟨rfl, rfl⟩
      exact hK _ _ hS (Below.refl _ _) rfl
    · intro ac w1 hS hT hB hD K hK
      rw [if_pos (by rfl)]
      have d11 : ac.tmps.getD 11 undef = .pointer (some ⟨B4, 0, none⟩) := hB 11 (by kernel_rfl)
      clear hB hD hT
      exact wp_load_mid 32 (.tmp 11) rfl B4 0 d11 _ _ hS.2.2.1.range Tryz.underlying32 rfl size32 (hK _ _ hS (Below.refl _ _) rfl)
    · intro ac w1 hS hT hB hD K hK
      rw [if_pos (by rfl)]
      have d2 : ac.tmps.getD 2 undef = .string b := hB 2 (by kernel_rfl)
      clear hB hD hT
      go_simp
      exact hK _ _ hS (Below.refl _ _) rfl
    · intro ac w1 hS hT hB hD K hK
      rw [if_pos (by rfl)]
      have d8 : ac.tmps.getD 8 undef = .int .i64 h := hB 8 (by kernel_rfl)
      clear hB hD hT
      go_simp
      exact hK _ _ hS (Below.refl _ _) rfl
    · intro ac w1 hS hT hB hD K hK
      rw [if_pos (by rfl)]
      have d93 : ac.tmps.getD 93 undef = .string b := hD ⟨22, .data⟩ (by simp) rfl _ 93 rfl rfl
      have d94 : ac.tmps.getD 94 undef = .int .i64 h := hD ⟨23, .data⟩ (by simp) rfl _ 94 rfl rfl
      clear hB hD hT
      go_simp
      exact hK _ _ hS (Below.refl _ _) rfl
    · intro ac w1 hS hT hB hD K hK
      rw [if_pos (by rfl)]
      have d73 : ac.tmps.getD 73 undef = .int .i64 G.fr := hD ⟨2, .data⟩ (by simp) rfl _ 73 rfl rfl
      have d76 : ac.tmps.getD 76 undef = .int .i64 G.dt := hD ⟨5, .data⟩ (by simp) rfl _ 76 rfl rfl
      have d79 : ac.tmps.getD 79 undef = .int .i64 G.sq := hD ⟨8, .data⟩ (by simp) rfl _ 79 rfl rfl
      have d82 : ac.tmps.getD 82 undef = .int .i64 G.ak := hD ⟨11, .data⟩ (by simp) rfl _ 82 rfl rfl
      have d85 : ac.tmps.getD 85 undef = .int .i64 G.fl := hD ⟨14, .data⟩ (by simp) rfl _ 85 rfl rfl
      have d88 : ac.tmps.getD 88 undef = .int .i64 G.wi := hD ⟨17, .data⟩ (by simp) rfl _ 88 rfl rfl
      have d91 : ac.tmps.getD 91 undef = .int .i64 G.ur := hD ⟨20, .data⟩ (by simp) rfl _ 91 rfl rfl
      have d92 : ac.tmps.getD 92 undef = .agg #[.int .i64 o.m, .int .i64 o.c, .int .i64 o.t, .int .i64 o.ec, .bool o.sd, .bool o.ok, .bool o.sp, (.slice a0 o.rs.length cap0)] := hD ⟨21, .data⟩ (by simp) rfl _ 92 rfl rfl
      have d95 : ac.tmps.getD 95 undef = .string G.da := hD ⟨24, .data⟩ (by simp) rfl _ 95 rfl rfl
      clear hB hD hT
      exact wp_build9 34 (.tmp 73) (.tmp 76) (.tmp 79) (.tmp 82) (.tmp 85) (.tmp 88) (.tmp 91) (.tmp 92) (.tmp 95) _ _ _ _ _ _ _ _ _ _ rfl d73 d76 d79 d82 d85 d88 d91 d92 d95 (by kernel_rfl) (hK _ _ hS (Below.refl _ _) rfl)
    · intro ac w1 hS hT hB hD K hK
      rw [if_pos (by rfl)]
      clear hB hD hT
      go_simp
      have hb := bel1 w1 (.cells #[.int .i64 0, .int .i64 0, .int .i64 0, .int .i64 0, .int .i64 0, .int .i64 0, .int .i64 0, .int .i64 0, .int .i64 0, .int .i64 0, .int .i64 0, .bool false, .bool false, .bool false, .slice none 0 0, .string ⟨#[]⟩] 34)
      exact hK _ _ ⟨bt hS.1 hb, hS.2.1.later hb, hS.2.2.1.later hb, hS.2.2.2.1.later hb, bt hS.2.2.2.2 hb⟩ hb ⟨w1.heap.size, rfl, hS.2.2.2.2.size, At.box w1 #[.int .i64 0, .int .i64 0, .int .i64 0, .int .i64 0, .int .i64 0, .int .i64 0, .int .i64 0, .int .i64 0, .int .i64 0, .int .i64 0, .int .i64 0, .bool false, .bool false, .bool false, .slice none 0 0, .string ⟨#[]⟩] 34⟩
  · intro ac w9 hS hT hdf hB hF
    have hfr : ac.tmps = #[.int .i64 f, .int .i64 t, .string b, undef, undef, undef, .pointer (some ⟨w.heap.size, 0, none⟩), .int .i64 0, .int .i64 h, .string PS, .int .i64 0, .pointer (some ⟨B4, 0, none⟩), .int .i64 0, (ac.tmps.getD 13 undef), u14, u15, u16, u17, u18, u19, u20, u21, u22, u23, u24, u25, u26, u27, u28, u29, u30, u31, u32, u33, u34, u35, u36, u37, u38, u39, u40, u41, u42, u43, u44, u45, u46, u47, u48, u49, u50, u51, u52, u53, u54, u55, u56, u57, u58, u59, u60, u61, u62, u63, u64, u65, u66, .int .i64 0, .bool false, u69, u70, (ac.tmps.getD 71 undef), (ac.tmps.getD 72 undef), (ac.tmps.getD 73 undef), (ac.tmps.getD 74 undef), (ac.tmps.getD 75 undef), (ac.tmps.getD 76 undef), (ac.tmps.getD 77 undef), (ac.tmps.getD 78 undef), (ac.tmps.getD 79 undef), (ac.tmps.getD 80 undef), (ac.tmps.getD 81 undef), (ac.tmps.getD 82 undef), (ac.tmps.getD 83 undef), (ac.tmps.getD 84 undef), (ac.tmps.getD 85 undef), (ac.tmps.getD 86 undef), (ac.tmps.getD 87 undef), (ac.tmps.getD 88 undef), (ac.tmps.getD 89 undef), (ac.tmps.getD 90 undef), (ac.tmps.getD 91 undef), (ac.tmps.getD 92 undef), (ac.tmps.getD 93 undef), (ac.tmps.getD 94 undef), (ac.tmps.getD 95 undef), (ac.tmps.getD 96 undef), u97, u98, u99, u100, u101, u102, u103, u104, u105, u106, u107] := (frame_eq hT rfl hB).trans (by kernel_rfl)
    obtain ⟨T, df⟩ := ac
    have s96 : T.getD 96 undef = .agg #[.int .i64 G.fr, .int .i64 G.dt, .int .i64 G.sq, .int .i64 G.ak, .int .i64 G.fl, .int .i64 G.wi, .int .i64 G.ur, .int .i64 o.m, .int .i64 o.c, .int .i64 o.t, .int .i64 o.ec, .bool o.sd, .bool o.ok, .bool o.sp, (.slice a0 o.rs.length cap0), .string G.da] := hF 25 _ 96 (by decide) rfl rfl
    obtain ⟨p, s13, hp, hPP⟩ : ∃ p, T.getD 13 undef = .pointer (some ⟨p, 0, none⟩) ∧ wc.heap.size ≤ p ∧ At w9 p #[.int .i64 0, .int .i64 0, .int .i64 0, .int .i64 0, .int .i64 0, .int .i64 0, .int .i64 0, .int .i64 0, .int .i64 0, .int .i64 0, .int .i64 0, .bool false, .bool false, .bool false, .slice none 0 0, .string ⟨#[]⟩] := hF 26 _ 13 (by decide) rfl rfl
    have sdf : df = [] := hdf
    simp only at hfr
    clear hB hF hT hdf HN0 HN2 HN4 HN8 HN14 HN18
    generalize T.getD 71 undef = y71 at *
    generalize T.getD 72 undef = y72 at *
    generalize T.getD 73 undef = y73 at *
    generalize T.getD 74 undef = y74 at *
    generalize T.getD 75 undef = y75 at *
    generalize T.getD 76 undef = y76 at *
    generalize T.getD 77 undef = y77 at *
    generalize T.getD 78 undef = y78 at *
    generalize T.getD 79 undef = y79 at *
    generalize T.getD 80 undef = y80 at *
    generalize T.getD 81 undef = y81 at *
    generalize T.getD 82 undef = y82 at *
    generalize T.getD 83 undef = y83 at *
    generalize T.getD 84 undef = y84 at *
    generalize T.getD 85 undef = y85 at *
    generalize T.getD 86 undef = y86 at *
    generalize T.getD 87 undef = y87 at *
    generalize T.getD 88 undef = y88 at *
    generalize T.getD 89 undef = y89 at *
    generalize T.getD 90 undef = y90 at *
    generalize T.getD 91 undef = y91 at *
    generalize T.getD 92 undef = y92 at *
    generalize T.getD 93 undef = y93 at *
    generalize T.getD 94 undef = y94 at *
    generalize T.getD 95 undef = y95 at *
    generalize T.getD 96 undef = y96 at *
    generalize T.getD 13 undef = y13 at *
    subst hfr s96 s13 sdf
    have hbx : Below wc.heap.size wc (w9.setCells p 0 [.int .i64 G.fr, .int .i64 G.dt, .int .i64 G.sq, .int .i64 G.ak, .int .i64 G.fl, .int .i64 G.wi, .int .i64 G.ur, .int .i64 o.m, .int .i64 o.c, .int .i64 o.t, .int .i64 o.ec, .bool o.sd, .bool o.ok, .bool o.sp, (.slice a0 o.rs.length cap0), .string G.da]) := Below.setCells hp _ _ _ hS.2.2.2.2
    have hO : At (w9.setCells p 0 [.int .i64 G.fr, .int .i64 G.dt, .int .i64 G.sq, .int .i64 G.ak, .int .i64 G.fl, .int .i64 G.wi, .int .i64 G.ur, .int .i64 o.m, .int .i64 o.c, .int .i64 o.t, .int .i64 o.ec, .bool o.sd, .bool o.ok, .bool o.sp, (.slice a0 o.rs.length cap0), .string G.da]) p #[.int .i64 G.fr, .int .i64 G.dt, .int .i64 G.sq, .int .i64 G.ak, .int .i64 G.fl, .int .i64 G.wi, .int .i64 G.ur, .int .i64 o.m, .int .i64 o.c, .int .i64 o.t, .int .i64 o.ec, .bool o.sd, .bool o.ok, .bool o.sp, (.slice a0 o.rs.length cap0), .string G.da] := At.whole (vs := #[.int .i64 G.fr, .int .i64 G.dt, .int .i64 G.sq, .int .i64 G.ak, .int .i64 G.fl, .int .i64 G.wi, .int .i64 G.ur, .int .i64 o.m, .int .i64 o.c, .int .i64 o.t, .int .i64 o.ec, .bool o.sd, .bool o.ok, .bool o.sp, (.slice a0 o.rs.length cap0), .string G.da]) hPP rfl
    have hl := bt HC.out.1 hbx
    have hR := HC.out.2.1.later hbx
    have hvr := HC.out.2.2.2.1.later hbx
    clear HC hS
    intro Kc hKc
    rw [if_pos (by rfl)]
    refine wp_store_mid 34 (.tmp 13) (.tmp 96) (by rfl) p 0 #[.int .i64 G.fr, .int .i64 G.dt, .int .i64 G.sq, .int .i64 G.ak, .int .i64 G.fl, .int .i64 G.wi, .int .i64 G.ur, .int .i64 o.m, .int .i64 o.c, .int .i64 o.t, .int .i64 o.ec, .bool o.sd, .bool o.ok, .bool o.sp, (.slice a0 o.rs.length cap0), .string G.da] (by rfl) (by rfl) hPP.there size34 (all_oneCell_toArray (cs := [.int .i64 G.fr, .int .i64 G.dt, .int .i64 G.sq, .int .i64 G.ak, .int .i64 G.fl, .int .i64 G.wi, .int .i64 G.ur, .int .i64 o.m, .int .i64 o.c, .int .i64 o.t, .int .i64 o.ec, .bool o.sd, .bool o.ok, .bool o.sp, (.slice a0 o.rs.length cap0), .string G.da]) (by simp only [List.mem_cons, List.not_mem_nil, or_false, forall_eq_or_imp, forall_eq]; exact ⟨rfl, rfl, rfl, rfl, rfl, rfl, rfl, rfl, rfl, rfl, rfl, rfl, rfl, rfl, rfl, rfl⟩)) ?_
    apply hKc
    clear hKc Kc
    refine TailOk_nil ?_
    clear hPP hbx hp
    go_upto_region 15 with fail
    generalize w9.setCells p 0 [.int .i64 G.fr, .int .i64 G.dt, .int .i64 G.sq, .int .i64 G.ak, .int .i64 G.fl, .int .i64 G.wi, .int .i64 G.ur, .int .i64 o.m, .int .i64 o.c, .int .i64 o.t, .int .i64 o.ec, .bool o.sd, .bool o.ok, .bool o.sp, (.slice a0 o.rs.length cap0), .string G.da] = w10 at *
    go_wp2_with (refine wpList_loadG 34 _ (by rfl) (by rfl) p 0 (by rfl) _ _ hO.range Tryz.underlying34 rfl size34 ?_)
    refine (HMY.out _ _ hvr.rgs).mono ?_
    rintro e w11 ⟨rfl, hb⟩
    replace hl := bt hl hb
    replace hR := hR.later hb
    replace hvr := hvr.later hb
    replace hO := hO.later hb
    clear hb HMY
    go_wp2_with (first | (refine wpList_loadG 34 _ (by rfl) (by rfl) p 0 (by rfl) _ _ hO.range Tryz.underlying34 rfl size34 ?_) | (refine wpList_store_mid (by rfl) 34 _ _ (by rfl) (w.heap.size) 0 #[.int .i64 G.fr, .int .i64 G.dt, .int .i64 G.sq, .int .i64 G.ak, .int .i64 G.fl, .int .i64 G.wi, .int .i64 G.ur, .int .i64 o.m, .int .i64 o.c, .int .i64 o.t, .int .i64 o.ec, .bool o.sd, .bool o.ok, .bool o.sp, (.slice a0 o.rs.length cap0), .string G.da] (by rfl) (by rfl) hR.there size34 (all_oneCell_toArray (cs := [.int .i64 G.fr, .int .i64 G.dt, .int .i64 G.sq, .int .i64 G.ak, .int .i64 G.fl, .int .i64 G.wi, .int .i64 G.ur, .int .i64 o.m, .int .i64 o.c, .int .i64 o.t, .int .i64 o.ec, .bool o.sd, .bool o.ok, .bool o.sp, (.slice a0 o.rs.length cap0), .string G.da]) (by simp only [List.mem_cons, List.not_mem_nil, or_false, forall_eq_or_imp, forall_eq]; exact ⟨rfl, rfl, rfl, rfl, rfl, rfl, rfl, rfl, rfl, rfl, rfl, rfl, rfl, rfl, rfl, rfl⟩)) ?_))
    go_wp2
    exact bodyPost_ret (v := .tuple #[.agg #[.int .i64 G.fr, .int .i64 G.dt, .int .i64 G.sq, .int .i64 G.ak, .int .i64 G.fl, .int .i64 G.wi, .int .i64 G.ur, .int .i64 o.m, .int .i64 o.c, .int .i64 o.t, .int .i64 o.ec, .bool o.sd, .bool o.ok, .bool o.sp, (.slice a0 o.rs.length cap0), .string G.da], .int .i64 0]) (ret_cell (by rfl) (At.whole (vs := #[.int .i64 G.fr, .int .i64 G.dt, .int .i64 G.sq, .int .i64 G.ak, .int .i64 G.fl, .int .i64 G.wi, .int .i64 G.ur, .int .i64 o.m, .int .i64 o.c, .int .i64 o.t, .int .i64 o.ec, .bool o.sd, .bool o.ok, .bool o.sp, (.slice a0 o.rs.length cap0), .string G.da]) hR rfl) rfl (by rfl) (by rfl)) (by rfl) ⟨_, rfl, (hvr.setCells _ _ _ hlt).mono (by omega), Below.setCells (Nat.le_refl _) _ _ _ hl⟩

theorem rnum_at (b : ByteArray) (i j : Nat) (h : j ≤ i + 6) : ∀ W, Calls Tryz.prog 62 #[.string (b.extract i j)] W fun e w' => e = .returned (.int .i64 (numS (b.extract i j))) ∧ w' = W := fun W => num_any (b.extract i j) W (by rw [ByteArray.size_extract]; omega)
set_option maxHeartbeats 4000000 in
theorem rdecs_any (f t : Int) (b : ByteArray) (w : World) (hb : b.size ≤ 140737488351232) : Calls Tryz.prog 41 #[.int .i64 f, .int .i64 t, .string b] w fun e w' => DecS (decG f t b) w e w' := by
  rcases Bool.eq_false_or_eq_true (numB f) with hf | hf
  case inr => rw [decG_range (by rw [hf]; rfl)]; exact rdecs_1 f t b w hf
  rcases Bool.eq_false_or_eq_true (numB t) with ht | ht
  case inr => rw [decG_range (by rw [hf, ht]; rfl)]; exact rdecs_1b f t b w hf ht
  have h : (numB f && numB t) = true := by rw [hf, ht]; rfl
  have hle := by12_le b
  have hhd : (hdN b : Int) = (by12 b : Int) / 16 * 4 := by unfold hdN; omega
  by_cases k1 : (b.size : Int) < 20
  · rw [decG_shape h (decide_eq_false (by omega))]; exact rdecs_2a f t b w hf ht k1
  by_cases k2 : 1540 < (b.size : Int)
  · rw [decG_shape h (decide_eq_false (by omega))]; exact rdecs_2b f t b w hf ht k1 k2
  have r3 := run12 b (by omega)
  have e1 : IntKind.i64.wrap ((by12 b : Int) / 16) = (by12 b : Int) / 16 := by rw [IntKind.wrap_i64]; omega
  have e2 : IntKind.i64.wrap ((by12 b : Int) / 16 * 4) = (hdN b : Int) := by rw [IntKind.wrap_i64]; omega
  by_cases k3 : (hdN b : Int) < 20
  · rw [decG_shape h (decide_eq_false (by omega))]; exact rdecs_2c f t b _ _ w hf ht r3 (by omega) (by omega) e1 e2 k1 k2 k3
  by_cases k4 : (b.size : Int) < (hdN b : Int)
  · rw [decG_shape h (decide_eq_false (by omega))]; exact rdecs_2d f t b _ _ w hf ht r3 (by omega) (by omega) e1 e2 k1 k2 k3 k4
  have h1 : shapeB b = true := decide_eq_true ⟨by omega, by omega, by omega, by omega⟩
  have hps : ∀ W, Calls Tryz.prog 76 #[.int .i64 f, .int .i64 t, .int .i64 6, .int .i64 (b.size : Int)] W fun e w' => e = .returned (.tuple #[.string (psS f t b.size), .int .i64 0]) ∧ Below W.heap.size W w' := fun W => by
    have := rpseudo_any f t 6 (b.size : Int) W
    rw [pseuV_is f t _ hf ht (by omega), pseuB_of f t _ hf ht (by omega)] at this
    exact this
  have r1 : ∀ W, (Op.stringOp .add (psS f t b.size) b).run Tryz.prog W = .ok (.string (psS f t b.size ++ b)) W := fun W => run_string_add_sum W _ _ (by rw [psS_size]; omega)
  have hwh : ∀ W, Calls Tryz.prog 66 #[.string (psS f t b.size ++ b)] W fun e w' => e = .returned (.bool (wholeB f t b)) ∧ w' = W := fun W => rwhole_any _ W (by rw [ByteArray.size_append, psS_size]; unfold maxLen; omega)
  rcases Bool.eq_false_or_eq_true (wholeB f t b) with h2 | h2
  case inr => rw [decG_sum h h1 h2]; rw [h2] at hwh; exact rdecs_3 f t b (psS f t b.size) _ _ w hf ht r3 (by omega) (by omega) e1 e2 k1 k2 k3 k4 hps r1 hwh
  rw [h2] at hwh
  rw [decG_fin h h1 h2]
  have r2 := orun_sl b 20 (hdN b : Int) (b.extract 20 (hdN b)) rfl (by omega) (by decide) (by omega)
  have hzO : (b.extract 20 (hdN b)).size ≤ 1125899906842624 := by rw [ByteArray.size_extract]; omega
  have hod := fun (W : World) => rdec_any (b.extract 20 (hdN b)) W hzO
  cases hd : decO (b.extract 20 (hdN b)).data.toList with
  | none =>
    rw [hd] at hod
    exact rdecs_4 f t b (psS f t b.size) _ _ _ w hf ht r3 (by omega) (by omega) e1 e2 k1 k2 k3 k4 hps r1 hwh r2 hod
  | some o =>
    rw [hd] at hod
    have hod' : ∀ W, Calls Tryz.prog 77 #[.string (b.extract 20 (hdN b))] W fun e w' => ∃ v, e = .returned (.tuple #[.agg #[.int .i64 o.m, .int .i64 o.c, .int .i64 o.t, .int .i64 o.ec, .bool o.sd, .bool o.ok, .bool o.sp, v], .int .i64 0]) ∧ RgA W.heap.size w' v o.rs ∧ Below W.heap.size W w' := fun W => (hod W).mono fun e w' ⟨v, h3, h4, h5⟩ => ⟨v, h3, RgA.of_own h4, h5⟩
    have hms := mayO_short (decO_may hd)
    have hmy : ∀ W v, Rgs W v o.rs → Calls Tryz.prog 78 #[.agg #[.int .i64 (gotS b o).fr, .int .i64 (gotS b o).dt, .int .i64 (gotS b o).sq, .int .i64 (gotS b o).ak, .int .i64 (gotS b o).fl, .int .i64 (gotS b o).wi, .int .i64 (gotS b o).ur, .int .i64 o.m, .int .i64 o.c, .int .i64 o.t, .int .i64 o.ec, .bool o.sd, .bool o.ok, .bool o.sp, v, .string (gotS b o).da]] W fun e w' => e = .returned (.int .i64 (codeG (mayG (gotS b o)))) ∧ Below W.heap.size W w' := fun W v hv => rchk_s (gotS b o) v W hv (by show o.rs.length ≤ _; omega)
    have q13 : ∀ W, (Instr.index 9 (.string b) (.int .i64 13)).run Tryz.prog W = .ok (.int .u8 (gotS b o).fl) W := fun W => by
      have := run_index_string (P := Tryz.prog) W 9 b .i64 13 Tryz.underlying9
      rw [this, dif_pos ⟨by omega, by omega⟩]
      show _ = Result.ok (Value.int .u8 (numS (b.extract 13 14))) W
      rw [← fl_at b (by omega)]
      rfl
    have q14 : IntKind.i64.wrap (gotS b o).fl = (gotS b o).fl := by
      show IntKind.i64.wrap (numS (b.extract 13 14)) = numS (b.extract 13 14)
      rw [← fl_at b (by omega), IntKind.wrap_i64]
      have := b[13].toNat_lt
      omega
    have qd : ∀ W, (Instr.slice 9 (.string b) (some (.int .i64 (hdN b : Int))) none none).run Tryz.prog W = .ok (.string (gotS b o).da) W := fun W => by
      rw [run_slice_string_from_if W 9 b .i64 (hdN b : Int) Tryz.underlying9, if_pos (by omega)]
      rfl
    have q0 : ∀ W, (Instr.slice 9 (.string b) none (some (.int .i64 2)) none).run Tryz.prog W = .ok (.string (b.extract 0 2)) W := fun W => by
      rw [run_slice_string_to_if W 9 b .i64 2 Tryz.underlying9, if_pos (by omega)]
      rfl
    have q2 := orun_sl b 2 4 (b.extract 2 4) rfl (by omega) (by decide) (by decide)
    have q4 := orun_sl b 4 8 (b.extract 4 8) rfl (by omega) (by decide) (by decide)
    have q8 := orun_sl b 8 12 (b.extract 8 12) rfl (by omega) (by decide) (by decide)
    have q15 := orun_sl b 14 16 (b.extract 14 16) rfl (by omega) (by decide) (by decide)
    have q18 := orun_sl b 18 20 (b.extract 18 20) rfl (by omega) (by decide) (by decide)
    show Calls _ _ _ _ fun e w' => DecS (if lastB b o = true then Except.ok (gotS b o) else Except.error 80) w e w'
    by_cases hlow : by12 b % 16 = 0
    · have r5 : ((by12 b : Int) % 16 != 0) = false := by simp only [bne_eq_false_iff_eq]; omega
      rcases Bool.eq_false_or_eq_true (mayG (gotS b o)) with hm | hm
      · have hlast : lastB b o = true := by unfold lastB; rw [hm, decide_eq_true hlow]; rfl
        rw [if_pos hlast]
        rw [hm] at hmy
        exact rdecs_7 f t b (psS f t b.size) _ _ _ _ _ _ _ _ _ o (gotS b o) w hf ht r3 (by omega) (by omega) e1 e2 k1 k2 k3 k4 hps r1 hwh r2 hod' (rnum_at b 0 2 (by decide)) q0 (rnum_at b 2 4 (by decide)) q2 (rnum_at b 4 8 (by decide)) q4 (rnum_at b 8 12 (by decide)) q8 (rnum_at b 14 16 (by decide)) q15 (rnum_at b 18 20 (by decide)) q18 q13 q14 qd r5 hmy
      · have hlast : ¬ lastB b o = true := by unfold lastB; rw [hm, Bool.and_false]; decide
        rw [if_neg hlast]
        rw [hm] at hmy
        exact rdecs_6 f t b (psS f t b.size) _ _ _ _ _ _ _ _ _ o (gotS b o) w hf ht r3 (by omega) (by omega) e1 e2 k1 k2 k3 k4 hps r1 hwh r2 hod' (rnum_at b 0 2 (by decide)) q0 (rnum_at b 2 4 (by decide)) q2 (rnum_at b 4 8 (by decide)) q4 (rnum_at b 8 12 (by decide)) q8 (rnum_at b 14 16 (by decide)) q15 (rnum_at b 18 20 (by decide)) q18 q13 q14 qd r5 hmy
    · have r5 : ((by12 b : Int) % 16 != 0) = true := by simp only [bne_iff_ne, ne_eq]; omega
      have hlast : ¬ lastB b o = true := by unfold lastB; rw [decide_eq_false hlow]; simp
      rw [if_neg hlast]
      exact rdecs_5 f t b (psS f t b.size) _ _ _ _ _ _ _ _ _ o (gotS b o) w hf ht r3 (by omega) (by omega) e1 e2 k1 k2 k3 k4 hps r1 hwh r2 hod' (rnum_at b 0 2 (by decide)) q0 (rnum_at b 2 4 (by decide)) q2 (rnum_at b 4 8 (by decide)) q4 (rnum_at b 8 12 (by decide)) q8 (rnum_at b 14 16 (by decide)) q15 (rnum_at b 18 20 (by decide)) q18 q13 q14 qd r5
end Go.Proofs.YtkpdmgoldngdaaaGreatDoor
