/- the texts Sa, Ta, Tb, Tc, Td, in part, merged by program -/
import Derived.Test.YtkpdmgoldngdaaaGreatDoorProg
import Derived.Test.YtkpdmgoldngdaaaGreatDoorRows
import Derived.Deep.MidRow
import Derived.WalkKit
import Derived.WalkSpells
import Derived.RegionTactic
import Derived.Below
import Derived.Laws.OwnMore
import Derived.Laws.AppendOwn
import Derived.Laws.AppendOwnNone
import Derived.Deep.LoopGhost
import Derived.Deep.RegionHeld3
import Derived.Deep.QuietTactic
import Derived.BigQuiet
import Derived.WalkSmall
import Derived.Laws.StructEq
import Derived.Shelf.Strings.Repeat
import Derived.Deep.RegionWith
import Derived.LoopN
import Derived.Laws.Tables
import Derived.Great.BuildSlice
import Derived.BigRegion
import Derived.Deep.Light
import Derived.Deep.Cut
import Derived.Test.YtkpdmgoldngdaaaGreatDoorMA01
import Derived.Test.YtkpdmgoldngdaaaGreatDoorMA04
import Derived.Test.YtkpdmgoldngdaaaGreatDoorMA05
import Derived.Test.YtkpdmgoldngdaaaGreatDoorMD01
import Derived.Test.YtkpdmgoldngdaaaGreatDoorMD02
import Derived.Test.YtkpdmgoldngdaaaGreatDoorMD03
import Derived.Test.YtkpdmgoldngdaaaGreatDoorMD04
import Derived.Test.YtkpdmgoldngdaaaGreatDoorMG01
import Derived.Test.YtkpdmgoldngdaaaGreatDoorMG03
import Derived.Test.YtkpdmgoldngdaaaGreatDoorMG05
import Derived.Test.YtkpdmgoldngdaaaGreatDoorMH01
import Derived.Test.YtkpdmgoldngdaaaGreatDoorMH02
import Derived.Test.YtkpdmgoldngdaaaGreatDoorMH03
import Derived.Test.YtkpdmgoldngdaaaGreatDoorMO01
import Derived.Test.YtkpdmgoldngdaaaGreatDoorMP01
import Derived.Test.YtkpdmgoldngdaaaGreatDoorMS01
import Derived.Test.YtkpdmgoldngdaaaGreatDoorMS02
import Derived.Test.YtkpdmgoldngdaaaGreatDoorMZ01
namespace Go.Proofs.YtkpdmgoldngdaaaGreatDoor
open Go.RowKit
set_option maxRecDepth 100000
set_option linter.unusedVariables false
theorem put_s (n k : Int) (w : World) : Calls Tryz.prog 88 #[.int .i64 n, .int .i64 k] w fun e w' => e = .returned (.string (putV n k)) ∧ Below w.heap.size w w' := by
  go_enter Tryz.func88, Tryz.ntmps88
  go_wp2_with fail
  refine (pput_any n k _).mono ?_
  rintro e w' ⟨rfl, hb⟩
  go_wp2
  go_ret
  exact ⟨rfl, hb⟩
end Go.Proofs.YtkpdmgoldngdaaaGreatDoor

namespace Go.Proofs.YtkpdmgoldngdaaaGreatDoor
open Go.RowKit
set_option maxRecDepth 100000
set_option linter.unusedVariables false
def Op.enc (o : Op) : ByteArray := encO o.m o.c o.t o.ec o.sd o.ok o.sp o.rs
theorem enc_long {o : Op} (h : o.may = true) : o.enc.size ≤ 40 ∧ o.enc.size % 4 = 0 := by
  have hz : o.enc.size = longN o.m o.sd o.ok o.sp o.rs.length := encO_size _ _ _ _ _ _ _ _
  have h40 := (mayO_t h).2.2.2.2.2.2.1
  rw [hz]
  refine ⟨h40, ?_⟩
  unfold longN
  omega
def lonB (o : Op) : Int := (20 + (o.enc.size : Int)) / 4 * 16
def preS (s : Sg) : ByteArray := txt s.fr 2 ++ txt s.dt 2 ++ txt s.sq 4 ++ txt s.ak 4 ++ txt (lonB s.o) 1 ++ txt s.fl 1 ++ txt s.wi 2
def postS (s : Sg) : ByteArray := txt s.ur 2 ++ s.o.enc ++ s.da
def lenS (s : Sg) : Nat := 20 + s.o.enc.size + s.da.size
def sumG (f t : Int) (s : Sg) : Int := missV (totS [psS f t (lenS s) ++ preS s, postS s])
def encS (f t : Int) (s : Sg) : ByteArray := preS s ++ txt (sumG f t s) 2 ++ postS s
def rawS (s : Sg) : ByteArray := preS s ++ txt 0 2 ++ postS s
def hdrS (s : Sg) : ByteArray := preS s ++ txt 0 2 ++ txt s.ur 2 ++ s.o.enc
theorem raw_is (s : Sg) : hdrS s ++ s.da = rawS s := by unfold hdrS rawS postS; simp only [ByteArray.append_assoc]
theorem preS_size (s : Sg) : (preS s).size = 16 := by unfold preS; simp only [ByteArray.size_append, txt_size]
theorem postS_size (s : Sg) : (postS s).size = 2 + s.o.enc.size + s.da.size := by unfold postS; simp only [ByteArray.size_append, txt_size]
theorem rawS_size (s : Sg) : (rawS s).size = lenS s := by unfold rawS lenS; simp only [ByteArray.size_append, txt_size, preS_size, postS_size]; omega
theorem hdrS_size (s : Sg) : (hdrS s).size = 20 + s.o.enc.size := by unfold hdrS; simp only [ByteArray.size_append, txt_size, preS_size]
theorem encS_size (f t : Int) (s : Sg) : (encS f t s).size = lenS s := by unfold encS lenS; simp only [ByteArray.size_append, txt_size, preS_size, postS_size]; omega
theorem lenS_bd {s : Sg} (h : mayG s = true) : 20 ≤ lenS s ∧ lenS s ≤ 1540 := by
  obtain ⟨-, -, -, -, -, -, -, ho, hd⟩ := may_all h
  have := enc_long ho
  unfold lenS
  omega
theorem lonB_bd {o : Op} (h : o.may = true) : 80 ≤ lonB o ∧ lonB o ≤ 240 ∧ lonB o / 16 * 4 = 20 + (o.enc.size : Int) ∧ lonB o % 16 = 0 := by
  have := enc_long h
  unfold lonB
  omega
theorem ps_raw (f t : Int) (n : Nat) (s : Sg) : psS f t n ++ rawS s = (psS f t n ++ preS s) ++ txt 0 2 ++ postS s := by unfold rawS; simp only [ByteArray.append_assoc]
theorem ps_enc (f t : Int) (n : Nat) (s : Sg) : psS f t n ++ encS f t s = (psS f t n ++ preS s) ++ txt (sumG f t s) 2 ++ postS s := by unfold encS; simp only [ByteArray.append_assoc]
theorem ps_pre_size (f t : Int) (n : Nat) (s : Sg) : (psS f t n ++ preS s).size = 28 := by rw [ByteArray.size_append, psS_size, preS_size]
theorem sealG_is {s : Sg} (f t : Int) (h : mayG s = true) : sealV (psS f t (lenS s) ++ rawS s) 28 = psS f t (lenS s) ++ encS f t s ∧ sealC (psS f t (lenS s) ++ rawS s) 28 = 0 := by
  have hb := lenS_bd h
  have hz : (psS f t (lenS s) ++ rawS s).size = 12 + lenS s := by rw [ByteArray.size_append, psS_size, rawS_size]
  have hA : headS (psS f t (lenS s) ++ rawS s) 28 = psS f t (lenS s) ++ preS s := by
    rw [ps_raw]
    unfold headS
    have := mid_head (psS f t (lenS s) ++ preS s) (txt 0 2) (postS s)
    rw [ps_pre_size] at this
    exact this
  have hB : tailS (psS f t (lenS s) ++ rawS s) 28 = postS s := by
    rw [ps_raw]
    unfold tailS
    exact mid_tail _ _ _ _ (by rw [ps_pre_size, txt_size]; rfl)
  unfold sealV sealC
  rw [place_t (by rw [hz]; omega), if_pos rfl, if_pos rfl, if_pos (by omega), if_pos (by omega)]
  refine ⟨?_, rfl⟩
  unfold sealS
  rw [hA, hB, ps_enc]
  rfl
theorem cut_enc (f t : Int) (n : Nat) (s : Sg) : (psS f t n ++ encS f t s).extract 12 (psS f t n ++ encS f t s).size = encS f t s := by
  apply ba_toList
  rw [ext_toList, app_toList, List.drop_left' (by rw [len_toList, psS_size]), List.take_of_length_le]
  rw [len_toList, ByteArray.size_append, psS_size]
  omega
theorem sumG_bd (f t : Int) (s : Sg) : 0 ≤ sumG f t s ∧ sumG f t s ≤ 65535 := missV_bd _
theorem whole_enc (f t : Int) (s : Sg) : foldV (ws true (psS f t (lenS s) ++ encS f t s).data.toList) = 65535 := by
  rw [ps_enc, ws_mid _ _ _ (by rw [ps_pre_size]) (sumG_bd f t s).1 (sumG_bd f t s).2]
  exact foldV_fill _ (totS_nonneg _)
theorem enc_list (f t : Int) (s : Sg) : (encS f t s).data.toList = txtL s.fr 2 ++ (txtL s.dt 2 ++ (txtL s.sq 4 ++ (txtL s.ak 4 ++ (txtL (lonB s.o) 1 ++ (txtL s.fl 1 ++ (txtL s.wi 2 ++ (txtL (sumG f t s) 2 ++ (txtL s.ur 2 ++ (s.o.enc.data.toList ++ s.da.data.toList))))))))) := by
  unfold encS preS postS
  simp only [app_toList, txt_toList, List.append_assoc]
end Go.Proofs.YtkpdmgoldngdaaaGreatDoor

namespace Go.Proofs.YtkpdmgoldngdaaaGreatDoor
open Go.RowKit
set_option maxRecDepth 100000
set_option linter.unusedVariables false
theorem by12_num (b : ByteArray) (h : 12 < b.size) : (by12 b : Int) = numS (b.extract 12 13) := by
  unfold numS by12
  have hl : 12 < b.data.toList.length := by rw [len_toList]; exact h
  rw [ext_toList, show 13 - 12 = 1 by rfl, List.drop_eq_getElem_cons hl, List.getD_eq_getElem?_getD, List.getElem?_eq_getElem hl]
  simp [numL]
theorem sum0 {s : ByteArray} (h : foldV (ws true s.data.toList) = 65535) : (sumS s == 0) = true := by
  have : sumS s = 0 := by unfold sumS missV; omega
  rw [this]; rfl
theorem enc_parts {s : Sg} (f t : Int) (h : mayG s = true) : shapeB (encS f t s) = true ∧ (encS f t s).extract 20 (hdN (encS f t s)) = s.o.enc ∧ by12 (encS f t s) % 16 = 0 ∧ gotS (encS f t s) s.o = s := by
  obtain ⟨⟨f0, f1⟩, ⟨d0, d1⟩, ⟨s0, s1⟩, ⟨a0, a1⟩, ⟨l0, l1⟩, ⟨w0, w1⟩, ⟨u0, u1⟩, ho, hd⟩ := may_all h
  have hl := lonB_bd ho
  have he := enc_long ho
  have hz := encS_size f t s
  have hb := lenS_bd h
  have hL := enc_list f t s
  have hc := sumG_bd f t s
  generalize encS f t s = b at *
  have h12 : (by12 b : Int) = lonB s.o := by
    rw [by12_num b (by omega)]
    exact num_at b (txtL s.fr 2 ++ (txtL s.dt 2 ++ (txtL s.sq 4 ++ txtL s.ak 4))) _ _ 1 12 13 (by rw [hL]; simp only [List.append_assoc]; rfl) (by simp only [List.length_append, txtL_len]) rfl (by omega) (by simp; omega)
  have hh : hdN b = 20 + s.o.enc.size := by unfold hdN; omega
  have hlen : lenS s = 20 + s.o.enc.size + s.da.size := rfl
  refine ⟨?_, ?_, by omega, ?_⟩
  · unfold shapeB; rw [hh, hz]; exact decide_eq_true ⟨by omega, by omega, by omega, by omega⟩
  · rw [hh]
    apply ba_toList
    rw [ext_toList, hL]
    have e : txtL s.fr 2 ++ (txtL s.dt 2 ++ (txtL s.sq 4 ++ (txtL s.ak 4 ++ (txtL (lonB s.o) 1 ++ (txtL s.fl 1 ++ (txtL s.wi 2 ++ (txtL (sumG f t s) 2 ++ (txtL s.ur 2 ++ (s.o.enc.data.toList ++ s.da.data.toList))))))))) = (txtL s.fr 2 ++ (txtL s.dt 2 ++ (txtL s.sq 4 ++ (txtL s.ak 4 ++ (txtL (lonB s.o) 1 ++ (txtL s.fl 1 ++ (txtL s.wi 2 ++ (txtL (sumG f t s) 2 ++ txtL s.ur 2)))))))) ++ (s.o.enc.data.toList ++ s.da.data.toList) := by simp only [List.append_assoc]
    rw [e, List.drop_left' (by simp only [List.length_append, txtL_len])]
    exact List.take_left' (by rw [len_toList]; omega)
  · have hda : b.extract (hdN b) b.size = s.da := by
      rw [hh]
      apply ba_toList
      rw [ext_toList, hL]
      have e : txtL s.fr 2 ++ (txtL s.dt 2 ++ (txtL s.sq 4 ++ (txtL s.ak 4 ++ (txtL (lonB s.o) 1 ++ (txtL s.fl 1 ++ (txtL s.wi 2 ++ (txtL (sumG f t s) 2 ++ (txtL s.ur 2 ++ (s.o.enc.data.toList ++ s.da.data.toList))))))))) = (txtL s.fr 2 ++ (txtL s.dt 2 ++ (txtL s.sq 4 ++ (txtL s.ak 4 ++ (txtL (lonB s.o) 1 ++ (txtL s.fl 1 ++ (txtL s.wi 2 ++ (txtL (sumG f t s) 2 ++ (txtL s.ur 2 ++ s.o.enc.data.toList))))))))) ++ s.da.data.toList := by simp only [List.append_assoc]
      rw [e, List.drop_left' (by simp only [List.length_append, txtL_len, len_toList]; omega)]
      exact List.take_of_length_le (by rw [len_toList]; omega)
    unfold gotS
    rw [hda]
    have e1 : numS (b.extract 0 2) = s.fr := num_at b [] _ _ 2 0 2 hL rfl rfl f0 (by simp; omega)
    have e2 : numS (b.extract 2 4) = s.dt := num_at b (txtL s.fr 2) _ _ 2 2 4 hL (by simp only [txtL_len]) rfl d0 (by simp; omega)
    have e3 : numS (b.extract 4 8) = s.sq := num_at b (txtL s.fr 2 ++ txtL s.dt 2) _ _ 4 4 8 (by rw [hL]; simp only [List.append_assoc]; rfl) (by simp only [List.length_append, txtL_len]) rfl s0 (by simp; omega)
    have e4 : numS (b.extract 8 12) = s.ak := num_at b (txtL s.fr 2 ++ (txtL s.dt 2 ++ txtL s.sq 4)) _ _ 4 8 12 (by rw [hL]; simp only [List.append_assoc]; rfl) (by simp only [List.length_append, txtL_len]) rfl a0 (by simp; omega)
    have e5 : numS (b.extract 13 14) = s.fl := num_at b (txtL s.fr 2 ++ (txtL s.dt 2 ++ (txtL s.sq 4 ++ (txtL s.ak 4 ++ txtL (lonB s.o) 1)))) _ _ 1 13 14 (by rw [hL]; simp only [List.append_assoc]; rfl) (by simp only [List.length_append, txtL_len]) rfl l0 (by simp; omega)
    have e6 : numS (b.extract 14 16) = s.wi := num_at b (txtL s.fr 2 ++ (txtL s.dt 2 ++ (txtL s.sq 4 ++ (txtL s.ak 4 ++ (txtL (lonB s.o) 1 ++ txtL s.fl 1))))) _ _ 2 14 16 (by rw [hL]; simp only [List.append_assoc]; rfl) (by simp only [List.length_append, txtL_len]) rfl w0 (by simp; omega)
    have e7 : numS (b.extract 18 20) = s.ur := num_at b (txtL s.fr 2 ++ (txtL s.dt 2 ++ (txtL s.sq 4 ++ (txtL s.ak 4 ++ (txtL (lonB s.o) 1 ++ (txtL s.fl 1 ++ (txtL s.wi 2 ++ txtL (sumG f t s) 2))))))) _ _ 2 18 20 (by rw [hL]; simp only [List.append_assoc]; rfl) (by simp only [List.length_append, txtL_len]) rfl u0 (by simp; omega)
    rw [e1, e2, e3, e4, e5, e6, e7]
theorem dec_ok {s : Sg} (f t f' t' : Int) (h : mayG s = true) (hn : (numB f' && numB t') = true) (hw : wholeB f' t' (encS f t s) = true) : decG f' t' (encS f t s) = .ok s := by
  obtain ⟨h1, h2, h3, h4⟩ := enc_parts f t h
  obtain ⟨-, -, -, -, -, -, -, ho, -⟩ := may_all h
  rw [decG_fin hn h1 hw, h2, show decO s.o.enc.data.toList = some s.o from dec_enc _ _ _ _ _ _ _ _ ho]
  show (if lastB (encS f t s) s.o = true then Except.ok (gotS (encS f t s) s.o) else Except.error 80) = _
  unfold lastB
  rw [h4, h, h3]
  rfl
theorem whole_own {s : Sg} (f t : Int) : wholeB f t (encS f t s) = true := by
  unfold wholeB
  rw [encS_size]
  exact sum0 (whole_enc f t s)
theorem back_ok {s : Sg} {f t : Int} (h : mayG s = true) (hn : (numB f && numB t) = true) : decG f t (encS f t s) = .ok s := dec_ok f t f t h hn (whole_own f t)
end Go.Proofs.YtkpdmgoldngdaaaGreatDoor

namespace Go.Proofs.YtkpdmgoldngdaaaGreatDoor
open Go.RowKit
set_option maxRecDepth 100000
set_option linter.unusedVariables false

theorem putV_i (n k : Int) (j : Nat) (hk : k = j) (hj : 1 ≤ j ∧ j ≤ 6) (h0 : 0 ≤ n) (h1 : n < 2 ^ (8 * j)) : putV n k = txt n j := by
  subst hk
  exact putV_t n j hj.1 hj.2 h0 h1
theorem hdr_is {s : Sg} (h : mayG s = true) (E : ByteArray) (hE : E = s.o.enc) (L : Int) (hL : L = (20 + (E.size : Int)) / 4 * 16) : (putV s.fr 2) ++ (putV s.dt 2) ++ (putV s.sq 4) ++ (putV s.ak 4) ++ (putV L 1) ++ (putV s.fl 1) ++ (putV s.wi 2) ++ (putV 0 2) ++ (putV s.ur 2) ++ E = hdrS s := by
  obtain ⟨⟨f0, f1⟩, ⟨d0, d1⟩, ⟨s0, s1⟩, ⟨a0, a1⟩, ⟨l0, l1⟩, ⟨w0, w1⟩, ⟨u0, u1⟩, ho, hd⟩ := may_all h
  have hl := lonB_bd ho
  have hLL : L = lonB s.o := by rw [hL, hE]; rfl
  rw [putV_i s.fr 2 2 rfl (by decide) f0 (by simp; omega), putV_i s.dt 2 2 rfl (by decide) d0 (by simp; omega), putV_i s.sq 4 4 rfl (by decide) s0 (by simp; omega), putV_i s.ak 4 4 rfl (by decide) a0 (by simp; omega), putV_i L 1 1 rfl (by decide) (by omega) (by simp; omega), putV_i s.fl 1 1 rfl (by decide) l0 (by simp; omega), putV_i s.wi 2 2 rfl (by decide) w0 (by simp; omega), putV_i 0 2 2 rfl (by decide) (by decide) (by simp), putV_i s.ur 2 2 rfl (by decide) u0 (by simp; omega), hLL, hE]
  unfold hdrS preS
  simp only [ByteArray.append_assoc]
set_option maxHeartbeats 8000000 in
theorem hdr_s (s : Sg) (v : Value) (w : World) (hv : Rgs w v s.o.rs) (hG : Ord w) (h : mayG s = true) :
    Calls Tryz.prog 47 #[.agg #[.int .i64 s.fr, .int .i64 s.dt, .int .i64 s.sq, .int .i64 s.ak, .int .i64 s.fl, .int .i64 s.wi, .int .i64 s.ur, .int .i64 s.o.m, .int .i64 s.o.c, .int .i64 s.o.t, .int .i64 s.o.ec, .bool s.o.sd, .bool s.o.ok, .bool s.o.sp, v, .string s.da]] w fun e w' => e = .returned (.string (hdrS s)) ∧ Below w.heap.size w w' := by
  have hA := At.box w #[.int .i64 s.fr, .int .i64 s.dt, .int .i64 s.sq, .int .i64 s.ak, .int .i64 s.fl, .int .i64 s.wi, .int .i64 s.ur, .int .i64 s.o.m, .int .i64 s.o.c, .int .i64 s.o.t, .int .i64 s.o.ec, .bool s.o.sd, .bool s.o.ok, .bool s.o.sp, v, .string s.da] 34
  have hl := bel1 w (.cells #[.int .i64 s.fr, .int .i64 s.dt, .int .i64 s.sq, .int .i64 s.ak, .int .i64 s.fl, .int .i64 s.wi, .int .i64 s.ur, .int .i64 s.o.m, .int .i64 s.o.c, .int .i64 s.o.t, .int .i64 s.o.ec, .bool s.o.sd, .bool s.o.ok, .bool s.o.sp, v, .string s.da] 34)
  obtain ⟨-, -, -, -, -, -, -, ho, hd⟩ := may_all h
  have hlo := enc_long ho
  obtain ⟨E, hE⟩ : ∃ E, E = s.o.enc := ⟨_, rfl⟩
  obtain ⟨L, hL⟩ : ∃ L : Int, L = (20 + (E.size : Int)) / 4 * 16 := ⟨_, rfl⟩
  rw [← hdr_is h E hE L hL]
  rw [← hE] at hlo
  have HE : Hid (∀ W, Rgs W v s.o.rs → Ord W → Calls Tryz.prog 87 #[.agg #[.int .i64 s.o.m, .int .i64 s.o.c, .int .i64 s.o.t, .int .i64 s.o.ec, .bool s.o.sd, .bool s.o.ok, .bool s.o.sp, v]] W fun e w' => e = .returned (.tuple #[.string E, .int .i64 0]) ∧ Below W.heap.size W w') := fun W h1 h2 => by
    have := enc_t s.o.m s.o.c s.o.t s.o.ec s.o.sd s.o.ok s.o.sp v s.o.rs W h1 ho h2
    rw [hE]; exact this
  have z0 := putV_le s.fr 2
  have z1 := putV_le s.dt 2
  have z2 := putV_le s.sq 4
  have z3 := putV_le s.ak 4
  have z4 := putV_le L 1
  have z5 := putV_le s.fl 1
  have z6 := putV_le s.wi 2
  have z7 := putV_le 0 2
  have z8 := putV_le s.ur 2
  have e17 : IntKind.i64.wrap (20 + (E.size : Int)) = 20 + (E.size : Int) := by rw [IntKind.wrap_i64]; omega
  have e18 : IntKind.i64.wrap ((20 + (E.size : Int)).tdiv 4) = (20 + (E.size : Int)) / 4 := by rw [Int.tdiv_eq_ediv_of_nonneg (by omega), IntKind.wrap_i64]; omega
  have e19 : IntKind.i64.wrap ((20 + (E.size : Int)) / 4 * 16) = L := by rw [hL, IntKind.wrap_i64]; omega
  have r1 : ∀ W, (Op.stringOp .add (putV s.fr 2) (putV s.dt 2)).run Tryz.prog W = .ok (.string ((putV s.fr 2) ++ (putV s.dt 2))) W := fun W => run_string_add_sum W _ _ (by omega)
  have r2 : ∀ W, (Op.stringOp .add ((putV s.fr 2) ++ (putV s.dt 2)) (putV s.sq 4)).run Tryz.prog W = .ok (.string ((putV s.fr 2) ++ (putV s.dt 2) ++ (putV s.sq 4))) W := fun W => run_string_add_sum W _ _ (by simp only [ByteArray.size_append]; omega)
  have r3 : ∀ W, (Op.stringOp .add ((putV s.fr 2) ++ (putV s.dt 2) ++ (putV s.sq 4)) (putV s.ak 4)).run Tryz.prog W = .ok (.string ((putV s.fr 2) ++ (putV s.dt 2) ++ (putV s.sq 4) ++ (putV s.ak 4))) W := fun W => run_string_add_sum W _ _ (by simp only [ByteArray.size_append]; omega)
  have r4 : ∀ W, (Op.stringOp .add ((putV s.fr 2) ++ (putV s.dt 2) ++ (putV s.sq 4) ++ (putV s.ak 4)) (putV L 1)).run Tryz.prog W = .ok (.string ((putV s.fr 2) ++ (putV s.dt 2) ++ (putV s.sq 4) ++ (putV s.ak 4) ++ (putV L 1))) W := fun W => run_string_add_sum W _ _ (by simp only [ByteArray.size_append]; omega)
  have r5 : ∀ W, (Op.stringOp .add ((putV s.fr 2) ++ (putV s.dt 2) ++ (putV s.sq 4) ++ (putV s.ak 4) ++ (putV L 1)) (putV s.fl 1)).run Tryz.prog W = .ok (.string ((putV s.fr 2) ++ (putV s.dt 2) ++ (putV s.sq 4) ++ (putV s.ak 4) ++ (putV L 1) ++ (putV s.fl 1))) W := fun W => run_string_add_sum W _ _ (by simp only [ByteArray.size_append]; omega)
  have r6 : ∀ W, (Op.stringOp .add ((putV s.fr 2) ++ (putV s.dt 2) ++ (putV s.sq 4) ++ (putV s.ak 4) ++ (putV L 1) ++ (putV s.fl 1)) (putV s.wi 2)).run Tryz.prog W = .ok (.string ((putV s.fr 2) ++ (putV s.dt 2) ++ (putV s.sq 4) ++ (putV s.ak 4) ++ (putV L 1) ++ (putV s.fl 1) ++ (putV s.wi 2))) W := fun W => run_string_add_sum W _ _ (by simp only [ByteArray.size_append]; omega)
  have r7 : ∀ W, (Op.stringOp .add ((putV s.fr 2) ++ (putV s.dt 2) ++ (putV s.sq 4) ++ (putV s.ak 4) ++ (putV L 1) ++ (putV s.fl 1) ++ (putV s.wi 2)) (putV 0 2)).run Tryz.prog W = .ok (.string ((putV s.fr 2) ++ (putV s.dt 2) ++ (putV s.sq 4) ++ (putV s.ak 4) ++ (putV L 1) ++ (putV s.fl 1) ++ (putV s.wi 2) ++ (putV 0 2))) W := fun W => run_string_add_sum W _ _ (by simp only [ByteArray.size_append]; omega)
  have r8 : ∀ W, (Op.stringOp .add ((putV s.fr 2) ++ (putV s.dt 2) ++ (putV s.sq 4) ++ (putV s.ak 4) ++ (putV L 1) ++ (putV s.fl 1) ++ (putV s.wi 2) ++ (putV 0 2)) (putV s.ur 2)).run Tryz.prog W = .ok (.string ((putV s.fr 2) ++ (putV s.dt 2) ++ (putV s.sq 4) ++ (putV s.ak 4) ++ (putV L 1) ++ (putV s.fl 1) ++ (putV s.wi 2) ++ (putV 0 2) ++ (putV s.ur 2))) W := fun W => run_string_add_sum W _ _ (by simp only [ByteArray.size_append]; omega)
  have r9 : ∀ W, (Op.stringOp .add ((putV s.fr 2) ++ (putV s.dt 2) ++ (putV s.sq 4) ++ (putV s.ak 4) ++ (putV L 1) ++ (putV s.fl 1) ++ (putV s.wi 2) ++ (putV 0 2) ++ (putV s.ur 2)) E).run Tryz.prog W = .ok (.string ((putV s.fr 2) ++ (putV s.dt 2) ++ (putV s.sq 4) ++ (putV s.ak 4) ++ (putV L 1) ++ (putV s.fl 1) ++ (putV s.wi 2) ++ (putV 0 2) ++ (putV s.ur 2) ++ E)) W := fun W => run_string_add_sum W _ _ (by simp only [ByteArray.size_append]; omega)
  clear z0 z1 z2 z3 z4 z5 z6 z7 z8 hL hE hlo h hd ho
  go_enter Tryz.func47, Tryz.ntmps47
  go_wp2_with (refine wpList_loadG 32 _ (by rfl) (by rfl) w.heap.size 7 (by rfl) _ _ hA.opts Tryz.underlying32 rfl size32 ?_)
  refine (HE.out _ (hv.later hl) (hG.later hl)).mono ?_
  rintro e w2 ⟨rfl, hb⟩
  replace hl := bt hl hb
  replace hA := hA.later hb
  clear hb HE
  go_upto_region 2 with fail
  refine wp_region_any (by kernel_rfl) ?_
  refine region_facts (fun W => Below w.heap.size w W ∧ At W w.heap.size #[.int .i64 s.fr, .int .i64 s.dt, .int .i64 s.sq, .int .i64 s.ak, .int .i64 s.fl, .int .i64 s.wi, .int .i64 s.ur, .int .i64 s.o.m, .int .i64 s.o.c, .int .i64 s.o.t, .int .i64 s.o.ec, .bool s.o.sd, .bool s.o.ok, .bool s.o.sp, v, .string s.da]) (GE (fun qq => match qq with | 0 => .pointer (some ⟨w.heap.size, 0, none⟩) | 1 => .int .i64 (s.fr) | 2 => .string (putV s.fr 2) | 3 => .pointer (some ⟨w.heap.size, 1, none⟩) | 4 => .int .i64 (s.dt) | 5 => .string (putV s.dt 2) | 6 => .string ((putV s.fr 2) ++ (putV s.dt 2)) | 7 => .pointer (some ⟨w.heap.size, 2, none⟩) | 8 => .int .i64 (s.sq) | 9 => .string (putV s.sq 4) | 10 => .string ((putV s.fr 2) ++ (putV s.dt 2) ++ (putV s.sq 4)) | 11 => .pointer (some ⟨w.heap.size, 3, none⟩) | 12 => .int .i64 (s.ak) | 13 => .string (putV s.ak 4) | 14 => .string ((putV s.fr 2) ++ (putV s.dt 2) ++ (putV s.sq 4) ++ (putV s.ak 4)) | 15 => .string E | 16 => .int .i64 ((E.size : Int)) | 17 => .int .i64 (20 + (E.size : Int)) | 18 => .int .i64 ((20 + (E.size : Int)) / 4) | 19 => .int .i64 (L) | 20 => .string (putV L 1) | 21 => .string ((putV s.fr 2) ++ (putV s.dt 2) ++ (putV s.sq 4) ++ (putV s.ak 4) ++ (putV L 1)) | 22 => .pointer (some ⟨w.heap.size, 4, none⟩) | 23 => .int .i64 (s.fl) | 24 => .string (putV s.fl 1) | 25 => .string ((putV s.fr 2) ++ (putV s.dt 2) ++ (putV s.sq 4) ++ (putV s.ak 4) ++ (putV L 1) ++ (putV s.fl 1)) | 26 => .pointer (some ⟨w.heap.size, 5, none⟩) | 27 => .int .i64 (s.wi) | 28 => .string (putV s.wi 2) | 29 => .string ((putV s.fr 2) ++ (putV s.dt 2) ++ (putV s.sq 4) ++ (putV s.ak 4) ++ (putV L 1) ++ (putV s.fl 1) ++ (putV s.wi 2)) | 30 => .string (putV 0 2) | 31 => .string ((putV s.fr 2) ++ (putV s.dt 2) ++ (putV s.sq 4) ++ (putV s.ak 4) ++ (putV L 1) ++ (putV s.fl 1) ++ (putV s.wi 2) ++ (putV 0 2)) | 32 => .pointer (some ⟨w.heap.size, 6, none⟩) | 33 => .int .i64 (s.ur) | 34 => .string (putV s.ur 2) | 35 => .string ((putV s.fr 2) ++ (putV s.dt 2) ++ (putV s.sq 4) ++ (putV s.ak 4) ++ (putV L 1) ++ (putV s.fl 1) ++ (putV s.wi 2) ++ (putV 0 2) ++ (putV s.ur 2)) | 36 => .string E | 37 => .string ((putV s.fr 2) ++ (putV s.dt 2) ++ (putV s.sq 4) ++ (putV s.ak 4) ++ (putV L 1) ++ (putV s.fl 1) ++ (putV s.wi 2) ++ (putV 0 2) ++ (putV s.ur 2) ++ E) | 38 => .string ((putV s.fr 2) ++ (putV s.dt 2) ++ (putV s.sq 4) ++ (putV s.ak 4) ++ (putV L 1) ++ (putV s.fl 1) ++ (putV s.wi 2) ++ (putV 0 2) ++ (putV s.ur 2) ++ E) | _ => undef) (fun _ => none)) (n := 49) (by kernel_rfl) rfl (by kernel_rfl) (GE_later _ _ (fun _ _ h => by cases h)) ?_ ?_ ⟨hl.drew, hA.later ((Below.refl _ _).drew)⟩ (Nat.le_refl _)
  · clear hl hA
    refine ⟨?_, ?_, ?_, ?_, ?_, ?_, ?_, ?_, ?_, ?_, ?_, ?_, ?_, ?_, ?_, ?_, ?_, ?_, ?_, ?_, ?_, ?_, ?_, ?_, ?_, ?_, ?_, ?_, ?_, ?_, ?_, ?_, ?_, ?_, ?_, ?_, ?_, ?_, ?_, trivial⟩
    · intro ac w1 hS hT hB hD K hK
      rw [if_pos (by rfl)]
      have d1 : ac.tmps.getD 1 undef = .pointer (some ⟨w.heap.size, 0, none⟩) := hB 1 (by kernel_rfl)
      clear hB hD hT
      go_simp
      exact hK _ _ hS (Below.refl _ _) rfl
    · intro ac w1 hS hT hB hD K hK
      rw [if_pos (by rfl)]
      have d11 : ac.tmps.getD 11 undef = .pointer (some ⟨w.heap.size, 0, none⟩) := hD ⟨0, .data⟩ (by simp) rfl _ 11 rfl rfl
      clear hB hD hT
      have hc := hS.2.sixteen.1
      go_simp
      exact hK _ _ hS (Below.refl _ _) rfl
    · intro ac w1 hS hT hB hD K hK
      rw [if_pos (by rfl)]
      have d12 : ac.tmps.getD 12 undef = .int .i64 (s.fr) := hD ⟨1, .data⟩ (by simp) rfl _ 12 rfl rfl
      clear hB hD hT
      go_simp
      refine (put_s _ _ _).mono ?_
      rintro e w' ⟨rfl, hb⟩
      exact hK _ _ ⟨bt hS.1 hb, hS.2.later hb⟩ hb rfl
    · intro ac w1 hS hT hB hD K hK
      rw [if_pos (by rfl)]
      have d1 : ac.tmps.getD 1 undef = .pointer (some ⟨w.heap.size, 0, none⟩) := hB 1 (by kernel_rfl)
      clear hB hD hT
      go_simp
      exact hK _ _ hS (Below.refl _ _) rfl
    · intro ac w1 hS hT hB hD K hK
      rw [if_pos (by rfl)]
      have d14 : ac.tmps.getD 14 undef = .pointer (some ⟨w.heap.size, 1, none⟩) := hD ⟨3, .data⟩ (by simp) rfl _ 14 rfl rfl
      clear hB hD hT
      have hc := hS.2.sixteen.1
      go_simp
      exact hK _ _ hS (Below.refl _ _) rfl
    · intro ac w1 hS hT hB hD K hK
      rw [if_pos (by rfl)]
      have d15 : ac.tmps.getD 15 undef = .int .i64 (s.dt) := hD ⟨4, .data⟩ (by simp) rfl _ 15 rfl rfl
      clear hB hD hT
      go_simp
      refine (put_s _ _ _).mono ?_
      rintro e w' ⟨rfl, hb⟩
      exact hK _ _ ⟨bt hS.1 hb, hS.2.later hb⟩ hb rfl
    · intro ac w1 hS hT hB hD K hK
      rw [if_pos (by rfl)]
      have d13 : ac.tmps.getD 13 undef = .string (putV s.fr 2) := hD ⟨2, .data⟩ (by simp) rfl _ 13 rfl rfl
      have d16 : ac.tmps.getD 16 undef = .string (putV s.dt 2) := hD ⟨5, .data⟩ (by simp) rfl _ 16 rfl rfl
      clear hB hD hT
      go_simp
      exact hK _ _ hS (Below.refl _ _) rfl
    · intro ac w1 hS hT hB hD K hK
      rw [if_pos (by rfl)]
      have d1 : ac.tmps.getD 1 undef = .pointer (some ⟨w.heap.size, 0, none⟩) := hB 1 (by kernel_rfl)
      clear hB hD hT
      go_simp
      exact hK _ _ hS (Below.refl _ _) rfl
    · intro ac w1 hS hT hB hD K hK
      rw [if_pos (by rfl)]
      have d18 : ac.tmps.getD 18 undef = .pointer (some ⟨w.heap.size, 2, none⟩) := hD ⟨7, .data⟩ (by simp) rfl _ 18 rfl rfl
      clear hB hD hT
      have hc := hS.2.sixteen.1
      go_simp
      exact hK _ _ hS (Below.refl _ _) rfl
    · intro ac w1 hS hT hB hD K hK
      rw [if_pos (by rfl)]
      have d19 : ac.tmps.getD 19 undef = .int .i64 (s.sq) := hD ⟨8, .data⟩ (by simp) rfl _ 19 rfl rfl
      clear hB hD hT
      go_simp
      refine (put_s _ _ _).mono ?_
      rintro e w' ⟨rfl, hb⟩
      exact hK _ _ ⟨bt hS.1 hb, hS.2.later hb⟩ hb rfl
    · intro ac w1 hS hT hB hD K hK
      rw [if_pos (by rfl)]
      have d17 : ac.tmps.getD 17 undef = .string ((putV s.fr 2) ++ (putV s.dt 2)) := hD ⟨6, .data⟩ (by simp) rfl _ 17 rfl rfl
      have d20 : ac.tmps.getD 20 undef = .string (putV s.sq 4) := hD ⟨9, .data⟩ (by simp) rfl _ 20 rfl rfl
      clear hB hD hT
      go_simp
      exact hK _ _ hS (Below.refl _ _) rfl
    · intro ac w1 hS hT hB hD K hK
      rw [if_pos (by rfl)]
      have d1 : ac.tmps.getD 1 undef = .pointer (some ⟨w.heap.size, 0, none⟩) := hB 1 (by kernel_rfl)
      clear hB hD hT
      go_simp
      exact hK _ _ hS (Below.refl _ _) rfl
    · intro ac w1 hS hT hB hD K hK
      rw [if_pos (by rfl)]
      have d22 : ac.tmps.getD 22 undef = .pointer (some ⟨w.heap.size, 3, none⟩) := hD ⟨11, .data⟩ (by simp) rfl _ 22 rfl rfl
      clear hB hD hT
      have hc := hS.2.sixteen.1
      go_simp
      exact hK _ _ hS (Below.refl _ _) rfl
    · intro ac w1 hS hT hB hD K hK
      rw [if_pos (by rfl)]
      have d23 : ac.tmps.getD 23 undef = .int .i64 (s.ak) := hD ⟨12, .data⟩ (by simp) rfl _ 23 rfl rfl
      clear hB hD hT
      go_simp
      refine (put_s _ _ _).mono ?_
      rintro e w' ⟨rfl, hb⟩
      exact hK _ _ ⟨bt hS.1 hb, hS.2.later hb⟩ hb rfl
    · intro ac w1 hS hT hB hD K hK
      rw [if_pos (by rfl)]
      have d21 : ac.tmps.getD 21 undef = .string ((putV s.fr 2) ++ (putV s.dt 2) ++ (putV s.sq 4)) := hD ⟨10, .data⟩ (by simp) rfl _ 21 rfl rfl
      have d24 : ac.tmps.getD 24 undef = .string (putV s.ak 4) := hD ⟨13, .data⟩ (by simp) rfl _ 24 rfl rfl
      clear hB hD hT
      go_simp
      exact hK _ _ hS (Below.refl _ _) rfl
    · intro ac w1 hS hT hB hD K hK
      rw [if_pos (by rfl)]
      have d3 : ac.tmps.getD 3 undef = .string E := hB 3 (by kernel_rfl)
      clear hB hD hT
      go_simp
      exact hK _ _ hS (Below.refl _ _) rfl
    · intro ac w1 hS hT hB hD K hK
      rw [if_pos (by rfl)]
      have d26 : ac.tmps.getD 26 undef = .string E := hD ⟨15, .data⟩ (by simp) rfl _ 26 rfl rfl
      clear hB hD hT
      go_simp
      exact hK _ _ hS (Below.refl _ _) rfl
    · intro ac w1 hS hT hB hD K hK
      rw [if_pos (by rfl)]
      have d27 : ac.tmps.getD 27 undef = .int .i64 ((E.size : Int)) := hD ⟨16, .data⟩ (by simp) rfl _ 27 rfl rfl
      clear hB hD hT
      go_simp
      exact hK _ _ hS (Below.refl _ _) rfl
    · intro ac w1 hS hT hB hD K hK
      rw [if_pos (by rfl)]
      have d28 : ac.tmps.getD 28 undef = .int .i64 (20 + (E.size : Int)) := hD ⟨17, .data⟩ (by simp) rfl _ 28 rfl rfl
      clear hB hD hT
      go_simp
      exact hK _ _ hS (Below.refl _ _) rfl
    · intro ac w1 hS hT hB hD K hK
      rw [if_pos (by rfl)]
      have d29 : ac.tmps.getD 29 undef = .int .i64 ((20 + (E.size : Int)) / 4) := hD ⟨18, .data⟩ (by simp) rfl _ 29 rfl rfl
      clear hB hD hT
      have e19 := e19
      go_simp
      exact hK _ _ hS (Below.refl _ _) rfl
    · intro ac w1 hS hT hB hD K hK
      rw [if_pos (by rfl)]
      have d30 : ac.tmps.getD 30 undef = .int .i64 (L) := hD ⟨19, .data⟩ (by simp) rfl _ 30 rfl rfl
      clear hB hD hT
      go_simp
      refine (put_s _ _ _).mono ?_
      rintro e w' ⟨rfl, hb⟩
      exact hK _ _ ⟨bt hS.1 hb, hS.2.later hb⟩ hb rfl
    · intro ac w1 hS hT hB hD K hK
      rw [if_pos (by rfl)]
      have d25 : ac.tmps.getD 25 undef = .string ((putV s.fr 2) ++ (putV s.dt 2) ++ (putV s.sq 4) ++ (putV s.ak 4)) := hD ⟨14, .data⟩ (by simp) rfl _ 25 rfl rfl
      have d31 : ac.tmps.getD 31 undef = .string (putV L 1) := hD ⟨20, .data⟩ (by simp) rfl _ 31 rfl rfl
      clear hB hD hT
      go_simp
      exact hK _ _ hS (Below.refl _ _) rfl
    · intro ac w1 hS hT hB hD K hK
      rw [if_pos (by rfl)]
      have d1 : ac.tmps.getD 1 undef = .pointer (some ⟨w.heap.size, 0, none⟩) := hB 1 (by kernel_rfl)
      clear hB hD hT
      go_simp
      exact hK _ _ hS (Below.refl _ _) rfl
    · intro ac w1 hS hT hB hD K hK
      rw [if_pos (by rfl)]
      have d33 : ac.tmps.getD 33 undef = .pointer (some ⟨w.heap.size, 4, none⟩) := hD ⟨22, .data⟩ (by simp) rfl _ 33 rfl rfl
      clear hB hD hT
      have hc := hS.2.sixteen.1
      go_simp
      exact hK _ _ hS (Below.refl _ _) rfl
    · intro ac w1 hS hT hB hD K hK
      rw [if_pos (by rfl)]
      have d34 : ac.tmps.getD 34 undef = .int .i64 (s.fl) := hD ⟨23, .data⟩ (by simp) rfl _ 34 rfl rfl
      clear hB hD hT
      go_simp
      refine (put_s _ _ _).mono ?_
      rintro e w' ⟨rfl, hb⟩
      exact hK _ _ ⟨bt hS.1 hb, hS.2.later hb⟩ hb rfl
    · intro ac w1 hS hT hB hD K hK
      rw [if_pos (by rfl)]
      have d32 : ac.tmps.getD 32 undef = .string ((putV s.fr 2) ++ (putV s.dt 2) ++ (putV s.sq 4) ++ (putV s.ak 4) ++ (putV L 1)) := hD ⟨21, .data⟩ (by simp) rfl _ 32 rfl rfl
      have d35 : ac.tmps.getD 35 undef = .string (putV s.fl 1) := hD ⟨24, .data⟩ (by simp) rfl _ 35 rfl rfl
      clear hB hD hT
      go_simp
      exact hK _ _ hS (Below.refl _ _) rfl
    · intro ac w1 hS hT hB hD K hK
      rw [if_pos (by rfl)]
      have d1 : ac.tmps.getD 1 undef = .pointer (some ⟨w.heap.size, 0, none⟩) := hB 1 (by kernel_rfl)
      clear hB hD hT
      go_simp
      exact hK _ _ hS (Below.refl _ _) rfl
    · intro ac w1 hS hT hB hD K hK
      rw [if_pos (by rfl)]
      have d37 : ac.tmps.getD 37 undef = .pointer (some ⟨w.heap.size, 5, none⟩) := hD ⟨26, .data⟩ (by simp) rfl _ 37 rfl rfl
      clear hB hD hT
      have hc := hS.2.sixteen.1
      go_simp
      exact hK _ _ hS (Below.refl _ _) rfl
    · intro ac w1 hS hT hB hD K hK
      rw [if_pos (by rfl)]
      have d38 : ac.tmps.getD 38 undef = .int .i64 (s.wi) := hD ⟨27, .data⟩ (by simp) rfl _ 38 rfl rfl
      clear hB hD hT
      go_simp
      refine (put_s _ _ _).mono ?_
      rintro e w' ⟨rfl, hb⟩
      exact hK _ _ ⟨bt hS.1 hb, hS.2.later hb⟩ hb rfl
    · intro ac w1 hS hT hB hD K hK
      rw [if_pos (by rfl)]
      have d36 : ac.tmps.getD 36 undef = .string ((putV s.fr 2) ++ (putV s.dt 2) ++ (putV s.sq 4) ++ (putV s.ak 4) ++ (putV L 1) ++ (putV s.fl 1)) := hD ⟨25, .data⟩ (by simp) rfl _ 36 rfl rfl
      have d39 : ac.tmps.getD 39 undef = .string (putV s.wi 2) := hD ⟨28, .data⟩ (by simp) rfl _ 39 rfl rfl
      clear hB hD hT
      go_simp
      exact hK _ _ hS (Below.refl _ _) rfl
    · intro ac w1 hS hT hB hD K hK
      rw [if_pos (by rfl)]
      clear hB hD hT
      go_simp
      refine (put_s _ _ _).mono ?_
      rintro e w' ⟨rfl, hb⟩
      exact hK _ _ ⟨bt hS.1 hb, hS.2.later hb⟩ hb rfl
    · intro ac w1 hS hT hB hD K hK
      rw [if_pos (by rfl)]
      have d40 : ac.tmps.getD 40 undef = .string ((putV s.fr 2) ++ (putV s.dt 2) ++ (putV s.sq 4) ++ (putV s.ak 4) ++ (putV L 1) ++ (putV s.fl 1) ++ (putV s.wi 2)) := hD ⟨29, .data⟩ (by simp) rfl _ 40 rfl rfl
      have d41 : ac.tmps.getD 41 undef = .string (putV 0 2) := hD ⟨30, .data⟩ (by simp) rfl _ 41 rfl rfl
      clear hB hD hT
      go_simp
      exact hK _ _ hS (Below.refl _ _) rfl
    · intro ac w1 hS hT hB hD K hK
      rw [if_pos (by rfl)]
      have d1 : ac.tmps.getD 1 undef = .pointer (some ⟨w.heap.size, 0, none⟩) := hB 1 (by kernel_rfl)
      clear hB hD hT
      go_simp
      exact hK _ _ hS (Below.refl _ _) rfl
    · intro ac w1 hS hT hB hD K hK
      rw [if_pos (by rfl)]
      have d43 : ac.tmps.getD 43 undef = .pointer (some ⟨w.heap.size, 6, none⟩) := hD ⟨32, .data⟩ (by simp) rfl _ 43 rfl rfl
      clear hB hD hT
      have hc := hS.2.sixteen.1
      go_simp
      exact hK _ _ hS (Below.refl _ _) rfl
    · intro ac w1 hS hT hB hD K hK
      rw [if_pos (by rfl)]
      have d44 : ac.tmps.getD 44 undef = .int .i64 (s.ur) := hD ⟨33, .data⟩ (by simp) rfl _ 44 rfl rfl
      clear hB hD hT
      go_simp
      refine (put_s _ _ _).mono ?_
      rintro e w' ⟨rfl, hb⟩
      exact hK _ _ ⟨bt hS.1 hb, hS.2.later hb⟩ hb rfl
    · intro ac w1 hS hT hB hD K hK
      rw [if_pos (by rfl)]
      have d42 : ac.tmps.getD 42 undef = .string ((putV s.fr 2) ++ (putV s.dt 2) ++ (putV s.sq 4) ++ (putV s.ak 4) ++ (putV L 1) ++ (putV s.fl 1) ++ (putV s.wi 2) ++ (putV 0 2)) := hD ⟨31, .data⟩ (by simp) rfl _ 42 rfl rfl
      have d45 : ac.tmps.getD 45 undef = .string (putV s.ur 2) := hD ⟨34, .data⟩ (by simp) rfl _ 45 rfl rfl
      clear hB hD hT
      go_simp
      exact hK _ _ hS (Below.refl _ _) rfl
    · intro ac w1 hS hT hB hD K hK
      rw [if_pos (by rfl)]
      have d3 : ac.tmps.getD 3 undef = .string E := hB 3 (by kernel_rfl)
      clear hB hD hT
      go_simp
      exact hK _ _ hS (Below.refl _ _) rfl
    · intro ac w1 hS hT hB hD K hK
      rw [if_pos (by rfl)]
      have d46 : ac.tmps.getD 46 undef = .string ((putV s.fr 2) ++ (putV s.dt 2) ++ (putV s.sq 4) ++ (putV s.ak 4) ++ (putV L 1) ++ (putV s.fl 1) ++ (putV s.wi 2) ++ (putV 0 2) ++ (putV s.ur 2)) := hD ⟨35, .data⟩ (by simp) rfl _ 46 rfl rfl
      have d47 : ac.tmps.getD 47 undef = .string E := hD ⟨36, .data⟩ (by simp) rfl _ 47 rfl rfl
      clear hB hD hT
      go_simp
      exact hK _ _ hS (Below.refl _ _) rfl
    · intro ac w1 hS hT hB hD K hK
      rw [if_pos (by rfl)]
      have d48 : ac.tmps.getD 48 undef = .string ((putV s.fr 2) ++ (putV s.dt 2) ++ (putV s.sq 4) ++ (putV s.ak 4) ++ (putV L 1) ++ (putV s.fl 1) ++ (putV s.wi 2) ++ (putV 0 2) ++ (putV s.ur 2) ++ E) := hD ⟨37, .data⟩ (by simp) rfl _ 48 rfl rfl
      clear hB hD hT
      go_simp
      exact hK _ _ hS (Below.refl _ _) rfl
  · intro ac w9 hS hT hdf hB hF
    obtain ⟨⟨l⟩, df⟩ := ac
    match l, hT with
    | x0 :: x1 :: x2 :: x3 :: x4 :: x5 :: x6 :: x7 :: x8 :: x9 :: x10 :: x11 :: x12 :: x13 :: x14 :: x15 :: x16 :: x17 :: x18 :: x19 :: x20 :: x21 :: x22 :: x23 :: x24 :: x25 :: x26 :: x27 :: x28 :: x29 :: x30 :: x31 :: x32 :: x33 :: x34 :: x35 :: x36 :: x37 :: x38 :: x39 :: x40 :: x41 :: x42 :: x43 :: x44 :: x45 :: x46 :: x47 :: x48 :: [], _ =>
      have s2 : x2 = .string ((putV s.fr 2) ++ (putV s.dt 2) ++ (putV s.sq 4) ++ (putV s.ak 4) ++ (putV L 1) ++ (putV s.fl 1) ++ (putV s.wi 2) ++ (putV 0 2) ++ (putV s.ur 2) ++ E) := hF 38 _ 2 rfl rfl
      have sd : df = [] := hdf
      subst s2 sd
      clear hB hF
      go_wp2
      go_ret
      exact ⟨rfl, hS.1⟩
end Go.Proofs.YtkpdmgoldngdaaaGreatDoor

namespace Go.Proofs.YtkpdmgoldngdaaaGreatDoor
open Go.RowKit
set_option maxRecDepth 100000
set_option linter.unusedVariables false

theorem encs_r (f t : Int) (s : Sg) (v : Value) (w : World) (h : (numB f && numB t) = false) :
    Calls Tryz.prog 19 #[.int .i64 f, .int .i64 t, .agg #[.int .i64 s.fr, .int .i64 s.dt, .int .i64 s.sq, .int .i64 s.ak, .int .i64 s.fl, .int .i64 s.wi, .int .i64 s.ur, .int .i64 s.o.m, .int .i64 s.o.c, .int .i64 s.o.t, .int .i64 s.o.ec, .bool s.o.sd, .bool s.o.ok, .bool s.o.sp, v, .string s.da]] w fun e w' => e = .returned (.tuple #[.string ⟨#[]⟩, .int .i64 1]) ∧ Below w.heap.size w w' := by
  have hA := At.box w #[.int .i64 s.fr, .int .i64 s.dt, .int .i64 s.sq, .int .i64 s.ak, .int .i64 s.fl, .int .i64 s.wi, .int .i64 s.ur, .int .i64 s.o.m, .int .i64 s.o.c, .int .i64 s.o.t, .int .i64 s.o.ec, .bool s.o.sd, .bool s.o.ok, .bool s.o.sp, v, .string s.da] 34
  have hl := bel1 w (.cells #[.int .i64 s.fr, .int .i64 s.dt, .int .i64 s.sq, .int .i64 s.ak, .int .i64 s.fl, .int .i64 s.wi, .int .i64 s.ur, .int .i64 s.o.m, .int .i64 s.o.c, .int .i64 s.o.t, .int .i64 s.o.ec, .bool s.o.sd, .bool s.o.ok, .bool s.o.sp, v, .string s.da] 34)
  have hc := fun W => addr_any f t W
  rw [h] at hc
  clear h
  go_enter Tryz.func19, Tryz.ntmps19
  go_wp2_with fail
  refine (hc _).mono ?_
  rintro e w1 ⟨rfl, rfl⟩
  go_wp2
  go_ret2
  exact ⟨rfl, hl⟩
theorem encs_n (f t : Int) (s : Sg) (v : Value) (w : World) (hv : Rgs w v s.o.rs) (hn : s.o.rs.length ≤ 17592186044416) (hG : Ord w) (h : (numB f && numB t) = true) (hm : mayG s = false) :
    Calls Tryz.prog 19 #[.int .i64 f, .int .i64 t, .agg #[.int .i64 s.fr, .int .i64 s.dt, .int .i64 s.sq, .int .i64 s.ak, .int .i64 s.fl, .int .i64 s.wi, .int .i64 s.ur, .int .i64 s.o.m, .int .i64 s.o.c, .int .i64 s.o.t, .int .i64 s.o.ec, .bool s.o.sd, .bool s.o.ok, .bool s.o.sp, v, .string s.da]] w fun e w' => e = .returned (.tuple #[.string ⟨#[]⟩, .int .i64 80]) ∧ Below w.heap.size w w' := by
  have hA := At.box w #[.int .i64 s.fr, .int .i64 s.dt, .int .i64 s.sq, .int .i64 s.ak, .int .i64 s.fl, .int .i64 s.wi, .int .i64 s.ur, .int .i64 s.o.m, .int .i64 s.o.c, .int .i64 s.o.t, .int .i64 s.o.ec, .bool s.o.sd, .bool s.o.ok, .bool s.o.sp, v, .string s.da] 34
  have hl := bel1 w (.cells #[.int .i64 s.fr, .int .i64 s.dt, .int .i64 s.sq, .int .i64 s.ak, .int .i64 s.fl, .int .i64 s.wi, .int .i64 s.ur, .int .i64 s.o.m, .int .i64 s.o.c, .int .i64 s.o.t, .int .i64 s.o.ec, .bool s.o.sd, .bool s.o.ok, .bool s.o.sp, v, .string s.da] 34)
  have hc := fun W => addr_any f t W
  rw [h] at hc
  have hq := may_s s v _ (hv.later hl) hn (hG.later hl)
  rw [hm] at hq
  clear h hm
  go_enter Tryz.func19, Tryz.ntmps19
  go_wp2_with fail
  refine (hc _).mono ?_
  rintro e w1 ⟨rfl, rfl⟩
  go_wp2_with (refine wpList_loadG 34 _ (by rfl) (by rfl) (w.heap.size) 0 (by rfl) _ _ hA.range Tryz.underlying34 rfl size34 ?_)
  refine hq.mono ?_
  rintro e w2 ⟨rfl, hb⟩
  go_wp2
  go_ret2
  exact ⟨rfl, bt hl hb⟩
set_option maxHeartbeats 8000000 in
theorem encs_y (f t : Int) (s : Sg) (v : Value) (w : World) (hv : Rgs w v s.o.rs) (hG : Ord w) (h : (numB f && numB t) = true) (hm : mayG s = true) :
    Calls Tryz.prog 19 #[.int .i64 f, .int .i64 t, .agg #[.int .i64 s.fr, .int .i64 s.dt, .int .i64 s.sq, .int .i64 s.ak, .int .i64 s.fl, .int .i64 s.wi, .int .i64 s.ur, .int .i64 s.o.m, .int .i64 s.o.c, .int .i64 s.o.t, .int .i64 s.o.ec, .bool s.o.sd, .bool s.o.ok, .bool s.o.sp, v, .string s.da]] w fun e w' => e = .returned (.tuple #[.string (encS f t s), .int .i64 0]) ∧ Below w.heap.size w w' := by
  have hA := At.box w #[.int .i64 s.fr, .int .i64 s.dt, .int .i64 s.sq, .int .i64 s.ak, .int .i64 s.fl, .int .i64 s.wi, .int .i64 s.ur, .int .i64 s.o.m, .int .i64 s.o.c, .int .i64 s.o.t, .int .i64 s.o.ec, .bool s.o.sd, .bool s.o.ok, .bool s.o.sp, v, .string s.da] 34
  have hl := bel1 w (.cells #[.int .i64 s.fr, .int .i64 s.dt, .int .i64 s.sq, .int .i64 s.ak, .int .i64 s.fl, .int .i64 s.wi, .int .i64 s.ur, .int .i64 s.o.m, .int .i64 s.o.c, .int .i64 s.o.t, .int .i64 s.o.ec, .bool s.o.sd, .bool s.o.ok, .bool s.o.sp, v, .string s.da] 34)
  have hc := fun W => addr_any f t W
  rw [h] at hc
  obtain ⟨hf, ht⟩ : numB f = true ∧ numB t = true := by simpa using h
  have hn : s.o.rs.length ≤ 17592186044416 := by
    obtain ⟨-, -, -, -, -, -, -, ho, -⟩ := may_all hm
    have := mayO_short ho
    omega
  have hq := may_s s v _ (hv.later hl) hn (hG.later hl)
  rw [hm] at hq
  have hb5 := lenS_bd hm
  have HH : Hid (∀ W, Rgs W v s.o.rs → Ord W → Calls Tryz.prog 47 #[.agg #[.int .i64 s.fr, .int .i64 s.dt, .int .i64 s.sq, .int .i64 s.ak, .int .i64 s.fl, .int .i64 s.wi, .int .i64 s.ur, .int .i64 s.o.m, .int .i64 s.o.c, .int .i64 s.o.t, .int .i64 s.o.ec, .bool s.o.sd, .bool s.o.ok, .bool s.o.sp, v, .string s.da]] W fun e w' => e = .returned (.string (hdrS s)) ∧ Below W.heap.size W w') := fun W h1 h2 => hdr_s s v W h1 h2 hm
  have hrz := rawS_size s
  have hpz := psS_size f t (lenS s)
  have hr0 : ∀ W, (Op.stringOp .add (hdrS s) s.da).run Tryz.prog W = .ok (.string (rawS s)) W := fun W => by
    have := run_string_add_sum (P := Tryz.prog) W (hdrS s) s.da (by have := hdrS_size s; unfold lenS at hb5; omega)
    rw [raw_is] at this
    exact this
  have hps : ∀ W, Calls Tryz.prog 48 #[.int .i64 f, .int .i64 t, .int .i64 ((rawS s).size : Int)] W fun e w' => e = .returned (.string (psS f t (lenS s))) ∧ Below W.heap.size W w' := fun W => by
    have := pseudo_s f t ((rawS s).size : Int) W
    rw [pseuV_is f t _ hf ht (by omega), hrz] at this
    rw [hrz]
    exact this
  have hse : ∀ W, Calls Tryz.prog 49 #[.string (psS f t (lenS s) ++ rawS s), .int .i64 28] W fun e w' => e = .returned (.tuple #[.string (psS f t (lenS s) ++ encS f t s), .int .i64 0]) ∧ Below W.heap.size W w' := fun W => by
    have := seal_any (psS f t (lenS s) ++ rawS s) 28 W (by rw [ByteArray.size_append]; unfold maxLen; omega)
    rw [(sealG_is f t hm).1, (sealG_is f t hm).2] at this
    exact this
  have hcut := cut_enc f t (lenS s) s
  have hz8 : (psS f t (lenS s) ++ encS f t s).size ≤ 65536 := by rw [ByteArray.size_append, encS_size]; omega
  have hz9 : 12 ≤ (psS f t (lenS s) ++ encS f t s).size := by rw [ByteArray.size_append]; omega
  generalize psS f t (lenS s) ++ encS f t s = SE at *
  generalize encS f t s = EN at *
  generalize psS f t (lenS s) = PS at *
  generalize rawS s = RW at *
  have hr1 : ∀ W, (Op.stringOp .add PS RW).run Tryz.prog W = .ok (.string (PS ++ RW)) W := fun W => run_string_add_sum W _ _ (by omega)
  have hr2 : ∀ W, (Instr.slice 9 (.string SE) (some (.int .i64 12)) none none).run Tryz.prog W = .ok (.string EN) W := fun W => by
    rw [run_slice_string_from_if W 9 SE .i64 12 Tryz.underlying9, if_pos (by omega)]
    show _ = _
    rw [← hcut]
    rfl
  have hpl : (PS.size : Int) = 12 := by omega
  have HPS : Hid (∀ W, Calls Tryz.prog 48 #[.int .i64 f, .int .i64 t, .int .i64 (RW.size : Int)] W fun e w' => e = .returned (.string PS) ∧ Below W.heap.size W w') := hps
  have HSE : Hid (∀ W, Calls Tryz.prog 49 #[.string (PS ++ RW), .int .i64 28] W fun e w' => e = .returned (.tuple #[.string SE, .int .i64 0]) ∧ Below W.heap.size W w') := hse
  have HPL : Hid ((PS.size : Int) = 12) := hpl
  have HRZ : Hid (RW.size = lenS s) := hrz
  clear hps hse h hm hf ht hn hb5 hcut hz8 hz9 hrz hpz hpl
  go_enter Tryz.func19, Tryz.ntmps19
  go_wp2_with fail
  refine (hc _).mono ?_
  rintro e w1 ⟨rfl, rfl⟩
  go_wp2_with (refine wpList_loadG 34 _ (by rfl) (by rfl) (w.heap.size) 0 (by rfl) _ _ hA.range Tryz.underlying34 rfl size34 ?_)
  refine hq.mono ?_
  rintro e w2 ⟨rfl, hb⟩
  replace hl := bt hl hb
  replace hA := hA.later hb
  clear hb hq hc
  go_upto_region 5 with fail
  refine wp_region_any (by kernel_rfl) ?_
  refine region_facts (fun W => Below w.heap.size w W ∧ At W w.heap.size #[.int .i64 s.fr, .int .i64 s.dt, .int .i64 s.sq, .int .i64 s.ak, .int .i64 s.fl, .int .i64 s.wi, .int .i64 s.ur, .int .i64 s.o.m, .int .i64 s.o.c, .int .i64 s.o.t, .int .i64 s.o.ec, .bool s.o.sd, .bool s.o.ok, .bool s.o.sp, v, .string s.da] ∧ Rgs W v s.o.rs ∧ Ord W) (GE (fun qq => match qq with | 0 => .agg #[.int .i64 s.fr, .int .i64 s.dt, .int .i64 s.sq, .int .i64 s.ak, .int .i64 s.fl, .int .i64 s.wi, .int .i64 s.ur, .int .i64 s.o.m, .int .i64 s.o.c, .int .i64 s.o.t, .int .i64 s.o.ec, .bool s.o.sd, .bool s.o.ok, .bool s.o.sp, v, .string s.da] | 1 => .string (hdrS s) | 2 => .pointer (some ⟨w.heap.size, 15, none⟩) | 3 => .string s.da | 4 => .string RW | 5 => .string RW | _ => undef) (fun _ => none)) (n := 43) (by kernel_rfl) rfl (by kernel_rfl) (GE_later _ _ (fun _ _ h => by cases h)) ?_ ?_ ⟨hl.drew, hA.later ((Below.refl _ _).drew), hv.later hl.drew, hG.later hl.drew⟩ (Nat.le_refl _)
  · clear hl hA HPS HSE HPL HRZ
    refine ⟨?_, ?_, ?_, ?_, ?_, ?_, trivial⟩
    · intro ac w1 hS hT hB hD K hK
      rw [if_pos (by rfl)]
      have d5 : ac.tmps.getD 5 undef = .pointer (some ⟨w.heap.size, 0, none⟩) := hB 5 (by kernel_rfl)
      clear hB hD hT
      exact wp_load_mid 34 (.tmp 5) rfl (w.heap.size) 0 d5 _ _ hS.2.1.range Tryz.underlying34 rfl size34 (hK _ _ hS (Below.refl _ _) rfl)
    · intro ac w1 hS hT hB hD K hK
      rw [if_pos (by rfl)]
      have d19 : ac.tmps.getD 19 undef = .agg #[.int .i64 s.fr, .int .i64 s.dt, .int .i64 s.sq, .int .i64 s.ak, .int .i64 s.fl, .int .i64 s.wi, .int .i64 s.ur, .int .i64 s.o.m, .int .i64 s.o.c, .int .i64 s.o.t, .int .i64 s.o.ec, .bool s.o.sd, .bool s.o.ok, .bool s.o.sp, v, .string s.da] := hD ⟨0, .data⟩ (by simp) rfl _ 19 rfl rfl
      clear hB hD hT
      go_simp
      refine (HH.out _ hS.2.2.1 hS.2.2.2).mono ?_
      rintro e w' ⟨rfl, hb⟩
      exact hK _ _ ⟨bt hS.1 hb, hS.2.1.later hb, hS.2.2.1.later hb, hS.2.2.2.later hb⟩ hb rfl
    · intro ac w1 hS hT hB hD K hK
      rw [if_pos (by rfl)]
      have d5 : ac.tmps.getD 5 undef = .pointer (some ⟨w.heap.size, 0, none⟩) := hB 5 (by kernel_rfl)
      clear hB hD hT
      go_simp
      exact hK _ _ hS (Below.refl _ _) rfl
    · intro ac w1 hS hT hB hD K hK
      rw [if_pos (by rfl)]
      have d21 : ac.tmps.getD 21 undef = .pointer (some ⟨w.heap.size, 15, none⟩) := hD ⟨2, .data⟩ (by simp) rfl _ 21 rfl rfl
      clear hB hD hT
      have hc := hS.2.1.sixteen.1
      go_simp
      exact hK _ _ hS (Below.refl _ _) rfl
    · intro ac w1 hS hT hB hD K hK
      rw [if_pos (by rfl)]
      have d20 : ac.tmps.getD 20 undef = .string (hdrS s) := hD ⟨1, .data⟩ (by simp) rfl _ 20 rfl rfl
      have d22 : ac.tmps.getD 22 undef = .string s.da := hD ⟨3, .data⟩ (by simp) rfl _ 22 rfl rfl
      clear hB hD hT
      go_simp
      exact hK _ _ hS (Below.refl _ _) rfl
    · intro ac w1 hS hT hB hD K hK
      rw [if_pos (by rfl)]
      have d23 : ac.tmps.getD 23 undef = .string RW := hD ⟨4, .data⟩ (by simp) rfl _ 23 rfl rfl
      clear hB hD hT
      go_simp
      exact hK _ _ hS (Below.refl _ _) rfl
  · intro ac w9 hS hT hdf hB hF
    clear HH hl hA hv hG
    obtain ⟨⟨l⟩, df⟩ := ac
    match l, hT with
    | x0 :: x1 :: x2 :: x3 :: x4 :: x5 :: x6 :: x7 :: x8 :: x9 :: x10 :: x11 :: x12 :: x13 :: x14 :: x15 :: x16 :: x17 :: x18 :: x19 :: x20 :: x21 :: x22 :: x23 :: x24 :: x25 :: x26 :: x27 :: x28 :: x29 :: x30 :: x31 :: x32 :: x33 :: x34 :: x35 :: x36 :: x37 :: x38 :: x39 :: x40 :: x41 :: x42 :: [], _ =>
      have s8 : x8 = .string RW := hF 5 _ 8 rfl rfl
      have s0 : x0 = .int .i64 f := hB 0 (by kernel_rfl)
      have s1 : x1 = .int .i64 t := hB 1 (by kernel_rfl)
      have sd : df = [] := hdf
      subst s8 s0 s1 sd
      clear hB hF
      go_wp2_with fail
      refine (HPS.out _).mono ?_
      rintro e w3 ⟨rfl, hb⟩
      have hl := bt hS.1 hb
      clear HPS hb hS
      have hpl := HPL.out
      go_wp2_with fail
      refine (HSE.out _).mono ?_
      rintro e w4 ⟨rfl, hb⟩
      replace hl := bt hl hb
      go_wp2
      go_ret2
      exact ⟨rfl, hl⟩
end Go.Proofs.YtkpdmgoldngdaaaGreatDoor
