/- A segment's bytes between two addresses as plain data: nothing of the program is walked here. -/
import Derived.Test.YtecoknenkjgmjabDoorSb
import Derived.Test.YtecoknenkjgmjabDoorOe
import Derived.Test.YtecoknenkjgmjabDoorSeals
import Derived.Test.YtecoknenkjgmjabDoorTxtNum
import Derived.Test.YtecoknenkjgmjabDoorPlainC
namespace Go.Proofs.YtecoknenkjgmjabDoor
open Go.RowKit
set_option maxRecDepth 100000
set_option linter.unusedVariables false

theorem may_all {s : Sg} (h : mayG s = true) : (0 ≤ s.fr ∧ s.fr ≤ 65535) ∧ (0 ≤ s.dt ∧ s.dt ≤ 65535) ∧ (0 ≤ s.sq ∧ s.sq ≤ 4294967295) ∧ (0 ≤ s.ak ∧ s.ak ≤ 4294967295) ∧ (0 ≤ s.fl ∧ s.fl ≤ 63) ∧ (0 ≤ s.wi ∧ s.wi ≤ 65535) ∧ (0 ≤ s.ur ∧ s.ur ≤ 65535) ∧ s.o.may = true ∧ s.da.size ≤ 1480 := by
  unfold mayG preG fitsB numB at h
  simp only [Bool.and_eq_true, decide_eq_true_eq] at h
  exact ⟨h.1.1.1.1.1.1.1.1.1.1, h.1.1.1.1.1.1.1.1.1.2, h.1.1.1.1.1.1.1.1.2, h.1.1.1.1.1.1.1.2, h.1.1.1.1.1.1.2, h.1.1.1.1.1.2, h.1.1.1.1.2, h.1.2, h.2⟩
/-- The options' bytes. -/
def Op.enc (o : Op) : ByteArray := encO o.m o.c o.t o.ec o.sd o.ok o.sp o.rs
theorem enc_long {o : Op} (h : o.may = true) : o.enc.size ≤ 40 ∧ o.enc.size % 4 = 0 := by
  have hz : o.enc.size = longN o.m o.sd o.ok o.sp o.rs.length := encO_size _ _ _ _ _ _ _ _
  have h40 := (mayO_t h).2.2.2.2.2.2.1
  rw [hz]
  refine ⟨h40, ?_⟩
  unfold longN
  omega
/-- The byte that tells how long the header is. -/
def lonB (o : Op) : Int := (20 + (o.enc.size : Int)) / 4 * 16
/-- What stands ahead of the sum, and behind it. -/
def preS (s : Sg) : ByteArray := txt s.fr 2 ++ txt s.dt 2 ++ txt s.sq 4 ++ txt s.ak 4 ++ txt (lonB s.o) 1 ++ txt s.fl 1 ++ txt s.wi 2
def postS (s : Sg) : ByteArray := txt s.ur 2 ++ s.o.enc ++ s.da
def lenS (s : Sg) : Nat := 20 + s.o.enc.size + s.da.size
/-- The twelve bytes of two ends. -/
def psS (f t : Int) (n : Nat) : ByteArray := txt f 4 ++ txt t 4 ++ txt 6 2 ++ txt (n : Int) 2
def sumG (f t : Int) (s : Sg) : Int := missV (totS [psS f t (lenS s) ++ preS s, postS s])
/-- A segment's bytes. -/
def encS (f t : Int) (s : Sg) : ByteArray := preS s ++ txt (sumG f t s) 2 ++ postS s
/-- The same with a sum of 0; and its header. -/
def rawS (s : Sg) : ByteArray := preS s ++ txt 0 2 ++ postS s
def hdrS (s : Sg) : ByteArray := preS s ++ txt 0 2 ++ txt s.ur 2 ++ s.o.enc
theorem raw_is (s : Sg) : hdrS s ++ s.da = rawS s := by unfold hdrS rawS postS; simp only [ByteArray.append_assoc]
theorem preS_size (s : Sg) : (preS s).size = 16 := by unfold preS; simp only [ByteArray.size_append, txt_size]
theorem postS_size (s : Sg) : (postS s).size = 2 + s.o.enc.size + s.da.size := by unfold postS; simp only [ByteArray.size_append, txt_size]
theorem psS_size (f t : Int) (n : Nat) : (psS f t n).size = 12 := by unfold psS; simp only [ByteArray.size_append, txt_size]
theorem rawS_size (s : Sg) : (rawS s).size = lenS s := by unfold rawS lenS; simp only [ByteArray.size_append, txt_size, preS_size, postS_size]; omega
theorem hdrS_size (s : Sg) : (hdrS s).size = 20 + s.o.enc.size := by unfold hdrS; simp only [ByteArray.size_append, txt_size, preS_size]
theorem encS_size (f t : Int) (s : Sg) : (encS f t s).size = lenS s := by unfold encS lenS; simp only [ByteArray.size_append, txt_size, preS_size, postS_size]; omega
theorem lenS_bd {s : Sg} (h : mayG s = true) : 20 ≤ lenS s ∧ lenS s ≤ 1540 := by
  obtain ⟨-, -, -, -, -, -, -, ho, hd⟩ := may_all h
  have := enc_long ho
  unfold lenS
  omega
theorem lonB_bd {o : Op} (h : o.may = true) : 80 ≤ lonB o ∧ lonB o ≤ 240 ∧ lonB o / 16 * 4 = 20 + (o.enc.size : Int) ∧ lonB o % 16 = 0 := by
  have := enc_long h
  unfold lonB
  omega
theorem pseuV_is (f t : Int) (n : Nat) (hf : numB f = true) (ht : numB t = true) (hn : n ≤ 65535) : pseuV f t 6 (n : Int) = psS f t n := by
  have h1 := of_decide_eq_true hf
  have h2 := of_decide_eq_true ht
  unfold pseuV pseuB psS
  rw [outB_f (by omega), outB_f (by omega), outB_f (by omega), outB_f (by omega)]
  rfl
theorem ps_raw (f t : Int) (n : Nat) (s : Sg) : psS f t n ++ rawS s = (psS f t n ++ preS s) ++ txt 0 2 ++ postS s := by unfold rawS; simp only [ByteArray.append_assoc]
theorem ps_enc (f t : Int) (n : Nat) (s : Sg) : psS f t n ++ encS f t s = (psS f t n ++ preS s) ++ txt (sumG f t s) 2 ++ postS s := by unfold encS; simp only [ByteArray.append_assoc]
theorem ps_pre_size (f t : Int) (n : Nat) (s : Sg) : (psS f t n ++ preS s).size = 28 := by rw [ByteArray.size_append, psS_size, preS_size]
theorem sealG_is {s : Sg} (f t : Int) (h : mayG s = true) : sealV (psS f t (lenS s) ++ rawS s) 28 = psS f t (lenS s) ++ encS f t s ∧ sealC (psS f t (lenS s) ++ rawS s) 28 = 0 := by
  have hb := lenS_bd h
  have hz : (psS f t (lenS s) ++ rawS s).size = 12 + lenS s := by rw [ByteArray.size_append, psS_size, rawS_size]
  have hA : headS (psS f t (lenS s) ++ rawS s) 28 = psS f t (lenS s) ++ preS s := by
    rw [ps_raw]
    unfold headS
    have := mid_head (psS f t (lenS s) ++ preS s) (txt 0 2) (postS s)
    rw [ps_pre_size] at this
    exact this
  have hB : tailS (psS f t (lenS s) ++ rawS s) 28 = postS s := by
    rw [ps_raw]
    unfold tailS
    exact mid_tail _ _ _ _ (by rw [ps_pre_size, txt_size]; rfl)
  unfold sealV sealC
  rw [place_t (by rw [hz]; omega), if_pos rfl, if_pos rfl, if_pos (by omega), if_pos (by omega)]
  refine ⟨?_, rfl⟩
  unfold sealS
  rw [hA, hB, ps_enc]
  rfl
theorem cut_enc (f t : Int) (n : Nat) (s : Sg) : (psS f t n ++ encS f t s).extract 12 (psS f t n ++ encS f t s).size = encS f t s := by
  apply ba_toList
  rw [ext_toList, app_toList, List.drop_left' (by rw [len_toList, psS_size]), List.take_of_length_le]
  rw [len_toList, ByteArray.size_append, psS_size]
  omega
/-- The document's sum of the bytes with a sum of 0. -/
theorem sum_raw (f t : Int) (s : Sg) : sumS (psS f t (lenS s) ++ rawS s) = sumG f t s := by
  unfold sumS sumG
  rw [ps_raw, ws_mid _ _ 0 (by rw [ps_pre_size]) (by decide) (by decide), Int.add_zero]
theorem sumG_bd (f t : Int) (s : Sg) : 0 ≤ sumG f t s ∧ sumG f t s ≤ 65535 := missV_bd _
theorem whole_enc (f t : Int) (s : Sg) : foldV (ws true (psS f t (lenS s) ++ encS f t s).data.toList) = 65535 := by
  rw [ps_enc, ws_mid _ _ _ (by rw [ps_pre_size]) (sumG_bd f t s).1 (sumG_bd f t s).2]
  exact foldV_fill _ (totS_nonneg _)
theorem raw_head (s : Sg) : (rawS s).extract 0 16 = preS s := by
  have := mid_head (preS s) (txt 0 2) (postS s)
  rw [preS_size] at this
  exact this
theorem raw_tail (s : Sg) : (rawS s).extract 18 (rawS s).size = postS s := mid_tail _ _ _ _ (by rw [preS_size, txt_size])
theorem enc_list (f t : Int) (s : Sg) : (encS f t s).data.toList = txtL s.fr 2 ++ (txtL s.dt 2 ++ (txtL s.sq 4 ++ (txtL s.ak 4 ++ (txtL (lonB s.o) 1 ++ (txtL s.fl 1 ++ (txtL s.wi 2 ++ (txtL (sumG f t s) 2 ++ (txtL s.ur 2 ++ (s.o.enc.data.toList ++ s.da.data.toList))))))))) := by
  unfold encS preS postS
  simp only [app_toList, txt_toList, List.append_assoc]
end Go.Proofs.YtecoknenkjgmjabDoor
