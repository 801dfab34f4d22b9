/- What bytes are as a segment between two addresses, as plain data: there and back; with a bit turned; between other addresses. Nothing of the program is walked here. -/
import Derived.Test.YtecoknenkjgmjabDoorTa
import Derived.Test.YtecoknenkjgmjabDoorPb
import Derived.Test.YtecoknenkjgmjabDoorSe
namespace Go.Proofs.YtecoknenkjgmjabDoor
open Go.RowKit
set_option maxRecDepth 100000
set_option linter.unusedVariables false

def by12 (b : ByteArray) : Nat := (b.data.toList.getD 12 0).toNat
/-- How long the header is, as the bytes tell it. -/
def hdN (b : ByteArray) : Nat := by12 b / 16 * 4
def gotS (b : ByteArray) (o : Op) : Sg := ⟨numS (b.extract 0 2), numS (b.extract 2 4), numS (b.extract 4 8), numS (b.extract 8 12), numS (b.extract 13 14), numS (b.extract 14 16), numS (b.extract 18 20), o, b.extract (hdN b) b.size⟩
def shapeB (b : ByteArray) : Bool := decide (20 ≤ b.size ∧ b.size ≤ 1540 ∧ 20 ≤ hdN b ∧ hdN b ≤ b.size)
def wholeB (f t : Int) (b : ByteArray) : Bool := sumS (psS f t b.size ++ b) == 0
def lastB (b : ByteArray) (o : Op) : Bool := decide (by12 b % 16 = 0) && mayG (gotS b o)
def finG (b : ByteArray) (r : Option Op) : Except Int Sg := match r with
  | none => .error 70
  | some o => if lastB b o = true then .ok (gotS b o) else .error 80
/-- What bytes are as a segment, or what is wrong. -/
def decG (f t : Int) (b : ByteArray) : Except Int Sg :=
  if (numB f && numB t) = true then
    (if shapeB b = true then
      (if wholeB f t b = true then finG b (decO (b.extract 20 (hdN b)).data.toList) else .error 20)
    else .error 80)
  else .error 1
theorem by12_le (b : ByteArray) : by12 b ≤ 255 := by unfold by12; have := (b.data.toList.getD 12 0).toNat_lt; omega
theorem hdN_le (b : ByteArray) : hdN b ≤ 60 := by unfold hdN; have := by12_le b; omega
theorem by12_num (b : ByteArray) (h : 12 < b.size) : (by12 b : Int) = numS (b.extract 12 13) := by
  unfold numS by12
  have hl : 12 < b.data.toList.length := by rw [len_toList]; exact h
  rw [ext_toList, show 13 - 12 = 1 by rfl, List.drop_eq_getElem_cons hl, List.getD_eq_getElem?_getD, List.getElem?_eq_getElem hl]
  simp [numL]
theorem by12_at (b : ByteArray) (h : 12 < b.size) : (b[12].toNat : Int) = (by12 b : Int) := by
  unfold by12
  have hl : 12 < b.data.toList.length := by rw [len_toList]; exact h
  rw [List.getD_eq_getElem?_getD, List.getElem?_eq_getElem hl]
  rfl
theorem fl_at (b : ByteArray) (h : 13 < b.size) : (b[13].toNat : Int) = numS (b.extract 13 14) := by
  unfold numS
  have hl : 13 < b.data.toList.length := by rw [len_toList]; exact h
  rw [ext_toList, show 14 - 13 = 1 by rfl, List.drop_eq_getElem_cons hl]
  simp [numL, ByteArray.getElem_eq_getElem_data]
theorem decG_range {f t : Int} {b : ByteArray} (h : (numB f && numB t) = false) : decG f t b = .error 1 := by unfold decG; rw [h]; rfl
theorem decG_shape {f t : Int} {b : ByteArray} (h : (numB f && numB t) = true) (h1 : shapeB b = false) : decG f t b = .error 80 := by unfold decG; rw [h, h1]; rfl
theorem decG_sum {f t : Int} {b : ByteArray} (h : (numB f && numB t) = true) (h1 : shapeB b = true) (h2 : wholeB f t b = false) : decG f t b = .error 20 := by unfold decG; rw [h, h1, h2]; rfl
theorem decG_fin {f t : Int} {b : ByteArray} (h : (numB f && numB t) = true) (h1 : shapeB b = true) (h2 : wholeB f t b = true) : decG f t b = finG b (decO (b.extract 20 (hdN b)).data.toList) := by unfold decG; rw [h, h1, h2]; rfl
theorem sum0 {s : ByteArray} (h : foldV (ws true s.data.toList) = 65535) : (sumS s == 0) = true := by
  have : sumS s = 0 := by unfold sumS missV; omega
  rw [this]; rfl
theorem sum1 {s : ByteArray} (h : ¬ foldV (ws true s.data.toList) = 65535) : (sumS s == 0) = false := by
  have : sumS s ≠ 0 := by unfold sumS missV; omega
  simpa using this
theorem sameG_refl (a : Sg) : sameG a a = true := by
  have : sameOO a.o a.o = true := sameO_self _ _ _ _ _ _ _ _
  simp [sameG, sameNG, this]
theorem finG_may {b : ByteArray} {r : Option Op} {s : Sg} (h : finG b r = .ok s) : mayG s = true := by
  unfold finG at h
  cases r with
  | none => cases h
  | some o =>
    simp only at h
    split at h
    · rename_i hl
      cases h
      unfold lastB at hl
      simp only [Bool.and_eq_true] at hl
      exact hl.2
    · cases h
theorem decG_may {f t : Int} {b : ByteArray} {s : Sg} (h : decG f t b = .ok s) : mayG s = true := by
  unfold decG at h
  split at h
  · split at h
    · split at h
      · exact finG_may h
      · cases h
    · cases h
  · cases h

theorem enc_parts {s : Sg} (f t : Int) (h : mayG s = true) : shapeB (encS f t s) = true ∧ (encS f t s).extract 20 (hdN (encS f t s)) = s.o.enc ∧ by12 (encS f t s) % 16 = 0 ∧ gotS (encS f t s) s.o = s := by
  obtain ⟨⟨f0, f1⟩, ⟨d0, d1⟩, ⟨s0, s1⟩, ⟨a0, a1⟩, ⟨l0, l1⟩, ⟨w0, w1⟩, ⟨u0, u1⟩, ho, hd⟩ := may_all h
  have hl := lonB_bd ho
  have he := enc_long ho
  have hz := encS_size f t s
  have hb := lenS_bd h
  have hL := enc_list f t s
  have hc := sumG_bd f t s
  generalize encS f t s = b at *
  have h12 : (by12 b : Int) = lonB s.o := by
    rw [by12_num b (by omega)]
    exact num_at b (txtL s.fr 2 ++ (txtL s.dt 2 ++ (txtL s.sq 4 ++ txtL s.ak 4))) _ _ 1 12 13 (by rw [hL]; simp only [List.append_assoc]; rfl) (by simp only [List.length_append, txtL_len]) rfl (by omega) (by simp; omega)
  have hh : hdN b = 20 + s.o.enc.size := by unfold hdN; omega
  have hlen : lenS s = 20 + s.o.enc.size + s.da.size := rfl
  refine ⟨?_, ?_, by omega, ?_⟩
  · unfold shapeB; rw [hh, hz]; exact decide_eq_true ⟨by omega, by omega, by omega, by omega⟩
  · rw [hh]
    apply ba_toList
    rw [ext_toList, hL]
    have e : txtL s.fr 2 ++ (txtL s.dt 2 ++ (txtL s.sq 4 ++ (txtL s.ak 4 ++ (txtL (lonB s.o) 1 ++ (txtL s.fl 1 ++ (txtL s.wi 2 ++ (txtL (sumG f t s) 2 ++ (txtL s.ur 2 ++ (s.o.enc.data.toList ++ s.da.data.toList))))))))) = (txtL s.fr 2 ++ (txtL s.dt 2 ++ (txtL s.sq 4 ++ (txtL s.ak 4 ++ (txtL (lonB s.o) 1 ++ (txtL s.fl 1 ++ (txtL s.wi 2 ++ (txtL (sumG f t s) 2 ++ txtL s.ur 2)))))))) ++ (s.o.enc.data.toList ++ s.da.data.toList) := by simp only [List.append_assoc]
    rw [e, List.drop_left' (by simp only [List.length_append, txtL_len])]
    exact List.take_left' (by rw [len_toList]; omega)
  · have hda : b.extract (hdN b) b.size = s.da := by
      rw [hh]
      apply ba_toList
      rw [ext_toList, hL]
      have e : txtL s.fr 2 ++ (txtL s.dt 2 ++ (txtL s.sq 4 ++ (txtL s.ak 4 ++ (txtL (lonB s.o) 1 ++ (txtL s.fl 1 ++ (txtL s.wi 2 ++ (txtL (sumG f t s) 2 ++ (txtL s.ur 2 ++ (s.o.enc.data.toList ++ s.da.data.toList))))))))) = (txtL s.fr 2 ++ (txtL s.dt 2 ++ (txtL s.sq 4 ++ (txtL s.ak 4 ++ (txtL (lonB s.o) 1 ++ (txtL s.fl 1 ++ (txtL s.wi 2 ++ (txtL (sumG f t s) 2 ++ (txtL s.ur 2 ++ s.o.enc.data.toList))))))))) ++ s.da.data.toList := by simp only [List.append_assoc]
      rw [e, List.drop_left' (by simp only [List.length_append, txtL_len, len_toList]; omega)]
      exact List.take_of_length_le (by rw [len_toList]; omega)
    unfold gotS
    rw [hda]
    have e1 : numS (b.extract 0 2) = s.fr := num_at b [] _ _ 2 0 2 hL rfl rfl f0 (by simp; omega)
    have e2 : numS (b.extract 2 4) = s.dt := num_at b (txtL s.fr 2) _ _ 2 2 4 hL (by simp only [txtL_len]) rfl d0 (by simp; omega)
    have e3 : numS (b.extract 4 8) = s.sq := num_at b (txtL s.fr 2 ++ txtL s.dt 2) _ _ 4 4 8 (by rw [hL]; simp only [List.append_assoc]; rfl) (by simp only [List.length_append, txtL_len]) rfl s0 (by simp; omega)
    have e4 : numS (b.extract 8 12) = s.ak := num_at b (txtL s.fr 2 ++ (txtL s.dt 2 ++ txtL s.sq 4)) _ _ 4 8 12 (by rw [hL]; simp only [List.append_assoc]; rfl) (by simp only [List.length_append, txtL_len]) rfl a0 (by simp; omega)
    have e5 : numS (b.extract 13 14) = s.fl := num_at b (txtL s.fr 2 ++ (txtL s.dt 2 ++ (txtL s.sq 4 ++ (txtL s.ak 4 ++ txtL (lonB s.o) 1)))) _ _ 1 13 14 (by rw [hL]; simp only [List.append_assoc]; rfl) (by simp only [List.length_append, txtL_len]) rfl l0 (by simp; omega)
    have e6 : numS (b.extract 14 16) = s.wi := num_at b (txtL s.fr 2 ++ (txtL s.dt 2 ++ (txtL s.sq 4 ++ (txtL s.ak 4 ++ (txtL (lonB s.o) 1 ++ txtL s.fl 1))))) _ _ 2 14 16 (by rw [hL]; simp only [List.append_assoc]; rfl) (by simp only [List.length_append, txtL_len]) rfl w0 (by simp; omega)
    have e7 : numS (b.extract 18 20) = s.ur := num_at b (txtL s.fr 2 ++ (txtL s.dt 2 ++ (txtL s.sq 4 ++ (txtL s.ak 4 ++ (txtL (lonB s.o) 1 ++ (txtL s.fl 1 ++ (txtL s.wi 2 ++ txtL (sumG f t s) 2))))))) _ _ 2 18 20 (by rw [hL]; simp only [List.append_assoc]; rfl) (by simp only [List.length_append, txtL_len]) rfl u0 (by simp; omega)
    rw [e1, e2, e3, e4, e5, e6, e7]
theorem dec_ok {s : Sg} (f t f' t' : Int) (h : mayG s = true) (hn : (numB f' && numB t') = true) (hw : wholeB f' t' (encS f t s) = true) : decG f' t' (encS f t s) = .ok s := by
  obtain ⟨h1, h2, h3, h4⟩ := enc_parts f t h
  obtain ⟨-, -, -, -, -, -, -, ho, -⟩ := may_all h
  rw [decG_fin hn h1 hw, h2, show decO s.o.enc.data.toList = some s.o from dec_enc _ _ _ _ _ _ _ _ ho]
  show (if lastB (encS f t s) s.o = true then Except.ok (gotS (encS f t s) s.o) else Except.error 80) = _
  unfold lastB
  rw [h4, h, h3]
  rfl
theorem whole_own {s : Sg} (f t : Int) : wholeB f t (encS f t s) = true := by
  unfold wholeB
  rw [encS_size]
  exact sum0 (whole_enc f t s)
theorem back_ok {s : Sg} {f t : Int} (h : mayG s = true) (hn : (numB f && numB t) = true) : decG f t (encS f t s) = .ok s := dec_ok f t f t h hn (whole_own f t)
theorem ps_list (f t : Int) (n : Nat) (b : ByteArray) : (psS f t n ++ b).data.toList = txtL f 4 ++ (txtL t 4 ++ (txtL 6 2 ++ (txtL (n : Int) 2 ++ b.data.toList))) := by
  unfold psS
  simp only [app_toList, txt_toList, List.append_assoc]
theorem whole_swap (f t : Int) (b : ByteArray) : wholeB t f b = wholeB f t b := by
  have : ws true (psS t f b.size ++ b).data.toList = ws true (psS f t b.size ++ b).data.toList := by
    rw [ps_list, ps_list]
    generalize txtL 6 2 ++ (txtL (b.size : Int) 2 ++ b.data.toList) = X
    rw [ws_append, ws_append, ws_append true (txtL f 4), ws_append _ (txtL t 4)]
    simp only [txtL_len, turnB_even _ 4 rfl]
    omega
  unfold wholeB sumS
  rw [this]
theorem swap_ok {s : Sg} {f t : Int} (h : mayG s = true) (hn : (numB f && numB t) = true) : decG t f (encS f t s) = .ok s := dec_ok f t t f h (by rw [Bool.and_comm]; exact hn) (by rw [whole_swap]; exact whole_own f t)
/-- With one bit turned it is none. -/
theorem turned_none {s : Sg} (f t : Int) (c : ByteArray) (i j : Nat) (hj : j < 8) (hi : i < (encS f t s).data.toList.length) (hn : (numB f && numB t) = true) (hc : c.data.toList = (encS f t s).data.toList.set i (UInt8.ofNat ((encS f t s).data.toList[i].toNat ^^^ 2 ^ j))) : ∃ e, decG f t c = .error e ∧ (e == 0) = false := by
  have hz : c.size = (encS f t s).size := by rw [← len_toList, ← len_toList, hc, List.length_set]
  rcases Bool.eq_false_or_eq_true (shapeB c) with h1 | h1
  · have hw : wholeB f t c = false := by
      unfold wholeB
      apply sum1
      rw [hz, encS_size, app_toList, hc]
      have hi2 : (psS f t (lenS s)).data.toList.length + i < (psS f t (lenS s) ++ encS f t s).data.toList.length := by rw [app_toList, List.length_append]; omega
      have ht := turn_not_whole _ _ j hi2 hj (whole_enc f t s)
      have hat : (psS f t (lenS s) ++ encS f t s).data.toList[(psS f t (lenS s)).data.toList.length + i] = (encS f t s).data.toList[i] := by
        simp only [app_toList, List.getElem_append_right (Nat.le_add_right _ _), Nat.add_sub_cancel_left]
      rw [hat, app_toList, List.set_append_right _ _ (Nat.le_add_right _ _), Nat.add_sub_cancel_left] at ht
      exact ht
    exact ⟨20, decG_sum hn h1 hw, rfl⟩
  · exact ⟨80, decG_shape hn h1, rfl⟩
theorem byteAt_nat (m j : Nat) : byteAt (m : Int) j = UInt8.ofNat (m / 2 ^ (8 * j) % 256) := by
  unfold byteAt
  have : ((m : Int) / 2 ^ (8 * j)) % 256 = ((m / 2 ^ (8 * j) % 256 : Nat) : Int) := by
    rw [Int.natCast_emod, Int.natCast_ediv, Int.natCast_pow]
    rfl
  rw [this, Int.toNat_natCast]
theorem pow_byte : ∀ k, k < 32 → ∀ j, j < 4 → 2 ^ k / 2 ^ (8 * j) % 256 = if j = k / 8 then 2 ^ (k % 8) else 0 := by decide +kernel
theorem xor_byte (m k j : Nat) (hk : k < 32) (hj : j < 4) : (m ^^^ 2 ^ k) / 2 ^ (8 * j) % 256 = if j = k / 8 then (m / 2 ^ (8 * j) % 256) ^^^ 2 ^ (k % 8) else m / 2 ^ (8 * j) % 256 := by
  have h1 : (m ^^^ 2 ^ k) / 2 ^ (8 * j) % 256 = (m / 2 ^ (8 * j) % 256) ^^^ (2 ^ k / 2 ^ (8 * j) % 256) := by
    rw [show (256 : Nat) = 2 ^ 8 from rfl, ← Nat.shiftRight_eq_div_pow, Nat.shiftRight_xor_distrib, Nat.xor_mod_two_pow, Nat.shiftRight_eq_div_pow, Nat.shiftRight_eq_div_pow]
  rw [h1, pow_byte k hk j hj]
  split
  · rfl
  · exact Nat.xor_zero _
theorem txtL_four (n : Int) : txtL n 4 = [byteAt n 3, byteAt n 2, byteAt n 1, byteAt n 0] := by simp [txtL, List.range_succ]
theorem txt_turn (m k : Nat) (hk : k < 32) : txtL ((m ^^^ 2 ^ k : Nat) : Int) 4 = (txtL (m : Int) 4).set (3 - k / 8) (UInt8.ofNat ((m / 2 ^ (8 * (k / 8)) % 256) ^^^ 2 ^ (k % 8))) := by
  rw [txtL_four, txtL_four]
  simp only [byteAt_nat]
  rw [xor_byte m k 0 hk (by decide), xor_byte m k 1 hk (by decide), xor_byte m k 2 hk (by decide), xor_byte m k 3 hk (by decide)]
  obtain h | h | h | h : k / 8 = 0 ∨ k / 8 = 1 ∨ k / 8 = 2 ∨ k / 8 = 3 := by omega
  all_goals rw [h]; simp
theorem txt_there (m k : Nat) (hk : k < 32) : (txtL (m : Int) 4)[3 - k / 8]? = some (UInt8.ofNat (m / 2 ^ (8 * (k / 8)) % 256)) := by
  rw [txtL_four]
  simp only [byteAt_nat]
  obtain h | h | h | h : k / 8 = 0 ∨ k / 8 = 1 ∨ k / 8 = 2 ∨ k / 8 = 3 := by omega
  all_goals rw [h]; simp
/-- Between another address it is none: the sum is wrong. -/
theorem other_none {s : Sg} (m : Nat) (t : Int) (k : Nat) (hk : k < 32) (h : mayG s = true) (hm : m < 4294967296) (hn : numB t = true) : decG ((m ^^^ 2 ^ k : Nat) : Int) t (encS (m : Int) t s) = .error 20 := by
  have hp : 2 ^ k < 2 ^ 32 := Nat.pow_lt_pow_right (by decide) hk
  have hx : m ^^^ 2 ^ k < 4294967296 := Nat.xor_lt_two_pow (n := 32) hm hp
  have hnum : numB ((m ^^^ 2 ^ k : Nat) : Int) = true := decide_eq_true ⟨by omega, by omega⟩
  obtain ⟨h1, -, -, -⟩ := enc_parts (m : Int) t h
  refine decG_sum (by rw [hnum, hn]; rfl) h1 ?_
  unfold wholeB
  apply sum1
  rw [encS_size, ps_list, txt_turn m k hk]
  have hl : 3 - k / 8 < (txtL (m : Int) 4).length := by rw [txtL_len]; omega
  rw [← List.set_append_left _ _ hl, ← ps_list]
  have hi : 3 - k / 8 < (psS (m : Int) t (lenS s) ++ encS (m : Int) t s).data.toList.length := by rw [ps_list, List.length_append]; omega
  have ht := turn_not_whole _ _ (k % 8) hi (by omega) (whole_enc (m : Int) t s)
  have hat : (psS (m : Int) t (lenS s) ++ encS (m : Int) t s).data.toList[3 - k / 8].toNat = m / 2 ^ (8 * (k / 8)) % 256 := by
    have h9 : (psS (m : Int) t (lenS s) ++ encS (m : Int) t s).data.toList[3 - k / 8]? = some (UInt8.ofNat (m / 2 ^ (8 * (k / 8)) % 256)) := by
      rw [ps_list, List.getElem?_append_left hl]
      exact txt_there m k hk
    rw [List.getElem?_eq_getElem hi] at h9
    rw [Option.some.inj h9]
    exact ofNat_toNat _ (Nat.mod_lt _ (by decide))
  rw [hat] at ht
  exact ht
end Go.Proofs.YtecoknenkjgmjabDoor
