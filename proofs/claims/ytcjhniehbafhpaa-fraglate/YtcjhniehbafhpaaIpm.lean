/- Plain facts of IP packets as bytes, there and back, and with a bit turned; what Decode answers to bytes that are a packet's, and to others. -/
import Derived.Test.YtcjhniehbafhpaaIpl
namespace Go.Proofs.Ytcjhniehbafhpaa
open Go.RowKit
set_option maxRecDepth 100000

theorem two_num (s : ByteArray) (i j : Nat) (hj : j = i + 2) (h : i + 1 < s.size) : numS (s.extract i j) = byS s i * 256 + byS s (i + 1) := by
  subst hj
  have hl := len_toList s
  unfold numS
  rw [ext_toList, ← byS_is s i (by omega), ← byS_is s (i + 1) h, show i + 2 - i = 2 by omega]
  rw [List.drop_eq_getElem_cons (by omega : i < s.data.toList.length), List.drop_eq_getElem_cons (by omega : i + 1 < s.data.toList.length)]
  simp [numL]
  rfl
theorem high_bit (s : ByteArray) (h : 20 ≤ (s.size : Int)) : byS s 6 / 128 = 0 ↔ dFl s < 32768 := by
  have e := two_num s 6 8 rfl (by omega)
  have b6 := byS_bd s 6
  have b7 := byS_bd s (6 + 1)
  unfold dFl
  rw [e]
  omega
theorem back_flags (s : ByteArray) (fr : Int) (mo dn : Bool) (h0 : 0 ≤ fr) (h1 : fr ≤ 8191) (h : dFl s = flagsV fr mo dn) : dFr s = fr ∧ dMo s = mo ∧ dDn s = dn := by
  unfold dFr dMo dDn
  rw [h]
  unfold flagsV
  refine ⟨?_, ?_, ?_⟩ <;> cases mo <;> cases dn <;> simp <;> omega
theorem flags_back (s : ByteArray) (h0 : 0 ≤ dFl s) (h : dFl s < 32768) : flagsV (dFr s) (dMo s) (dDn s) = dFl s := by
  unfold flagsV dFr dMo dDn
  by_cases a : dFl s / 8192 % 2 = 1
  · by_cases b : dFl s / 16384 % 2 = 1
    · simp [a, b]; omega
    · simp [a, b]; omega
  · by_cases b : dFl s / 16384 % 2 = 1
    · simp [a, b]; omega
    · simp [a, b]; omega
theorem sum_zero {s : ByteArray} (h : foldV (ws true s.data.toList) = 65535) : sumS s = 0 := by unfold sumS missV; omega
theorem zero_sum {s : ByteArray} (h : sumS s = 0) : foldV (ws true s.data.toList) = 65535 := by unfold sumS missV at h; omega

/-- What bytes must be to be a packet's. -/
def goodD (s : ByteArray) : Prop := 20 ≤ (s.size : Int) ∧ (byS s 0 / 16 != 4) = false ∧ 20 ≤ dH s ∧ dH s ≤ dL s ∧ dL s ≤ (s.size : Int) ∧ sumS (headS' s) = 0 ∧ (byS s 1 != 0) = false ∧ (byS s 6 / 128 != 0) = false ∧ mayD s = true
theorem ext_pre (A B : ByteArray) (n : Nat) (h : n = A.size) : (A ++ B).extract 0 n = A := by
  apply ba_toList
  rw [ext_toList, app_toList, List.drop_zero, h, Nat.sub_zero, ← len_toList A, List.take_left]
theorem ext_mid (A B C : ByteArray) (n m : Nat) (h : n = A.size) (hm : m = A.size + B.size) : (A ++ B ++ C).extract n m = B := by
  apply ba_toList
  rw [ext_toList, app_toList, app_toList, List.append_assoc, h, hm, ← len_toList A, List.drop_left, ← len_toList B, show A.data.toList.length + B.data.toList.length - A.data.toList.length = B.data.toList.length by omega, List.take_left]
theorem seal_split (f t tl pr id fr : Int) (mo dn : Bool) (op da : ByteArray) : sealS (headP f t tl pr id fr mo dn op da) 10 = (preP (64 + (20 + (op.size : Int)) / 4) (20 + (op.size : Int) + (da.size : Int)) id (flagsV fr mo dn) tl pr ++ txt (sumP f t (64 + (20 + (op.size : Int)) / 4) (20 + (op.size : Int) + (da.size : Int)) id (flagsV fr mo dn) tl pr op) 2 ++ txt f 4 ++ txt t 4) ++ op := by
  rw [seal_parts]; unfold postP; simp only [ByteArray.append_assoc]
theorem back_good {f t tl pr id fr : Int} {mo dn : Bool} {op da : ByteArray} (h : mayP f t tl pr id fr mo op.size da.size = true) (more s : ByteArray) (hsq : s = encP f t tl pr id fr mo dn op da ++ more) :
    goodD s ∧ dF s = f ∧ dT s = t ∧ dTl s = tl ∧ dPr s = pr ∧ dId s = id ∧ dFr s = fr ∧ dMo s = mo ∧ dDn s = dn ∧ dOp s = op ∧ dDa s = da := by
  obtain ⟨b20, b0, b1, bH, bL, bS, bf, bt, btl, bpr, bid, bfl⟩ := back_fields h more s hsq
  have hq := mayP_q h
  obtain ⟨-, -, -, -, -, ⟨r0, r1⟩, o4, o40, hm, hz, hz2⟩ := hq
  obtain ⟨g1, g2, g3⟩ := back_flags s fr mo dn r0 r1 bfl
  have hf := flagsV_bd fr mo dn r0 r1
  have hsz : (sealS (headP f t tl pr id fr mo dn op da) 10).size = 20 + op.size := by rw [sealS_size _ _ (by decide) (by rw [headP_size]; omega), headP_size]
  have hS1 : s = sealS (headP f t tl pr id fr mo dn op da) 10 ++ da ++ more := by rw [hsq]; rfl
  have hop : dOp s = op := by
    unfold dOp
    rw [bH, hS1, seal_split, ByteArray.append_assoc]
    have hX := hsz
    rw [seal_split, ByteArray.size_append] at hX
    exact ext_mid _ _ _ _ _ (by omega) (by omega)
  have hda : dDa s = da := by
    unfold dDa
    rw [bH, bL, hS1]
    exact ext_mid _ _ _ _ _ (by omega) (by omega)
  have hw : sumS (headS' s) = 0 := by
    have : headS' s = sealS (headP f t tl pr id fr mo dn op da) 10 := by
      unfold headS'
      rw [bH, hS1, ByteArray.append_assoc]
      exact ext_pre _ _ _ (by omega)
    rw [this]
    exact sum_zero (sum_sealS _ _ (by decide) (by rw [headP_size]; omega) (by decide))
  refine ⟨⟨b20, ?_, by omega, by omega, bS, hw, ?_, ?_, ?_⟩, bf, bt, btl, bpr, bid, g1, g2, g3, hop, hda⟩
  · rw [b0, bne_eq_false_iff_eq]; omega
  · rw [b1]; rfl
  · rw [bne_eq_false_iff_eq, high_bit s b20, bfl]; omega
  · unfold mayD; rw [bf, bt, btl, bpr, bid, g1, g2, hop, hda]; exact h
theorem app_inj_toList (l : List UInt8) (a b c : Nat) (hab : a ≤ b) (hbc : b ≤ c) : (l.drop a).take (b - a) ++ (l.drop b).take (c - b) = (l.drop a).take (c - a) := by
  have := cut_join l a (b - a) (c - b)
  rw [show a + (b - a) = b by omega, show b - a + (c - b) = c - a by omega] at this
  exact this
theorem txt_here (s : ByteArray) (a b k : Nat) (n : Int) (hn : n = numS (s.extract a b)) (hb : b = a + k) (h : b ≤ s.size) : txt n k = s.extract a b := by
  apply ba_toList
  rw [txt_toList, hn, txt_at s k a b hb h, ext_toList, hb, show a + k - a = k by omega]
theorem ext_join (s : ByteArray) (a b c : Nat) (hab : a ≤ b) (hbc : b ≤ c) : s.extract a b ++ s.extract b c = s.extract a c := by
  apply ba_toList
  rw [app_toList, ext_toList, ext_toList, ext_toList]
  exact app_inj_toList _ a b c hab hbc
/-- Bytes that are a packet's, and the packet's bytes: alike but for the sum. -/
theorem forth {s : ByteArray} (g : goodD s) : ∃ c : Int, (0 ≤ c ∧ c ≤ 65535) ∧ encP (dF s) (dT s) (dTl s) (dPr s) (dId s) (dFr s) (dMo s) (dDn s) (dOp s) (dDa s) = s.extract 0 10 ++ txt c 2 ++ s.extract 12 (dL s).toNat ∧ (c = numS (s.extract 10 12) ∨ c = 0 ∧ numS (s.extract 10 12) = 65535) := by
  obtain ⟨h20, h4, hH, hL, hS, hw, h1, h6, hm⟩ := g
  have zo := dOp_size hH hL hS
  have zd := dDa_size hH hL hS
  have hfl := dFl_bd s
  have h6' : dFl s < 32768 := by rw [← high_bit s h20]; exact bne_eq_false_iff_eq.1 h6
  have hflb := flags_back s hfl.1 h6'
  have h4' : byS s 0 / 16 = 4 := bne_eq_false_iff_eq.1 h4
  have h1' : byS s 1 = 0 := bne_eq_false_iff_eq.1 h1
  have b0 := byS_bd s 0
  have hA : 64 + (20 + ((dOp s).size : Int)) / 4 = byS s 0 := by rw [zo]; unfold dH; omega
  have hLL : 20 + ((dOp s).size : Int) + ((dDa s).size : Int) = dL s := by rw [zo, zd]; omega
  have hpre : preP (byS s 0) (dL s) (dId s) (dFl s) (dTl s) (dPr s) = s.extract 0 10 := by
    unfold preP
    rw [txt_here s 0 1 1 _ (byS_one s 0 1 rfl (by omega)) rfl (by omega), txt_here s 1 2 1 0 (by rw [← byS_one s 1 2 rfl (by omega)]; exact h1'.symm) rfl (by omega), txt_here s 2 4 2 (dL s) rfl rfl (by omega), txt_here s 4 6 2 (dId s) rfl rfl (by omega), txt_here s 6 8 2 (dFl s) rfl rfl (by omega), txt_here s 8 9 1 (dTl s) rfl rfl (by omega), txt_here s 9 10 1 (dPr s) rfl rfl (by omega)]
    rw [ext_join s 0 1 2 (by decide) (by decide), ext_join s 0 2 4 (by decide) (by decide), ext_join s 0 4 6 (by decide) (by decide), ext_join s 0 6 8 (by decide) (by decide), ext_join s 0 8 9 (by decide) (by decide), ext_join s 0 9 10 (by decide) (by decide)]
  have hpost : postP (dF s) (dT s) (dOp s) = s.extract 12 (dH s).toNat := by
    unfold postP dOp
    rw [txt_here s 12 16 4 (dF s) rfl rfl (by omega), txt_here s 16 20 4 (dT s) rfl rfl (by omega), ext_join s 12 16 20 (by decide) (by decide), ext_join s 12 20 _ (by decide) (by omega)]
  have henc : encP (dF s) (dT s) (dTl s) (dPr s) (dId s) (dFr s) (dMo s) (dDn s) (dOp s) (dDa s) = s.extract 0 10 ++ txt (sumP (dF s) (dT s) (byS s 0) (dL s) (dId s) (dFl s) (dTl s) (dPr s) (dOp s)) 2 ++ s.extract 12 (dL s).toNat := by
    unfold encP
    rw [seal_parts, hflb, hA, hLL, hpre, hpost, ByteArray.append_assoc]
    unfold dDa
    rw [ext_join s 12 _ _ (by omega) (by omega)]
  refine ⟨_, sumP_bd _ _ _ _ _ _ _ _ _, henc, ?_⟩
  have hhd : headS' s = s.extract 0 10 ++ txt (numS (s.extract 10 12)) 2 ++ s.extract 12 (dH s).toNat := by
    rw [txt_here s 10 12 2 _ rfl rfl (by omega), ext_join s 0 10 12 (by decide) (by decide), ext_join s 0 12 _ (by decide) (by omega)]
    rfl
  have nb := numS_bd s 10 12 2 (by decide)
  have z := zero_sum hw
  rw [hhd, ws_mid _ _ _ (by rw [ByteArray.size_extract]; omega) nb.1 (by omega)] at z
  have hpos : 0 < totS [s.extract 0 10, s.extract 12 (dH s).toNat] := by
    rw [totS_even _ _ (by rw [ByteArray.size_extract]; omega)]
    have w1 := (ws_bd true (s.extract 12 (dH s).toNat).data.toList).1
    have w2 : 256 * byS s 0 ≤ ws true (s.extract 0 10).data.toList := by
      have hl := len_toList s
      rw [ext_toList, List.drop_zero, ← byS_is s 0 (by omega)]
      rw [show (s.data.toList.take (10 - 0)) = s.data.toList[0] :: (s.data.toList.drop 1).take 9 by rw [show s.data.toList.take (10 - 0) = (s.data.toList.drop 0).take 10 by simp, List.drop_eq_getElem_cons (by omega : 0 < s.data.toList.length)]; rfl]
      have := (ws_bd false ((s.data.toList.drop 1).take 9)).1
      simp only [ws, if_true, Bool.not_true]
      have e : (s.data.toList[0]'(by omega)).toNat = (s[0]'(by omega)).toNat := rfl
      omega
    omega
  unfold sumP
  rw [hpre, hpost]
  generalize totS [s.extract 0 10, s.extract 12 (dH s).toNat] = T at *
  generalize numS (s.extract 10 12) = v at *
  unfold missV foldV at *
  rw [if_neg (by omega)] at z ⊢
  omega
end Go.Proofs.Ytcjhniehbafhpaa
