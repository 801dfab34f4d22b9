/- Plain facts of ICMP packets as bytes: there, and with a bit turned. -/
import Derived.Test.YtbbeepkcejiafaaIce
import Derived.Test.YtbbeepkcejiafaaIcd
namespace Go.Proofs.Ytbbeepkcejiafaa
open Go.RowKit

theorem app4 (a b c d e f : ByteArray) : a ++ b ++ c ++ d ++ e ++ f = (a ++ b) ++ c ++ (d ++ e ++ f) := by simp only [ByteArray.append_assoc]
theorem encI_is (ty co x y : Int) (da : ByteArray) : ∃ c : Int, (0 ≤ c ∧ c ≤ 65535) ∧ encI ty co x y da = (txt ty 1 ++ txt co 1) ++ txt c 2 ++ (txt x 2 ++ txt y 2 ++ da) := by
  have h0 : headI ty co x y da = (txt ty 1 ++ txt co 1) ++ txt 0 2 ++ (txt x 2 ++ txt y 2 ++ da) := app4 _ _ _ _ _ _
  have hA : headS (headI ty co x y da) 2 = txt ty 1 ++ txt co 1 := by
    unfold headS
    rw [h0]
    have := mid_head (txt ty 1 ++ txt co 1) (txt 0 2) (txt x 2 ++ txt y 2 ++ da)
    rw [ByteArray.size_append, txt_size, txt_size] at this
    exact this
  have hB : tailS (headI ty co x y da) 2 = txt x 2 ++ txt y 2 ++ da := by
    unfold tailS
    rw [h0]
    exact mid_tail (txt ty 1 ++ txt co 1) (txt 0 2) (txt x 2 ++ txt y 2 ++ da) _ (by rw [ByteArray.size_append, txt_size, txt_size, txt_size]; rfl)
  refine ⟨missV (totS [headS (headI ty co x y da) 2, tailS (headI ty co x y da) 2]), missV_bd _, ?_⟩
  show sealS (headI ty co x y da) 2 = _
  unfold sealS
  rw [hA, hB]
theorem encI_list (ty co x y : Int) (da : ByteArray) : ∃ c : Int, (0 ≤ c ∧ c ≤ 65535) ∧ (encI ty co x y da).data.toList = txtL ty 1 ++ txtL co 1 ++ txtL c 2 ++ txtL x 2 ++ txtL y 2 ++ da.data.toList := by
  obtain ⟨c, hc, he⟩ := encI_is ty co x y da
  refine ⟨c, hc, ?_⟩
  rw [he]
  simp only [app_toList, txt_toList, List.append_assoc]
theorem encI_back {ty co x y : Int} {da : ByteArray} (h : mayI ty co x y da.size = true) : iTy (encI ty co x y da) = ty ∧ iCo (encI ty co x y da) = co ∧ iX (encI ty co x y da) = x ∧ iY (encI ty co x y da) = y ∧ iDa (encI ty co x y da) = da := by
  obtain ⟨⟨t0, t1⟩, ⟨c0, c1⟩, ⟨x0, x1⟩, ⟨y0, y1⟩, hz⟩ := mayI_q h
  obtain ⟨c, hc, he⟩ := encI_list ty co x y da
  have hL : ∀ n k, (txtL n k).length = k := fun n k => txtL_len n k
  refine ⟨?_, ?_, ?_, ?_, ?_⟩
  · exact num_at _ [] (txtL co 1 ++ txtL c 2 ++ txtL x 2 ++ txtL y 2 ++ da.data.toList) ty 1 0 1 (by rw [he]; simp only [List.append_assoc, List.nil_append]) rfl rfl t0 (by omega)
  · exact num_at _ (txtL ty 1) (txtL c 2 ++ txtL x 2 ++ txtL y 2 ++ da.data.toList) co 1 1 2 (by rw [he]; simp only [List.append_assoc]) (hL _ _) rfl c0 (by omega)
  · exact num_at _ (txtL ty 1 ++ txtL co 1 ++ txtL c 2) (txtL y 2 ++ da.data.toList) x 2 4 6 (by rw [he]; simp only [List.append_assoc]) (by simp only [List.length_append, hL]) rfl x0 (by omega)
  · exact num_at _ (txtL ty 1 ++ txtL co 1 ++ txtL c 2 ++ txtL x 2) (da.data.toList) y 2 6 8 (by rw [he]; simp only [List.append_assoc]) (by simp only [List.length_append, hL]) rfl y0 (by omega)
  · unfold iDa
    apply ba_toList
    rw [ext_toList, he, List.drop_left' (by simp only [List.length_append, hL])]
    rw [List.take_of_length_le]
    rw [len_toList, encI_size]
    omega
theorem encI_whole (ty co x y : Int) (da : ByteArray) : (sumS (encI ty co x y da) == 0) = true := by
  have h := sum_sealS (headI ty co x y da) 2 (by decide) (by rw [headI_size]; omega) (by decide)
  have : sumS (encI ty co x y da) = 0 := by
    show missV (ws true (sealS (headI ty co x y da) 2).data.toList) = 0
    unfold missV
    rw [h]
    rfl
  rw [this]; rfl
theorem encI_tail (ty co x y : Int) (da : ByteArray) : (encI ty co x y da).extract 4 (encI ty co x y da).size = txt x 2 ++ txt y 2 ++ da := by
  obtain ⟨c, -, he⟩ := encI_is ty co x y da
  rw [he]
  exact mid_tail (txt ty 1 ++ txt co 1) (txt c 2) (txt x 2 ++ txt y 2 ++ da) _ (by rw [ByteArray.size_append, txt_size, txt_size, txt_size])
theorem byte_num (s : ByteArray) (i : Nat) (h : i < s.size) : (s[i].toNat : Int) = numS (s.extract i (i + 1)) := by
  unfold numS
  rw [ext_toList, show i + 1 - i = 1 by omega]
  have hl : i < s.data.toList.length := by rw [len_toList]; exact h
  rw [List.drop_eq_getElem_cons hl]
  simp [numL, ByteArray.getElem_eq_getElem_data]
end Go.Proofs.Ytbbeepkcejiafaa
