/- Plain facts: ARP packets there and back. -/
import Derived.Test.YthffkmlihnfoeaaAdec
import Derived.Test.YthffkmlihnfoeaaTxtNum
namespace Go.Proofs.Ythffkmlihnfoeaa
open Go.RowKit

theorem encA_list (o fm fi tm ti : Int) (m : ByteArray) : (encA o fm fi tm ti ++ m).data.toList = [0, 1, 8, 0, 6, 4] ++ (txtL o 2 ++ (txtL fm 6 ++ (txtL fi 4 ++ (txtL tm 6 ++ (txtL ti 4 ++ m.data.toList))))) := by
  unfold encA
  simp only [app_toList, txt_toList, List.append_assoc]
theorem enc_more {o fm fi tm ti : Int} (h : mayA o fm fi tm ti = true) (m : ByteArray) :
    aO (encA o fm fi tm ti ++ m) = o ∧ aFm (encA o fm fi tm ti ++ m) = fm ∧ aFi (encA o fm fi tm ti ++ m) = fi ∧ aTm (encA o fm fi tm ti ++ m) = tm ∧ aTi (encA o fm fi tm ti ++ m) = ti ∧ preB (encA o fm fi tm ti ++ m) = true ∧ (encA o fm fi tm ti ++ m).size = 28 + m.size := by
  obtain ⟨ho, hfm, -, hfi, htm, hti⟩ := mayA_parts h
  have L := encA_list o fm fi tm ti m
  refine ⟨?_, ?_, ?_, ?_, ?_, ?_, ?_⟩
  · exact num_at _ _ _ o 2 6 8 L rfl rfl (by omega) (by omega)
  · exact num_at _ ([0, 1, 8, 0, 6, 4] ++ txtL o 2) _ fm 6 8 14 (by rw [L]; simp only [List.append_assoc]; rfl) (by simp only [List.length_append, txtL_len]; rfl) rfl hfm.1 (by have := hfm.2; omega)
  · exact num_at _ ([0, 1, 8, 0, 6, 4] ++ txtL o 2 ++ txtL fm 6) _ fi 4 14 18 (by rw [L]; simp only [List.append_assoc]; rfl) (by simp only [List.length_append, txtL_len]; rfl) rfl hfi.1 (by have := hfi.2; omega)
  · exact num_at _ ([0, 1, 8, 0, 6, 4] ++ txtL o 2 ++ txtL fm 6 ++ txtL fi 4) _ tm 6 18 24 (by rw [L]; simp only [List.append_assoc]; rfl) (by simp only [List.length_append, txtL_len]; rfl) rfl htm.1 (by have := htm.2; omega)
  · exact num_at _ ([0, 1, 8, 0, 6, 4] ++ txtL o 2 ++ txtL fm 6 ++ txtL fi 4 ++ txtL tm 6) _ ti 4 24 28 (by rw [L]; simp only [List.append_assoc]; rfl) (by simp only [List.length_append, txtL_len]; rfl) rfl hti.1 (by have := hti.2; omega)
  · have e : (encA o fm fi tm ti ++ m).extract 0 6 = hdS := by
      apply ba_toList
      rw [ext_toList, L]
      rfl
    unfold preB
    rw [e]
    exact beq_self_eq_true _
  · rw [ByteArray.size_append, encA_size]
theorem mayS_more {o fm fi tm ti : Int} (h : mayA o fm fi tm ti = true) (m : ByteArray) : mayS (encA o fm fi tm ti ++ m) = true := by
  obtain ⟨e1, e2, e3, e4, e5, -, -⟩ := enc_more h m
  unfold mayS
  rw [e1, e2, e3, e4, e5, h]
theorem decA_more_t {o fm fi tm ti : Int} (h : mayA o fm fi tm ti = true) (m : ByteArray) (hm : m.size ≤ 18) : decA (encA o fm fi tm ti ++ m) = true := by
  obtain ⟨-, -, -, -, -, e6, e7⟩ := enc_more h m
  unfold decA
  rw [mayS_more h m, e6, e7, decide_eq_true ⟨by omega, by omega⟩]
  rfl
theorem decA_more_f {o fm fi tm ti : Int} (h : mayA o fm fi tm ti = true) (m : ByteArray) (hm : 18 < m.size) : decA (encA o fm fi tm ti ++ m) = false := by
  obtain ⟨-, -, -, -, -, e6, e7⟩ := enc_more h m
  unfold decA
  rw [e7, decide_eq_false (by omega)]
  rfl
theorem enc_dec {s : ByteArray} (h : decA s = true) : encA (aO s) (aFm s) (aFi s) (aTm s) (aTi s) = s.extract 0 28 := by
  obtain ⟨h1, -, h2, -⟩ := decA_parts h
  apply ba_toList
  have L := encA_list (aO s) (aFm s) (aFi s) (aTm s) (aTi s) ⟨#[]⟩
  rw [app_nil] at L
  rw [L, ext_toList]
  have hd : s.extract 0 6 = hdS := list_inj (eq_of_beq h2)
  have hd' : (s.data.toList.drop 0).take 6 = [0, 1, 8, 0, 6, 4] := by rw [← ext_toList s 0 6, hd]; rfl
  unfold aO aFm aFi aTm aTi
  rw [txt_at s 2 6 8 rfl (by omega), txt_at s 6 8 14 rfl (by omega), txt_at s 4 14 18 rfl (by omega), txt_at s 6 18 24 rfl (by omega), txt_at s 4 24 28 rfl (by omega), ← hd']
  simp only [List.append_nil]
  generalize s.data.toList = l
  rw [cut_join l 18 6 4, cut_join l 14 4 10, cut_join l 8 6 14, cut_join l 6 2 20, cut_join l 0 6 22]
end Go.Proofs.Ythffkmlihnfoeaa
