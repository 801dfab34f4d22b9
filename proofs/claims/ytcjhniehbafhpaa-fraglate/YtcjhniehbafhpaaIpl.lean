/- Plain facts of IP packets as bytes, there and back: nothing of the program is walked here. -/
import Derived.Test.YtcjhniehbafhpaaEnb
import Derived.Test.YtcjhniehbafhpaaDec
namespace Go.Proofs.Ytcjhniehbafhpaa
open Go.RowKit
set_option maxRecDepth 100000

def preP (A L id fl tl pr : Int) : ByteArray := txt A 1 ++ txt 0 1 ++ txt L 2 ++ txt id 2 ++ txt fl 2 ++ txt tl 1 ++ txt pr 1
def postP (f t : Int) (op : ByteArray) : ByteArray := txt f 4 ++ txt t 4 ++ op
theorem preP_size (A L id fl tl pr : Int) : (preP A L id fl tl pr).size = 10 := by unfold preP; simp only [ByteArray.size_append, txt_size]
theorem postP_size (f t : Int) (op : ByteArray) : (postP f t op).size = 8 + op.size := by unfold postP; simp only [ByteArray.size_append, txt_size]
def sumP (f t : Int) (A L id fl tl pr : Int) (op : ByteArray) : Int := missV (totS [preP A L id fl tl pr, postP f t op])
theorem seal_parts (f t tl pr id fr : Int) (mo dn : Bool) (op da : ByteArray) : sealS (headP f t tl pr id fr mo dn op da) 10 = preP (64 + (20 + (op.size : Int)) / 4) (20 + (op.size : Int) + (da.size : Int)) id (flagsV fr mo dn) tl pr ++ txt (sumP f t (64 + (20 + (op.size : Int)) / 4) (20 + (op.size : Int) + (da.size : Int)) id (flagsV fr mo dn) tl pr op) 2 ++ postP f t op := by
  have e : headP f t tl pr id fr mo dn op da = preP (64 + (20 + (op.size : Int)) / 4) (20 + (op.size : Int) + (da.size : Int)) id (flagsV fr mo dn) tl pr ++ txt 0 2 ++ postP f t op := by
    unfold headP preP postP
    simp only [ByteArray.append_assoc]
  have h1 : headS (headP f t tl pr id fr mo dn op da) 10 = preP (64 + (20 + (op.size : Int)) / 4) (20 + (op.size : Int) + (da.size : Int)) id (flagsV fr mo dn) tl pr := by
    rw [e]; unfold headS
    have := mid_head (preP (64 + (20 + (op.size : Int)) / 4) (20 + (op.size : Int) + (da.size : Int)) id (flagsV fr mo dn) tl pr) (txt 0 2) (postP f t op)
    rw [preP_size] at this; exact this
  have h2 : tailS (headP f t tl pr id fr mo dn op da) 10 = postP f t op := by
    rw [e]; unfold tailS
    exact mid_tail _ _ _ _ (by rw [preP_size, txt_size]; rfl)
  unfold sealS sumP
  rw [h1, h2]
theorem sumP_bd (f t : Int) (A L id fl tl pr : Int) (op : ByteArray) : 0 ≤ sumP f t A L id fl tl pr op ∧ sumP f t A L id fl tl pr op ≤ 65535 := missV_bd _
theorem enc_list (f t tl pr id fr : Int) (mo dn : Bool) (op da : ByteArray) (more : ByteArray) : (encP f t tl pr id fr mo dn op da ++ more).data.toList = txtL (64 + (20 + (op.size : Int)) / 4) 1 ++ (txtL 0 1 ++ (txtL (20 + (op.size : Int) + (da.size : Int)) 2 ++ (txtL id 2 ++ (txtL (flagsV fr mo dn) 2 ++ (txtL tl 1 ++ (txtL pr 1 ++ (txtL (sumP f t (64 + (20 + (op.size : Int)) / 4) (20 + (op.size : Int) + (da.size : Int)) id (flagsV fr mo dn) tl pr op) 2 ++ (txtL f 4 ++ (txtL t 4 ++ (op.data.toList ++ (da.data.toList ++ more.data.toList))))))))))) := by
  unfold encP
  rw [seal_parts]
  unfold preP postP
  simp only [app_toList, txt_toList, List.append_assoc]

theorem byS_one (s : ByteArray) (i j : Nat) (hj : j = i + 1) (h : i < s.size) : byS s i = numS (s.extract i j) := by
  subst hj
  have hl := len_toList s
  unfold numS
  rw [ext_toList, ← byS_is s i h, show i + 1 - i = 1 by omega]
  rw [List.drop_eq_getElem_cons (by omega : i < s.data.toList.length)]
  simp [numL]
  rfl
theorem byS_at (s : ByteArray) (pre post : List UInt8) (n : Int) (i : Nat) (hs : s.data.toList = pre ++ (txtL n 1 ++ post)) (ha : pre.length = i) (h0 : 0 ≤ n) (h1 : n ≤ 255) : byS s i = n := by
  have hl := len_toList s
  have hi : i < s.size := by rw [← hl, hs]; simp [txtL_len]; omega
  rw [← num_at s pre post n 1 i (i + 1) hs ha rfl h0 (by simp; omega)]
  exact byS_one s i (i + 1) rfl hi

theorem back_fields {f t tl pr id fr : Int} {mo dn : Bool} {op da : ByteArray} (h : mayP f t tl pr id fr mo op.size da.size = true) (more s : ByteArray) (hsq : s = encP f t tl pr id fr mo dn op da ++ more) :
    20 ≤ (s.size : Int) ∧ byS s 0 = 64 + (20 + (op.size : Int)) / 4 ∧ byS s 1 = 0 ∧ dH s = 20 + (op.size : Int) ∧ dL s = 20 + (op.size : Int) + (da.size : Int) ∧ dL s ≤ (s.size : Int) ∧ dF s = f ∧ dT s = t ∧ dTl s = tl ∧ dPr s = pr ∧ dId s = id ∧ dFl s = flagsV fr mo dn := by
  obtain ⟨⟨f0, f1⟩, ⟨t0, t1⟩, ⟨l0, l1⟩, ⟨p0, p1⟩, ⟨i0, i1⟩, ⟨r0, r1⟩, o4, o40, hm, hz, hz2⟩ := mayP_q h
  have hf := flagsV_bd fr mo dn r0 r1
  have hL := enc_list f t tl pr id fr mo dn op da more
  rw [← hsq] at hL
  have hsz : s.size = 20 + op.size + da.size + more.size := by rw [hsq, ByteArray.size_append, encP_size]
  have a0 : byS s 0 = 64 + (20 + (op.size : Int)) / 4 := byS_at s [] _ _ 0 hL rfl (by omega) (by omega)
  have cc := sumP_bd f t (64 + (20 + (op.size : Int)) / 4) (20 + (op.size : Int) + (da.size : Int)) id (flagsV fr mo dn) tl pr op
  obtain ⟨A, hA⟩ : ∃ A : Int, A = 64 + (20 + (op.size : Int)) / 4 := ⟨_, rfl⟩
  rw [← hA] at hL a0 cc ⊢
  generalize sumP f t A (20 + (op.size : Int) + (da.size : Int)) id (flagsV fr mo dn) tl pr op = C at hL cc
  have hdl : dL s = 20 + (op.size : Int) + (da.size : Int) := num_at s (txtL A 1 ++ txtL 0 1) _ _ 2 2 4 (by rw [hL]; simp only [List.append_assoc]; rfl) (by simp only [List.length_append, txtL_len]) rfl (by omega) (by simp; omega)
  refine ⟨by omega, a0, ?_, ?_, hdl, by omega, ?_, ?_, ?_, ?_, ?_, ?_⟩
  · exact byS_at s (txtL A 1) _ _ 1 hL (by rw [txtL_len]) (by decide) (by decide)
  · unfold dH; rw [a0]; omega
  · exact num_at s (txtL A 1 ++ (txtL 0 1 ++ (txtL (20 + (op.size : Int) + (da.size : Int)) 2 ++ (txtL id 2 ++ (txtL (flagsV fr mo dn) 2 ++ (txtL tl 1 ++ (txtL pr 1 ++ txtL C 2))))))) _ _ 4 12 16 (by rw [hL]; simp only [List.append_assoc]; rfl) (by simp only [List.length_append, txtL_len]) rfl f0 (by simp; omega)
  · exact num_at s (txtL A 1 ++ (txtL 0 1 ++ (txtL (20 + (op.size : Int) + (da.size : Int)) 2 ++ (txtL id 2 ++ (txtL (flagsV fr mo dn) 2 ++ (txtL tl 1 ++ (txtL pr 1 ++ (txtL C 2 ++ txtL f 4)))))))) _ _ 4 16 20 (by rw [hL]; simp only [List.append_assoc]; rfl) (by simp only [List.length_append, txtL_len]) rfl t0 (by simp; omega)
  · exact num_at s (txtL A 1 ++ (txtL 0 1 ++ (txtL (20 + (op.size : Int) + (da.size : Int)) 2 ++ (txtL id 2 ++ txtL (flagsV fr mo dn) 2)))) _ _ 1 8 9 (by rw [hL]; simp only [List.append_assoc]; rfl) (by simp only [List.length_append, txtL_len]) rfl l0 (by simp; omega)
  · exact num_at s (txtL A 1 ++ (txtL 0 1 ++ (txtL (20 + (op.size : Int) + (da.size : Int)) 2 ++ (txtL id 2 ++ (txtL (flagsV fr mo dn) 2 ++ txtL tl 1))))) _ _ 1 9 10 (by rw [hL]; simp only [List.append_assoc]; rfl) (by simp only [List.length_append, txtL_len]) rfl p0 (by simp; omega)
  · exact num_at s (txtL A 1 ++ (txtL 0 1 ++ txtL (20 + (op.size : Int) + (da.size : Int)) 2)) _ _ 2 4 6 (by rw [hL]; simp only [List.append_assoc]; rfl) (by simp only [List.length_append, txtL_len]) rfl i0 (by simp; omega)
  · exact num_at s (txtL A 1 ++ (txtL 0 1 ++ (txtL (20 + (op.size : Int) + (da.size : Int)) 2 ++ txtL id 2))) _ _ 2 6 8 (by rw [hL]; simp only [List.append_assoc]; rfl) (by simp only [List.length_append, txtL_len]) rfl hf.1 (by simp; omega)
end Go.Proofs.Ytcjhniehbafhpaa
