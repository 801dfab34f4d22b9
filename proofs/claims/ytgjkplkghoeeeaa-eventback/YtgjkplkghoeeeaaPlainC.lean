/- Plain facts more, on sealed bytes and on a bit that is turned: nothing of the program is named here. -/
import Derived.Test.YtgjkplkghoeeeaaPlainB
namespace Go.Proofs.Ytgjkplkghoeeeaa
open Go.RowKit

theorem foldV_fill (x : Int) (h : 0 ≤ x) : foldV (x + (65535 - foldV x)) = 65535 := by
  unfold foldV
  by_cases e : x = 0
  · simp [e]
  · rw [if_neg e, if_neg (by omega)]
    omega
theorem txtL_two (c : Int) : txtL c 2 = [byteAt c 1, byteAt c 0] := by simp [txtL, List.range_succ]
theorem ws_txt (c : Int) (h0 : 0 ≤ c) (h1 : c ≤ 65535) : ws true (txtL c 2) = c := by
  rw [txtL_two]
  simp only [ws]
  have e1 := byteAt_toNat c 1
  have e0 := byteAt_toNat c 0
  simp at e1 e0
  simp [e1, e0]
  omega
theorem txt_toList (c : Int) (k : Nat) : (txt c k).data.toList = txtL c k := by simp [txt]
theorem ws_mid (A B : ByteArray) (c : Int) (hA : A.size % 2 = 0) (h0 : 0 ≤ c) (h1 : c ≤ 65535) : ws true (A ++ txt c 2 ++ B).data.toList = totS [A, B] + c := by
  rw [app_toList, app_toList, txt_toList, List.append_assoc, ws_append, turnB_even _ _ (by rw [len_toList]; exact hA), ws_append, ws_txt c h0 h1, turnB_even _ _ (by rw [txtL_len]), totS_even A B hA]
  omega
theorem totS_nonneg (ss : List ByteArray) : 0 ≤ totS ss := (ws_bd true (catS ss)).1
theorem sum_sealS (s : ByteArray) (o : Int) (h0 : 0 ≤ o) (h1 : o ≤ (s.size : Int) - 2) (h2 : o % 2 = 0) : foldV (ws true (sealS s o).data.toList) = 65535 := by
  unfold sealS
  have hb := missV_bd (totS [headS s o, tailS s o])
  rw [ws_mid _ _ _ (by rw [headS_size s o h0 h1]; omega) hb.1 hb.2]
  exact foldV_fill _ (totS_nonneg _)
theorem sealS_size (s : ByteArray) (o : Int) (h0 : 0 ≤ o) (h1 : o ≤ (s.size : Int) - 2) : (sealS s o).size = s.size := by
  unfold sealS
  rw [ByteArray.size_append, ByteArray.size_append, headS_size s o h0 h1, tailS_size s o h0 h1, txt_size]
  omega
theorem head_sealS (s : ByteArray) (o : Int) (h0 : 0 ≤ o) (h1 : o ≤ (s.size : Int) - 2) : headS (sealS s o) o = headS s o := by
  have e := headS_size s o h0 h1
  show (sealS s o).extract 0 o.toNat = headS s o
  unfold sealS
  rw [← e]
  exact mid_head _ _ _
theorem tail_sealS (s : ByteArray) (o : Int) (h0 : 0 ≤ o) (h1 : o ≤ (s.size : Int) - 2) : tailS (sealS s o) o = tailS s o := by
  have e := headS_size s o h0 h1
  show (sealS s o).extract (o + 2).toNat (sealS s o).size = tailS s o
  unfold sealS
  exact mid_tail _ _ _ _ (by rw [e, txt_size]; omega)
theorem sealS_again (s : ByteArray) (o : Int) (h0 : 0 ≤ o) (h1 : o ≤ (s.size : Int) - 2) : sealS (sealS s o) o = sealS s o := by
  have e1 := head_sealS s o h0 h1
  have e2 := tail_sealS s o h0 h1
  have : sealS (sealS s o) o = headS (sealS s o) o ++ txt (missV (totS [headS (sealS s o) o, tailS (sealS s o) o])) 2 ++ tailS (sealS s o) o := rfl
  rw [this, e1, e2]
  rfl

/-! ### A byte that is set, a bit that is turned -/
theorem ws_set (h : Bool) (l : List UInt8) (i : Nat) (b : UInt8) (hi : i < l.length) :
    ws h (l.set i b) = ws h l + (if turnB h i = true then 256 * ((b.toNat : Int) - (l[i].toNat : Int)) else ((b.toNat : Int) - (l[i].toNat : Int))) := by
  induction l generalizing h i with
  | nil => simp at hi
  | cons x l ih =>
    cases i with
    | zero =>
      simp only [List.set_cons_zero, ws, List.getElem_cons_zero, turnB_zero]
      cases h <;> simp <;> omega
    | succ i =>
      simp only [List.set_cons_succ, ws, List.getElem_cons_succ, turnB_succ]
      rw [ih (!h) i (by simpa using hi)]
      omega
theorem bit_turn : ∀ b, b < 256 → ∀ j, j < 8 → (b ^^^ 2 ^ j = b + 2 ^ j ∨ (b ^^^ 2 ^ j) + 2 ^ j = b) ∧ b ^^^ 2 ^ j < 256 := by decide +kernel
theorem ofNat_toNat (n : Nat) (h : n < 256) : (UInt8.ofNat n).toNat = n := by
  have : (UInt8.ofNat n).toNat = n % 256 := by simp
  omega
/-- With one bit turned the sum is whole no more. -/
theorem turn_not_whole (l : List UInt8) (i j : Nat) (hi : i < l.length) (hj : j < 8) (hw : foldV (ws true l) = 65535) :
    ¬ foldV (ws true (l.set i (UInt8.ofNat (l[i].toNat ^^^ 2 ^ j)))) = 65535 := by
  have hb := bit_turn l[i].toNat l[i].toNat_lt j hj
  have e : (UInt8.ofNat (l[i].toNat ^^^ 2 ^ j)).toNat = l[i].toNat ^^^ 2 ^ j := ofNat_toNat _ hb.2
  rw [ws_set true l i _ hi, e]
  have hn := (ws_bd true (l.set i (UInt8.ofNat (l[i].toNat ^^^ 2 ^ j)))).1
  rw [ws_set true l i _ hi, e] at hn
  have hn0 := (ws_bd true l).1
  generalize l[i].toNat ^^^ 2 ^ j = c at *
  generalize l[i].toNat = b at *
  have hp : (2 : Nat) ^ j = 1 ∨ (2 : Nat) ^ j = 2 ∨ (2 : Nat) ^ j = 4 ∨ (2 : Nat) ^ j = 8 ∨ (2 : Nat) ^ j = 16 ∨ (2 : Nat) ^ j = 32 ∨ (2 : Nat) ^ j = 64 ∨ (2 : Nat) ^ j = 128 := by
    obtain rfl | rfl | rfl | rfl | rfl | rfl | rfl | rfl : j = 0 ∨ j = 1 ∨ j = 2 ∨ j = 3 ∨ j = 4 ∨ j = 5 ∨ j = 6 ∨ j = 7 := by omega
    all_goals simp
  generalize (2 : Nat) ^ j = p at *
  generalize ws true l = x at *
  obtain ⟨hb1, _⟩ := hb
  unfold foldV at *
  by_cases hx : x = 0
  · simp [hx] at hw
  · rw [if_neg hx] at hw
    cases turnB true i
    · simp at hn ⊢
      split
      · omega
      · rcases hp with rfl | rfl | rfl | rfl | rfl | rfl | rfl | rfl <;> omega
    · simp at hn ⊢
      split
      · omega
      · rcases hp with rfl | rfl | rfl | rfl | rfl | rfl | rfl | rfl <;> omega
theorem xor_bit (b j : Nat) (hb : b < 256) (hj : j < 8) : bits BinOp.xor IntKind.u8 (b : Int) (IntKind.u8.wrap (2 ^ j)) = ((b ^^^ 2 ^ j : Nat) : Int) := by
  have e : IntKind.u8.wrap (2 ^ j) = ((2 ^ j : Nat) : Int) := by
    rw [IntKind.wrap_u8']
    obtain rfl | rfl | rfl | rfl | rfl | rfl | rfl | rfl : j = 0 ∨ j = 1 ∨ j = 2 ∨ j = 3 ∨ j = 4 ∨ j = 5 ∨ j = 6 ∨ j = 7 := by omega
    all_goals decide
  have hp : 2 ^ j < 256 := by
    obtain rfl | rfl | rfl | rfl | rfl | rfl | rfl | rfl : j = 0 ∨ j = 1 ∨ j = 2 ∨ j = 3 ∨ j = 4 ∨ j = 5 ∨ j = 6 ∨ j = 7 := by omega
    all_goals decide
  rw [e, u8_xor_nat b (2 ^ j) hb hp]
end Go.Proofs.Ytgjkplkghoeeeaa
