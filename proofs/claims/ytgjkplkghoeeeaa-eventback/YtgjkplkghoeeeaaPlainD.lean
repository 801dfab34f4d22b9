/- Plain facts more, on a sum that is turned: nothing of the program is named here. -/
import Derived.Test.YtgjkplkghoeeeaaPlainC
namespace Go.Proofs.Ytgjkplkghoeeeaa
open Go.RowKit

theorem foldV_mod (n : Int) : foldV n % 65535 = n % 65535 := by
  unfold foldV
  split <;> omega
theorem num_two (l : List UInt8) (h : l.length = 2) : numL l = ws true l := by
  match l, h with
  | [a, b], _ => simp [numL, ws]; omega
theorem ws_split (s : ByteArray) (o : Int) (h0 : 0 ≤ o) (h1 : o ≤ (s.size : Int) - 2) (h2 : o % 2 = 0) :
    ws true s.data.toList = totS [headS s o, tailS s o] + numS (s.extract o.toNat (o + 2).toNat) := by
  have hz := headS_size s o h0 h1
  rw [totS_even _ _ (by rw [hz]; omega)]
  unfold numS
  have hm : (s.extract o.toNat (o + 2).toNat).data.toList.length = 2 := by rw [len_toList, ByteArray.size_extract]; omega
  rw [num_two _ hm]
  have e1 : s.data.toList = (headS s o).data.toList ++ ((s.extract o.toNat (o + 2).toNat).data.toList ++ (tailS s o).data.toList) := by
    unfold headS tailS
    rw [ext_toList, ext_toList, ext_toList, List.drop_zero, Nat.sub_zero]
    have e2 : (o + 2).toNat - o.toNat = 2 := by omega
    have e3 : (o + 2).toNat = o.toNat + 2 := by omega
    rw [e2, e3, List.take_of_length_le (l := List.drop (o.toNat + 2) s.data.toList) (by rw [List.length_drop, len_toList]; exact Nat.le_refl _)]
    have e4 : List.drop (o.toNat + 2) s.data.toList = List.drop 2 (List.drop o.toNat s.data.toList) := by rw [List.drop_drop]
    rw [e4, List.take_append_drop, List.take_append_drop]
  have e5 : ws true s.data.toList = ws true ((headS s o).data.toList ++ ((s.extract o.toNat (o + 2).toNat).data.toList ++ (tailS s o).data.toList)) := congrArg (ws true) e1
  rw [e5, ws_append, turnB_even _ _ (by rw [len_toList, hz]; omega), ws_append, turnB_even _ _ (by rw [hm])]
  omega
/-- The sum that is turned, and the sum of the turned bytes, are the same but that 0 and 65535 stand for one another. -/
theorem turned (s : ByteArray) (o now : Int) (h0 : 0 ≤ o) (h1 : o ≤ (s.size : Int) - 2) (h2 : o % 2 = 0) (n0 : 0 ≤ now) (n1 : now ≤ 65535) :
    missV (65535 - sumS s + (65535 - numS (s.extract o.toNat (o + 2).toNat)) + now) % 65535 = sumS (headS s o ++ txt now 2 ++ tailS s o) % 65535 := by
  have hz := headS_size s o h0 h1
  have e1 := ws_split s o h0 h1 h2
  have e2 := ws_mid (headS s o) (tailS s o) now (by rw [hz]; omega) n0 n1
  unfold sumS missV
  rw [e1, e2]
  have m1 := foldV_mod (totS [headS s o, tailS s o] + numS (s.extract o.toNat (o + 2).toNat))
  have m2 := foldV_mod (totS [headS s o, tailS s o] + now)
  generalize numS (s.extract o.toNat (o + 2).toNat) = was at *
  generalize totS [headS s o, tailS s o] = X at *
  have m3 := foldV_mod (65535 - (65535 - foldV (X + was)) + (65535 - was) + now)
  omega
theorem num_mid_bd (s : ByteArray) (o : Int) (h0 : 0 ≤ o) (h1 : o ≤ (s.size : Int) - 2) : 0 ≤ numS (s.extract o.toNat (o + 2).toNat) ∧ numS (s.extract o.toNat (o + 2).toNat) ≤ 65535 := by
  have hm : (s.extract o.toNat (o + 2).toNat).data.toList.length = 2 := by rw [len_toList, ByteArray.size_extract]; omega
  have := numL_bd (s.extract o.toNat (o + 2).toNat).data.toList
  rw [hm] at this
  unfold numS
  omega
end Go.Proofs.Ytgjkplkghoeeeaa
