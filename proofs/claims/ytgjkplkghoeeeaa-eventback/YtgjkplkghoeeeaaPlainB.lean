/- Plain facts more, on sums of pieces of even lengths: nothing of the program is named here. -/
import Derived.Test.YtgjkplkghoeeeaaPlain
namespace Go.Proofs.Ytgjkplkghoeeeaa
open Go.RowKit

theorem catS_pair (A B : ByteArray) : catS [A, B] = A.data.toList ++ B.data.toList := by simp [catS]
theorem turnB_even (h : Bool) (n : Nat) (e : n % 2 = 0) : turnB h n = h := by unfold turnB; rw [if_pos e]
theorem totS_even (A B : ByteArray) (hA : A.size % 2 = 0) : totS [A, B] = ws true A.data.toList + ws true B.data.toList := by
  unfold totS
  rw [catS_pair, ws_append, turnB_even _ _ (by rw [len_toList]; exact hA)]
theorem totS_swap (A B : ByteArray) (hA : A.size % 2 = 0) (hB : B.size % 2 = 0) : totS [B, A] = totS [A, B] := by
  rw [totS_even A B hA, totS_even B A hB, Int.add_comm]
theorem cut_toList (A : ByteArray) (n : Nat) : (A.extract 0 n).data.toList ++ (A.extract n A.size).data.toList = A.data.toList := by
  rw [ext_toList, ext_toList, List.drop_zero, Nat.sub_zero]
  rw [List.take_of_length_le (l := List.drop n A.data.toList) (by rw [List.length_drop, len_toList]; exact Nat.le_refl _)]
  exact List.take_append_drop n _
theorem totS_cut (A B : ByteArray) (n : Nat) : totS [A.extract 0 n, A.extract n A.size ++ B] = totS [A, B] := by
  unfold totS
  rw [catS_pair, catS_pair, app_toList, ← List.append_assoc, cut_toList]
theorem ofV_pair (A B : ByteArray) (h : A.size + B.size ≤ 65536) : ofV [A, B] = missV (totS [A, B]) ∧ codeL (ofB [A, B]) = 0 := by
  have e : ofB [A, B] = true := decide_eq_true ⟨by simp, by rw [catS_two]; exact h⟩
  unfold ofV
  rw [e]
  exact ⟨if_pos rfl, rfl⟩
theorem ofV_one (A : ByteArray) (h : A.size ≤ 65536) : ofV [A] = sumS A ∧ codeL (ofB [A]) = 0 := by
  have e : ofB [A] = true := decide_eq_true ⟨by simp, by rw [catS_one]; exact h⟩
  unfold ofV
  rw [e, if_pos rfl, totS_one]
  exact ⟨rfl, rfl⟩
theorem pair_sizes (A B : ByteArray) (h1 : A.size ≤ 140737488355328) (h2 : B.size ≤ 140737488355328) : ∀ s ∈ [A, B], s.size ≤ 140737488355328 := by
  intro s hs
  simp at hs
  rcases hs with rfl | rfl
  · exact h1
  · exact h2
end Go.Proofs.Ytgjkplkghoeeeaa
