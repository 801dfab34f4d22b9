/- the texts Plain, More, PlainB, PlainC, TxtNum, Seals, FactsG, in part, merged by program -/
import Derived.Test.YtkpdmgoldngdaaaGreatDoorRows
import Derived.WalkKit
import Derived.WalkSpells
import Derived.Deep.QuietTactic
import Derived.BigQuiet
import Derived.Deep.RegionWith
import Derived.LoopN
import Derived.RegionTactic
import Derived.Below
import Derived.Laws.Tables
import Derived.Great.BuildSlice
import Derived.Test.YtkpdmgoldngdaaaGreatDoorMA01
import Derived.Test.YtkpdmgoldngdaaaGreatDoorMD01
import Derived.Test.YtkpdmgoldngdaaaGreatDoorMG01
import Derived.Test.YtkpdmgoldngdaaaGreatDoorMH01
namespace Go.Proofs.YtkpdmgoldngdaaaGreatDoor
open Go.RowKit
set_option maxRecDepth 100000
theorem missV_bd (n : Int) : 0 ≤ missV n ∧ missV n ≤ 65535 := by
  have := foldV_bd n; unfold missV; omega

def putB (n k : Int) : Bool := decide (1 ≤ k ∧ k ≤ 6 ∧ 0 ≤ n ∧ n < 2 ^ (8 * k.toNat))
def putV (n k : Int) : ByteArray := if putB n k = true then txt n k.toNat else noS
theorem putB_t {n k : Int} (h : 1 ≤ k ∧ k ≤ 6 ∧ 0 ≤ n ∧ n < 2 ^ (8 * k.toNat)) : putB n k = true := decide_eq_true h
theorem putB_f {n k : Int} (h : ¬ (1 ≤ k ∧ k ≤ 6 ∧ 0 ≤ n ∧ n < 2 ^ (8 * k.toNat))) : putB n k = false := decide_eq_false h
theorem catS_two (a b : ByteArray) : (catS [a, b]).length = a.size + b.size := by simp [catS]
def headS (s : ByteArray) (o : Int) : ByteArray := s.extract 0 o.toNat
def tailS (s : ByteArray) (o : Int) : ByteArray := s.extract (o + 2).toNat s.size
def placeB (z : Nat) (o : Int) : Bool := decide (0 ≤ o ∧ o % 2 = 0 ∧ o ≤ (z : Int) - 2)
def sealC (s : ByteArray) (o : Int) : Int := if placeB s.size o = true then (if s.size ≤ 65536 then 0 else 2) else 1
def sealS (s : ByteArray) (o : Int) : ByteArray := headS s o ++ txt (missV (totS [headS s o, tailS s o])) 2 ++ tailS s o
def sealV (s : ByteArray) (o : Int) : ByteArray := if placeB s.size o = true then (if s.size ≤ 65536 then sealS s o else noS) else noS
theorem headS_size (s : ByteArray) (o : Int) (h0 : 0 ≤ o) (h1 : o ≤ (s.size : Int) - 2) : (headS s o).size = o.toNat := by
  unfold headS; rw [ByteArray.size_extract]; omega
theorem tailS_size (s : ByteArray) (o : Int) (h0 : 0 ≤ o) (h1 : o ≤ (s.size : Int) - 2) : (tailS s o).size = s.size - (o + 2).toNat := by
  unfold tailS; rw [ByteArray.size_extract]; omega
theorem app_toList (a b : ByteArray) : (a ++ b).data.toList = a.data.toList ++ b.data.toList := by rw [ByteArray.data_append, Array.toList_append]
theorem mid_head (A M B : ByteArray) : (A ++ M ++ B).extract 0 A.size = A := by
  apply ba_toList
  rw [ext_toList, app_toList, app_toList, List.drop_zero, Nat.sub_zero, List.append_assoc, ← len_toList A, List.take_left]
theorem mid_tail (A M B : ByteArray) (n : Nat) (h : n = A.size + M.size) : (A ++ M ++ B).extract n (A ++ M ++ B).size = B := by
  apply ba_toList
  rw [ext_toList, app_toList, app_toList]
  have e : n = (A.data.toList ++ M.data.toList).length := by rw [List.length_append, len_toList, len_toList]; exact h
  rw [e, List.drop_left, List.take_of_length_le]
  rw [len_toList, ByteArray.size_append, ByteArray.size_append, List.length_append, len_toList, len_toList]
  omega
end Go.Proofs.YtkpdmgoldngdaaaGreatDoor

namespace Go.Proofs.YtkpdmgoldngdaaaGreatDoor
open Go.RowKit
set_option maxRecDepth 100000
theorem six {k : Int} (h1 : 1 ≤ k) (h2 : k ≤ 6) : k = 1 ∨ k = 2 ∨ k = 3 ∨ k = 4 ∨ k = 5 ∨ k = 6 := by omega

theorem pput_any (n k : Int) (w : World) :
    Calls Tryz.prog 57 #[.int .i64 n, .int .i64 k] w fun e w' => e = .returned (.tuple #[.string (putV n k), .int .i64 (codeB (putB n k))]) ∧ Below w.heap.size w w' := by
  by_cases hk : 1 ≤ k ∧ k ≤ 6
  · have ho := outB_f hk
    obtain ⟨hk1, hk2⟩ := hk
    by_cases h0 : n < 0
    · have hp : putB n k = false := putB_f (by omega)
      unfold putV; rw [hp, if_neg (by simp)]
      clear hp
      have ho2 := fun b => outB_t (n := n) (a := 0) (b := b) (Or.inl h0)
      obtain rfl | rfl | rfl | rfl | rfl | rfl := six hk1 hk2
      all_goals
        go_enter Tryz.func57, Tryz.ntmps57
        go_wp2_with (first | (go_at_call 101; refine (out_any _ _ _ _).mono ?_; rintro e w' ⟨rfl, rfl⟩))
        go_ret2
        exact ⟨rfl, Below.refl _ _⟩
    · by_cases hn : n < 2 ^ (8 * k.toNat)
      · have hp := putB_t ⟨hk1, hk2, by omega, hn⟩
        unfold putV; rw [hp, if_pos rfl]
        clear hp
        obtain rfl | rfl | rfl | rfl | rfl | rfl := six hk1 hk2
        all_goals
          simp at hn
          first
            | have ho2 : outB n 0 255 = false := outB_f ⟨by omega, by omega⟩
            | have ho2 : outB n 0 65535 = false := outB_f ⟨by omega, by omega⟩
            | have ho2 : outB n 0 16777215 = false := outB_f ⟨by omega, by omega⟩
            | have ho2 : outB n 0 4294967295 = false := outB_f ⟨by omega, by omega⟩
            | have ho2 : outB n 0 1099511627775 = false := outB_f ⟨by omega, by omega⟩
            | have ho2 : outB n 0 281474976710655 = false := outB_f ⟨by omega, by omega⟩
          go_enter Tryz.func57, Tryz.ntmps57
          go_wp2_with (first | (go_at_call 101; refine (out_any _ _ _ _).mono ?_; rintro e w' ⟨rfl, rfl⟩) | (go_at_call 91; refine (put_any _ _ _ (by decide) (by decide)).mono ?_; rintro e w' ⟨rfl, hb⟩))
          go_ret2
          exact ⟨rfl, hb⟩
      · have hp : putB n k = false := putB_f (fun h => hn h.2.2.2)
        unfold putV; rw [hp, if_neg (by simp)]
        clear hp
        obtain rfl | rfl | rfl | rfl | rfl | rfl := six hk1 hk2
        all_goals
          simp at hn
          first
            | have ho2 : outB n 0 281474976710655 = true := outB_t (by omega)
            | have ho2 : outB n 0 1099511627775 = true := outB_t (by omega)
            | have ho2 : outB n 0 4294967295 = true := outB_t (by omega)
            | have ho2 : outB n 0 16777215 = true := outB_t (by omega)
            | have ho2 : outB n 0 65535 = true := outB_t (by omega)
            | have ho2 : outB n 0 255 = true := outB_t (by omega)
          go_enter Tryz.func57, Tryz.ntmps57
          go_wp2_with (first | (go_at_call 101; refine (out_any _ _ _ _).mono ?_; rintro e w' ⟨rfl, rfl⟩))
          go_ret2
          exact ⟨rfl, Below.refl _ _⟩
  · have ho : outB k 1 6 = true := outB_t (by omega)
    have hp : putB n k = false := putB_f (by omega)
    unfold putV; rw [hp, if_neg (by simp)]
    clear hp
    go_enter Tryz.func57, Tryz.ntmps57
    go_wp2_with (first | (go_at_call 101; refine (out_any _ _ _ _).mono ?_; rintro e w' ⟨rfl, rfl⟩))
    go_ret2
    exact ⟨rfl, Below.refl _ _⟩

end Go.Proofs.YtkpdmgoldngdaaaGreatDoor

namespace Go.Proofs.YtkpdmgoldngdaaaGreatDoor
open Go.RowKit
set_option maxRecDepth 100000

theorem catS_pair (A B : ByteArray) : catS [A, B] = A.data.toList ++ B.data.toList := by simp [catS]
theorem turnB_even (h : Bool) (n : Nat) (e : n % 2 = 0) : turnB h n = h := by unfold turnB; rw [if_pos e]
theorem totS_even (A B : ByteArray) (hA : A.size % 2 = 0) : totS [A, B] = ws true A.data.toList + ws true B.data.toList := by
  unfold totS
  rw [catS_pair, ws_append, turnB_even _ _ (by rw [len_toList]; exact hA)]
end Go.Proofs.YtkpdmgoldngdaaaGreatDoor

namespace Go.Proofs.YtkpdmgoldngdaaaGreatDoor
open Go.RowKit
set_option maxRecDepth 100000

theorem foldV_fill (x : Int) (h : 0 ≤ x) : foldV (x + (65535 - foldV x)) = 65535 := by
  unfold foldV
  by_cases e : x = 0
  · simp [e]
  · rw [if_neg e, if_neg (by omega)]
    omega
theorem txtL_two (c : Int) : txtL c 2 = [byteAt c 1, byteAt c 0] := by simp [txtL, List.range_succ]
theorem ws_txt (c : Int) (h0 : 0 ≤ c) (h1 : c ≤ 65535) : ws true (txtL c 2) = c := by
  rw [txtL_two]
  simp only [ws]
  have e1 := byteAt_toNat c 1
  have e0 := byteAt_toNat c 0
  simp at e1 e0
  simp [e1, e0]
  omega
theorem ws_mid (A B : ByteArray) (c : Int) (hA : A.size % 2 = 0) (h0 : 0 ≤ c) (h1 : c ≤ 65535) : ws true (A ++ txt c 2 ++ B).data.toList = totS [A, B] + c := by
  rw [app_toList, app_toList, txt_toList, List.append_assoc, ws_append, turnB_even _ _ (by rw [len_toList]; exact hA), ws_append, ws_txt c h0 h1, turnB_even _ _ (by rw [txtL_len]), totS_even A B hA]
  omega
theorem totS_nonneg (ss : List ByteArray) : 0 ≤ totS ss := (ws_bd true (catS ss)).1
theorem sum_sealS (s : ByteArray) (o : Int) (h0 : 0 ≤ o) (h1 : o ≤ (s.size : Int) - 2) (h2 : o % 2 = 0) : foldV (ws true (sealS s o).data.toList) = 65535 := by
  unfold sealS
  have hb := missV_bd (totS [headS s o, tailS s o])
  rw [ws_mid _ _ _ (by rw [headS_size s o h0 h1]; omega) hb.1 hb.2]
  exact foldV_fill _ (totS_nonneg _)
theorem sealS_size (s : ByteArray) (o : Int) (h0 : 0 ≤ o) (h1 : o ≤ (s.size : Int) - 2) : (sealS s o).size = s.size := by
  unfold sealS
  rw [ByteArray.size_append, ByteArray.size_append, headS_size s o h0 h1, tailS_size s o h0 h1, txt_size]
  omega
end Go.Proofs.YtkpdmgoldngdaaaGreatDoor

namespace Go.Proofs.YtkpdmgoldngdaaaGreatDoor
open Go.RowKit
set_option maxRecDepth 100000

theorem byteAt_succ (n : Int) (j : Nat) : byteAt n (j + 1) = byteAt (n / 256) j := by
  unfold byteAt
  rw [show 8 * (j + 1) = 8 + 8 * j by omega, Int.pow_add, ← Int.ediv_ediv_of_nonneg (by decide)]
  rfl
theorem txtL_succ (n : Int) (k : Nat) : txtL n (k + 1) = txtL (n / 256) k ++ [byteAt n 0] := by
  unfold txtL
  rw [List.range_succ, List.map_append]
  congr 1
  · apply List.map_congr_left
    intro i hi
    have := List.mem_range.1 hi
    rw [show k + 1 - 1 - i = (k - 1 - i) + 1 by omega, byteAt_succ]
  · simp
theorem numL_txtL (k : Nat) : ∀ n : Int, numL (txtL n k) = n % 256 ^ k := by
  induction k with
  | zero => intro n; simp [txtL, numL]
  | succ k ih =>
    intro n
    rw [txtL_succ, numL_snoc, ih, byteAt_toNat]
    have hm : (0 : Int) < 256 ^ k := Int.pow_pos (by decide)
    rw [Int.pow_succ]
    generalize (256 : Int) ^ k = m at hm
    simp only [Nat.mul_zero, Int.pow_zero, Int.ediv_one]
    have e1 := Int.emod_add_mul_ediv (n / 256) m
    have b0 := Int.emod_nonneg (n / 256) (by omega : m ≠ 0)
    have b1 := Int.emod_lt_of_pos (n / 256) hm
    generalize n / 256 % m = r at e1 b0 b1 ⊢
    generalize n / 256 / m = q at e1
    have e2 : n = (r * 256 + n % 256) + (m * 256) * q := by
      rw [Int.mul_assoc, Int.mul_comm 256 q, ← Int.mul_assoc]
      omega
    have e3 : (r * 256 + n % 256) % (m * 256) = r * 256 + n % 256 := Int.emod_eq_of_lt (by omega) (by omega)
    have e4 : n % (m * 256) = ((r * 256 + n % 256) + (m * 256) * q) % (m * 256) := by rw [← e2]
    rw [e4, Int.add_mul_emod_self_left, e3]
theorem num_txt (n : Int) (k : Nat) (h0 : 0 ≤ n) (h1 : n < 256 ^ k) : numL (txtL n k) = n := by
  rw [numL_txtL, Int.emod_eq_of_lt h0 h1]
theorem app_nil (a : ByteArray) : a ++ (⟨#[]⟩ : ByteArray) = a := by apply ba_toList; rw [app_toList]; simp
theorem num_at (s : ByteArray) (pre post : List UInt8) (n : Int) (k a b : Nat) (hs : s.data.toList = pre ++ (txtL n k ++ post)) (ha : pre.length = a) (hb : b = a + k) (h0 : 0 ≤ n) (h1 : n < 256 ^ k) : numS (s.extract a b) = n := by
  unfold numS
  rw [ext_toList, hs, List.drop_left' ha, List.take_left' (by rw [txtL_len]; omega)]
  exact num_txt n k h0 h1
end Go.Proofs.YtkpdmgoldngdaaaGreatDoor

namespace Go.Proofs.YtkpdmgoldngdaaaGreatDoor
open Go.RowKit
set_option maxRecDepth 100000

theorem below_drewN' {B : Nat} {a w : World} (h : Below B a w) (n : Nat) : Below B a (w.drewN n) := h.trans ⟨rfl, rfl, rfl, Nat.le_refl _, fun _ _ => rfl⟩

theorem cells_two (W : World) (A B : ByteArray) : ∀ j, j < [A, B].length → (W.alloc (.cells #[.string A, .string B] 9)).cell? ⟨W.heap.size, 0 + j, none⟩ = some (.string ([A, B].getD j ByteArray.empty)) := by
  intro j hj
  simp at hj
  obtain rfl | rfl : j = 0 ∨ j = 1 := by omega
  · simp
  · simp

theorem seal_ok (s : ByteArray) (off : Int) (w : World) (hs : s.size ≤ 65536) (h0 : 0 ≤ off) (h1 : off ≤ (s.size : Int) - 2) (h2 : off % 2 = 0) :
    Calls Tryz.prog 49 #[.string s, .int .i64 off] w fun e w' => e = .returned (.tuple #[.string (sealS s off), .int .i64 0]) ∧ Below w.heap.size w w' := by
  have hl : liesB s.size off 2 = true := decide_eq_true ⟨h0, h1⟩
  have hm : (off % 2 != 0) = false := by simp [h2]
  have hz1 := headS_size s off h0 h1
  have hz2 := tailS_size s off h0 h1
  unfold sealS
  go_enter Tryz.func49, Tryz.ntmps49
  go_wp2_with (first | (go_at_call 90; refine (lies_any _ _ _ _ (by unfold maxLen; omega) (by omega) (by omega)).mono ?_; rintro e w' ⟨rfl, rfl⟩))
  go_quiet (fail)
  go_wp2_with fail
  have eA : s.extract 0 off.toNat = headS s off := rfl
  have eB : s.extract (off + 2).toNat s.size = tailS s off := rfl
  rw [eA, eB]
  clear eA eB
  have hA : (headS s off).size ≤ 65536 := by omega
  have hB : (tailS s off).size ≤ 65536 := by omega
  clear hz1 hz2
  generalize eA : headS s off = A at *
  generalize eB : tailS s off = B at *
  have HA : Hid (headS s off = A) := eA
  have HB : Hid (tailS s off = B) := eB
  clear eA eB
  have hcat : (catS [A, B]).length ≤ 140737488355328 := by rw [catS_two]; omega
  have hb := totS_bd [A, B] hcat
  have hz := txt_size (missV (totS [A, B])) 2
  refine (total_list w'.heap.size 0 2 [A, B] _ (by simp) (cells_two (w'.drewN nq) A B) hcat).mono ?_
  rintro e W1 ⟨rfl, rfl⟩
  go_wp2_with fail
  refine (missing_any _ _ hb.1 hb.2).mono ?_
  rintro e W1 ⟨rfl, rfl⟩
  go_wp2_with fail
  refine (put_any _ 2 _ (by decide) (by decide)).mono ?_
  rintro e W1 ⟨rfl, b1⟩
  go_wp2
  go_ret2
  exact ⟨by rw [HA.out, HB.out]; rfl, bt ((below_drewN' (Below.refl _ _) _).alloc (Nat.le_refl _) _) b1⟩

theorem place_t {z : Nat} {o : Int} (h : 0 ≤ o ∧ o % 2 = 0 ∧ o ≤ (z : Int) - 2) : placeB z o = true := decide_eq_true h
theorem place_f {z : Nat} {o : Int} (h : ¬ (0 ≤ o ∧ o % 2 = 0 ∧ o ≤ (z : Int) - 2)) : placeB z o = false := decide_eq_false h

theorem seal_any (s : ByteArray) (off : Int) (w : World) (hs : s.size ≤ maxLen) :
    Calls Tryz.prog 49 #[.string s, .int .i64 off] w fun e w' => e = .returned (.tuple #[.string (sealV s off), .int .i64 (sealC s off)]) ∧ Below w.heap.size w w' := by
  have hsm := hs
  unfold maxLen at hs
  unfold sealV sealC
  by_cases h0 : 0 ≤ off
  · by_cases h2 : off % 2 = 0
    · by_cases h1 : off ≤ (s.size : Int) - 2
      · rw [place_t ⟨h0, h2, h1⟩, if_pos rfl, if_pos rfl]
        by_cases hz : s.size ≤ 65536
        · rw [if_pos hz, if_pos hz]
          exact seal_ok s off w hz h0 h1 h2
        · rw [if_neg hz, if_neg hz]
          have hl : liesB s.size off 2 = true := decide_eq_true ⟨h0, h1⟩
          have hm : (off % 2 != 0) = false := by simp [h2]
          go_enter Tryz.func49, Tryz.ntmps49
          go_wp2_with (first | (go_at_call 90; refine (lies_any _ _ _ _ hsm (by omega) (by omega)).mono ?_; rintro e w' ⟨rfl, rfl⟩))
          go_ret2
          exact ⟨rfl, Below.refl _ _⟩
      · rw [place_f (by omega), if_neg (by simp), if_neg (by simp)]
        have hl : liesB s.size off 2 = false := decide_eq_false (by omega)
        have hm : (off % 2 != 0) = false := by simp [h2]
        go_enter Tryz.func49, Tryz.ntmps49
        go_wp2_with (first | (go_at_call 90; refine (lies_any _ _ _ _ hsm (by omega) (by omega)).mono ?_; rintro e w' ⟨rfl, rfl⟩))
        go_ret2
        exact ⟨rfl, Below.refl _ _⟩
    · rw [place_f (by omega), if_neg (by simp), if_neg (by simp)]
      have hm : (off % 2 != 0) = true := by simp; omega
      go_enter Tryz.func49, Tryz.ntmps49
      go_wp2_with (first | (go_at_call 90; refine (lies_any _ _ _ _ hsm (by omega) (by omega)).mono ?_; rintro e w' ⟨rfl, rfl⟩))
      go_ret2
      exact ⟨rfl, Below.refl _ _⟩
  · rw [place_f (by omega), if_neg (by simp), if_neg (by simp)]
    have hl : liesB s.size off 2 = false := decide_eq_false (by omega)
    cases hm : (off.tmod 2 != 0)
    all_goals
      go_enter Tryz.func49, Tryz.ntmps49
      go_wp2_with (first | (go_at_call 90; refine (lies_any _ _ _ _ hsm (by omega) (by omega)).mono ?_; rintro e w' ⟨rfl, rfl⟩))
      go_ret2
      exact ⟨rfl, Below.refl _ _⟩

end Go.Proofs.YtkpdmgoldngdaaaGreatDoor

namespace Go.Proofs.YtkpdmgoldngdaaaGreatDoor
open Go.RowKit
set_option maxRecDepth 100000
set_option linter.unusedVariables false

structure InvW (ops : Array Oper) (vals : Nat → Value) (W0 W1 : World) (s : Nat) (a0 : Act) (n : Nat) (l : Array Bool) (a : Act) (w : World) : Prop where
  size : l.size = ops.size
  tsize : a.tmps.size = n
  defers : a.defers = a0.defers
  world : w = if l.getD s false = true then W1 else W0
  base : ∀ k, slotFreeB ops k = true → a.tmps.getD k undef = a0.tmps.getD k undef
  facts : ∀ (i : Nat) (o : Oper) (d : Nat), ops[i]? = some o → o.dst = some d → l.getD i false = true → a.tmps.getD d undef = vals i
def StepW (P : Program) (md : Region.Mode) (ops : Array Oper) (Q : Exit → Act → World → Prop) (vals : Nat → Value) (W0 W1 : World) (s : Nat) (a0 : Act) (n : Nat) (i : Nat) (o : Oper) : Prop :=
  ∀ (a : Act) (w : World), ((w = W0 ∨ w = W1) ∧ (i = s → w = W0)) → a.tmps.size = n → (∀ k, slotFreeB ops k = true → a.tmps.getD k undef = a0.tmps.getD k undef) →
    (∀ e ∈ o.after, Region.binds md e = true → ∀ oe d, ops[e.on]? = some oe → oe.dst = some d → a.tmps.getD d undef = vals e.on) →
    ∀ K : Act → World → Prop, (∀ v w', w' = (if i = s then W1 else w) → True → v = vals i → K (a.put o.dst v) w') → if Region.wanted o (yielded ops a.tmps) = true then Oper.wp P o a w K Q else K (a.put o.dst undef) w
def StepsW (P : Program) (md : Region.Mode) (ops : Array Oper) (Q : Exit → Act → World → Prop) (vals : Nat → Value) (W0 W1 : World) (s : Nat) (a0 : Act) (n : Nat) : List Oper → Nat → Prop
  | [], _ => True
  | o :: r, k => StepW P md ops Q vals W0 W1 s a0 n k o ∧ StepsW P md ops Q vals W0 W1 s a0 n r (k + 1)
theorem stepsW_at {P : Program} {md : Region.Mode} {ops : Array Oper} {Q : Exit → Act → World → Prop} {vals : Nat → Value} {W0 W1 : World} {s : Nat} {a0 : Act} {n : Nat} : ∀ (l : List Oper) (k : Nat), StepsW P md ops Q vals W0 W1 s a0 n l k → ∀ (i : Nat) (o : Oper), l[i]? = some o → StepW P md ops Q vals W0 W1 s a0 n (k + i) o
  | [], _, _, i, o, h => by simp at h
  | x :: l, k, hs, 0, o, h => by
    simp only [List.getElem?_cons_zero, Option.some.injEq] at h
    subst h; exact hs.1
  | x :: l, k, hs, i + 1, o, h => by
    have := stepsW_at l (k + 1) hs.2 i o (by simpa using h)
    rw [show k + (i + 1) = k + 1 + i by omega]; exact this
theorem region_store {P : Program} {md : Region.Mode} {ops : Array Oper} {Q : Exit → Act → World → Prop} (vals : Nat → Value) (W0 W1 : World) (s : Nat) {a0 : Act} {n fuel : Nat} (hs : s < ops.size) (hord : orderlyB md ops = true) (hn : a0.tmps.size = n)
    (hdb : dstB ops n = true)
    (hops : StepsW P md ops Q vals W0 W1 s a0 n ops.toList 0)
    (hend : ∀ a, a.tmps.size = n → a.defers = a0.defers → (∀ k, slotFreeB ops k = true → a.tmps.getD k undef = a0.tmps.getD k undef) → (∀ (i : Nat) (o : Oper) (d : Nat), ops[i]? = some o → o.dst = some d → a.tmps.getD d undef = vals i) → Q .normal a W1)
    (hf : ops.size ≤ fuel) : wpAny P md ops Q fuel (Array.replicate ops.size false) a0 W0 := by
  refine wpAny_inv (I := InvW ops vals W0 W1 s a0 n) ?_ ?_ fuel _ a0 W0 ?_ ?_
  · intro l a w i hI hi
    obtain ⟨hun, o, ho, hall⟩ := mem_ready.1 hi
    have hil : i < l.size := by rw [hI.size]; exact (Array.getElem?_eq_some_iff.1 ho).1
    refine wpOp_step ho fun K' hK => ?_
    have hop := stepsW_at ops.toList 0 hops i o (by simpa using ho)
    rw [Nat.zero_add] at hop
    have hwi : i = s → w = W0 := by
      intro e
      rw [hI.world, if_neg]
      rw [← e]
      rw [Array.getD_eq_getD_getElem?, Array.getElem?_eq_getElem hil] at hun ⊢
      simp at hun ⊢
      exact hun
    refine hop a w ⟨?_, hwi⟩ hI.tsize hI.base ?_ K' ?_
    · rw [hI.world]
      split
      · exact .inr rfl
      · exact .inl rfl
    · intro e he hb oe d hoe hd
      exact hI.facts e.on oe d hoe hd (hall e he hb)
    · intro v w' hw' _ hg
      apply hK
      have hput : (a.put o.dst v).tmps.size = n ∧ (a.put o.dst v).defers = a.defers := by
        cases o.dst <;> simp [Act.put, hI.tsize]
      refine ⟨by simp [hI.size], hput.1, hput.2.trans hI.defers, ?_, ?_, ?_⟩
      · rw [hw']
        by_cases e : i = s
        · subst e
          rw [if_pos rfl, if_pos]
          rw [Array.getD_eq_getD_getElem?]
          simp [hil]
        · rw [if_neg e, hI.world]
          rw [Array.getD_eq_getD_getElem?, Array.getD_eq_getD_getElem?, Array.getElem?_setIfInBounds_ne e]
      · intro k hk
        cases hd : o.dst with
        | none => exact hI.base k hk
        | some d =>
          have : d ≠ k := fun e => slotFree_spec hk i o ho (by rw [hd, e])
          rw [put_other this]
          exact hI.base k hk
      · intro j oj d hoj hd hl
        by_cases hji : j = i
        · subst hji
          obtain rfl : o = oj := Option.some.inj (ho.symm.trans hoj)
          rw [hd, put_self (by rw [hI.tsize]; exact dst_spec hdb j o d ho hd)]
          exact hg
        · have hl' : l.getD j false = true := by
            rw [Array.getD_eq_getD_getElem?, Array.getElem?_setIfInBounds_ne (Ne.symm hji), ← Array.getD_eq_getD_getElem?] at hl
            exact hl
          have old := hI.facts j oj d hoj hd hl'
          cases hdo : o.dst with
          | none => exact old
          | some d' =>
            have : d' ≠ d := fun e => orderly_dst hord j i oj o d hoj ho hd (Ne.symm hji) (by rw [hdo, e])
            rw [put_other this]
            exact old
  · intro l a w hI hr
    have hall := all_listed hord hI.size hr
    have hw : w = W1 := by rw [hI.world, if_pos (hall s hs)]
    subst hw
    exact hend a hI.tsize hI.defers hI.base fun i o d ho hd => hI.facts i o d ho hd (hall i (Array.getElem?_eq_some_iff.1 ho).1)
  · simp; omega
  · refine ⟨by simp, hn, rfl, ?_, fun _ _ => rfl, ?_⟩
    · rw [if_neg]
      rw [Array.getD_eq_getD_getElem?]
      simp [hs]
    · intro i o d ho hd hl
      rw [Array.getD_eq_getD_getElem?] at hl
      by_cases hi : i < ops.size
      · simp [hi] at hl
      · simp [hi] at hl
end Go.Proofs.YtkpdmgoldngdaaaGreatDoor
