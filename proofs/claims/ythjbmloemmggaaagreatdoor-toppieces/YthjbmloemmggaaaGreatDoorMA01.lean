/- the texts Plain, Calls, Text, More, Sums, Turns, Seals, PlainB, PlainC, TxtNum, SeqCalls, Facts, in part, merged by program -/
import Derived.Test.YthjbmloemmggaaaGreatDoorRows
import Derived.WalkKit
import Derived.WalkSpells
import Derived.LoopN
import Derived.Deep.QuietTactic
import Derived.BigQuiet
import Derived.Deep.RegionWith
import Derived.RegionTactic
import Derived.Below
namespace Go.Proofs.YthjbmloemmggaaaGreatDoor
open Go.RowKit
set_option maxRecDepth 100000
def foldV (n : Int) : Int := if n = 0 then 0 else (n - 1) % 65535 + 1

theorem foldV_small (n : Int) (h0 : 0 ≤ n) (h1 : n ≤ 65535) : foldV n = n := by
  unfold foldV; split <;> omega

theorem foldV_step (n : Int) (h : 65535 < n) : foldV (n / 65536 + n % 65536) = foldV n := by
  unfold foldV
  rw [if_neg (by omega), if_neg (by omega)]
  omega

theorem foldV_bd (n : Int) : 0 ≤ foldV n ∧ foldV n ≤ 65535 := by
  unfold foldV; split <;> omega

def missV (n : Int) : Int := 65535 - foldV n
theorem missV_bd (n : Int) : 0 ≤ missV n ∧ missV n ≤ 65535 := by
  have := foldV_bd n; unfold missV; omega

def ws : Bool → List UInt8 → Int
  | _, [] => 0
  | h, b :: l => (if h = true then 256 * (b.toNat : Int) else (b.toNat : Int)) + ws (!h) l

def turnB (h : Bool) (n : Nat) : Bool := if n % 2 = 0 then h else !h

theorem turnB_succ (h : Bool) (n : Nat) : turnB h (n + 1) = turnB (!h) n := by
  unfold turnB; by_cases e : n % 2 = 0
  · rw [if_neg (by omega), if_pos e]
  · rw [if_pos (by omega), if_neg e]; simp

theorem ws_append (h : Bool) (a b : List UInt8) : ws h (a ++ b) = ws h a + ws (turnB h a.length) b := by
  induction a generalizing h with
  | nil => simp [ws, turnB]
  | cons x a ih => simp only [List.cons_append, ws, List.length_cons, ih, turnB_succ, Int.add_assoc]

theorem ws_snoc (h : Bool) (a : List UInt8) (x : UInt8) : ws h (a ++ [x]) = ws h a + (if turnB h a.length = true then 256 * (x.toNat : Int) else (x.toNat : Int)) := by
  rw [ws_append]; simp [ws]

theorem ws_bd (h : Bool) (a : List UInt8) : 0 ≤ ws h a ∧ ws h a ≤ 65280 * a.length := by
  induction a generalizing h with
  | nil => simp [ws]
  | cons x a ih =>
    have := ih (!h)
    have hx : x.toNat < 256 := x.toNat_lt
    simp only [ws, List.length_cons]
    cases h <;> simp at this ⊢ <;> omega

def catS (ss : List ByteArray) : List UInt8 := ss.flatMap fun s => s.data.toList
theorem catS_snoc (ss : List ByteArray) (s : ByteArray) : catS (ss ++ [s]) = catS ss ++ s.data.toList := by simp [catS]
theorem take_snoc (s : ByteArray) (k : Nat) (h : k < s.size) : s.data.toList.take (k + 1) = s.data.toList.take k ++ [s[k]] := by
  rw [List.take_succ_eq_append_getElem (by simpa using h)]; rfl
theorem take_snocS (ss : List ByteArray) (k : Nat) (h : k < ss.length) : ss.take (k + 1) = ss.take k ++ [ss.getD k ByteArray.empty] := by
  rw [List.take_succ_eq_append_getElem h]; simp [List.getD, List.getElem?_eq_getElem h]

theorem catS_append (a b : List ByteArray) : catS (a ++ b) = catS a ++ catS b := by simp [catS]
theorem cat_step (ss : List ByteArray) (k len : Nat) (hk : k < len) (hl : len ≤ ss.length) :
    (catS (ss.take k)).length + (ss.getD k ByteArray.empty).size ≤ (catS (ss.take len)).length := by
  have e : ss.take len = ss.take (k + 1) ++ (ss.take len).drop (k + 1) := by
    have h := List.take_append_drop (k + 1) (ss.take len)
    rw [List.take_take, Nat.min_eq_left (by omega)] at h
    exact h.symm
  rw [e, catS_append, take_snocS ss k (by omega), catS_snoc, List.length_append, List.length_append]
  show _ + _ ≤ _ + (ss.getD k ByteArray.empty).data.size + _
  have : (ss.getD k ByteArray.empty).size = (ss.getD k ByteArray.empty).data.size := rfl
  omega
def shV (n : Nat) : Int := if n % 2 = 0 then 8 else 0
def upto (ss : List ByteArray) (k : Nat) (p : ByteArray) (j : Nat) : List UInt8 := catS (ss.take k) ++ p.data.toList.take j
theorem upto_len (ss : List ByteArray) (k : Nat) (p : ByteArray) (j : Nat) (hj : j ≤ p.size) : (upto ss k p j).length = (catS (ss.take k)).length + j := by
  unfold upto
  rw [List.length_append, List.length_take, Nat.min_eq_left (by simpa using hj)]
theorem upto_succ (ss : List ByteArray) (k : Nat) (p : ByteArray) (j : Nat) (hj : j < p.size) : upto ss k p (j + 1) = upto ss k p j ++ [p[j]] := by
  unfold upto
  rw [take_snoc p j hj, List.append_assoc]
theorem upto_zero (ss : List ByteArray) (k : Nat) (p : ByteArray) : upto ss k p 0 = catS (ss.take k) := by simp [upto]
theorem take_all (p : ByteArray) : p.data.toList.take p.size = p.data.toList := List.take_of_length_le (Nat.le_refl _)
theorem upto_all (ss : List ByteArray) (k : Nat) (h : k < ss.length) : upto ss k (ss.getD k ByteArray.empty) (ss.getD k ByteArray.empty).size = catS (ss.take (k + 1)) := by
  unfold upto
  rw [take_all, take_snocS ss k h, catS_snoc]
theorem shV_cases (n : Nat) : (shV n = 8 ∧ shV (n + 1) = 0 ∧ turnB true n = true) ∨ (shV n = 0 ∧ shV (n + 1) = 8 ∧ turnB true n = false) := by
  unfold shV turnB
  by_cases h : n % 2 = 0
  · left; rw [if_pos h, if_neg (by omega), if_pos h]; exact ⟨rfl, rfl, rfl⟩
  · right; rw [if_neg h, if_pos (by omega), if_neg h]; exact ⟨rfl, rfl, rfl⟩

def byteAt (n : Int) (j : Nat) : UInt8 := UInt8.ofNat ((n / 2 ^ (8 * j)) % 256).toNat
def txtL (n : Int) (k : Nat) : List UInt8 := (List.range k).map fun i => byteAt n (k - 1 - i)
def txt (n : Int) (k : Nat) : ByteArray := ⟨(txtL n k).toArray⟩
theorem txtL_len (n : Int) (k : Nat) : (txtL n k).length = k := by simp [txtL]
theorem txt_size (n : Int) (k : Nat) : (txt n k).size = k := by simp [txt, ByteArray.size, txtL_len]

theorem byteAt_toNat (n : Int) (j : Nat) : ((byteAt n j).toNat : Int) = n / 2 ^ (8 * j) % 256 := by
  unfold byteAt
  have h0 : 0 ≤ n / 2 ^ (8 * j) % 256 := by omega
  have h1 : n / 2 ^ (8 * j) % 256 < 256 := by omega
  generalize n / 2 ^ (8 * j) % 256 = x at *
  have : (UInt8.ofNat x.toNat).toNat = x.toNat % 256 := by simp
  rw [this]
  omega
def cellB (b : UInt8) : Value := .int .u8 (b.toNat : Int)
def cellsAt (n : Int) (k j : Nat) : List Value := ((txtL n k).take j).map cellB ++ List.replicate (k - j) (.int .u8 0)
theorem cellsAt_zero (n : Int) (k : Nat) : cellsAt n k 0 = List.replicate k (.int .u8 0) := by simp [cellsAt]
theorem take_len' (n : Int) (k j : Nat) (h : j ≤ k) : (((txtL n k).take j).map cellB).length = j := by
  rw [List.length_map, List.length_take, txtL_len]; exact Nat.min_eq_left h
theorem cellsAt_at (n : Int) (k j : Nat) (h : j < k) : (cellsAt n k j)[j]? = some (.int .u8 0) := by
  unfold cellsAt
  rw [List.getElem?_append_right (by rw [take_len' n k j (by omega)]; exact Nat.le_refl _), take_len' n k j (by omega), Nat.sub_self, List.getElem?_replicate, if_pos (by omega)]
theorem txtL_at (n : Int) (k j : Nat) (h : j < k) : (txtL n k)[j]? = some (byteAt n (k - 1 - j)) := by
  unfold txtL
  rw [List.getElem?_map, List.getElem?_range h]; rfl
theorem txtL_take_succ (n : Int) (k j : Nat) (h : j < k) : (txtL n k).take (j + 1) = (txtL n k).take j ++ [byteAt n (k - 1 - j)] := by
  have hl : j < (txtL n k).length := by rw [txtL_len]; exact h
  rw [List.take_succ_eq_append_getElem hl]
  have := txtL_at n k j h
  rw [List.getElem?_eq_getElem hl] at this
  rw [Option.some.inj this]
theorem cellsAt_set (n : Int) (k j : Nat) (h : j < k) : (cellsAt n k j).set j (.int .u8 (n / 2 ^ (8 * (k - 1 - j)) % 256)) = cellsAt n k (j + 1) := by
  unfold cellsAt
  rw [List.set_append_right _ _ (by rw [take_len' n k j (by omega)]; exact Nat.le_refl _), take_len' n k j (by omega), Nat.sub_self, txtL_take_succ n k j h, List.map_append, List.append_assoc]
  have e : k - j = (k - (j + 1)) + 1 := by omega
  rw [e, List.replicate_succ, List.set_cons_zero]
  simp [cellB, byteAt_toNat]
theorem cellsAt_full (n : Int) (k : Nat) : cellsAt n k k = (txtL n k).map cellB := by
  unfold cellsAt
  rw [List.take_of_length_le (by rw [txtL_len]; exact Nat.le_refl _)]; simp
theorem map_cellB_at (l : List UInt8) (j : Nat) (h : j < l.length) : (l.map cellB)[j]? = some (.int .u8 (l[j].toNat : Int)) := by
  rw [List.getElem?_map, List.getElem?_eq_getElem h]; rfl

def numL (l : List UInt8) : Int := l.foldl (fun n b => n * 256 + (b.toNat : Int)) 0
theorem numL_snoc (l : List UInt8) (b : UInt8) : numL (l ++ [b]) = numL l * 256 + b.toNat := by simp [numL]
theorem numF_bd (l : List UInt8) (n : Int) (k : Nat) (h0 : 0 ≤ n) (h1 : n < 256 ^ k) :
    0 ≤ l.foldl (fun n b => n * 256 + (b.toNat : Int)) n ∧ l.foldl (fun n b => n * 256 + (b.toNat : Int)) n < 256 ^ (k + l.length) := by
  induction l generalizing n k with
  | nil => exact ⟨h0, h1⟩
  | cons b l ih =>
    have hb : b.toNat < 256 := b.toNat_lt
    have hp : (256 : Int) ^ (k + 1) = 256 ^ k * 256 := Int.pow_succ _ _
    have := ih (n * 256 + b.toNat) (k + 1) (by omega) (by rw [hp]; omega)
    rw [List.foldl_cons, List.length_cons, show k + (l.length + 1) = k + 1 + l.length by omega]
    exact this
theorem numL_bd (l : List UInt8) : 0 ≤ numL l ∧ numL l < 256 ^ l.length := by
  have := numF_bd l 0 0 (by omega) (by simp)
  rw [Nat.zero_add] at this; exact this

def numS (s : ByteArray) : Int := numL s.data.toList
def sumS (s : ByteArray) : Int := missV (ws true s.data.toList)
def totS (ss : List ByteArray) : Int := ws true (catS ss)
def outB (n a b : Int) : Bool := decide (n < a ∨ b < n)
def liesB (z : Nat) (off k : Int) : Bool := decide (0 ≤ off ∧ off ≤ (z : Int) - k)
def codeB (b : Bool) : Int := if b = true then 0 else 1
def noS : ByteArray := ⟨#[]⟩
def putB (n k : Int) : Bool := decide (1 ≤ k ∧ k ≤ 6 ∧ 0 ≤ n ∧ n < 2 ^ (8 * k.toNat))
def putV (n k : Int) : ByteArray := if putB n k = true then txt n k.toNat else noS
def getB (z : Nat) (off k : Int) : Bool := decide (1 ≤ k ∧ k ≤ 6 ∧ 0 ≤ off ∧ off ≤ (z : Int) - k)
def getV (s : ByteArray) (off k : Int) : Int := if getB s.size off k = true then numS (s.extract off.toNat (off + k).toNat) else 0
theorem outB_t {n a b : Int} (h : n < a ∨ b < n) : outB n a b = true := decide_eq_true h
theorem outB_f {n a b : Int} (h : a ≤ n ∧ n ≤ b) : outB n a b = false := decide_eq_false (by omega)
theorem putB_t {n k : Int} (h : 1 ≤ k ∧ k ≤ 6 ∧ 0 ≤ n ∧ n < 2 ^ (8 * k.toNat)) : putB n k = true := decide_eq_true h
theorem putB_f {n k : Int} (h : ¬ (1 ≤ k ∧ k ≤ 6 ∧ 0 ≤ n ∧ n < 2 ^ (8 * k.toNat))) : putB n k = false := decide_eq_false h
theorem getB_t {z : Nat} {off k : Int} (h : 1 ≤ k ∧ k ≤ 6 ∧ 0 ≤ off ∧ off ≤ (z : Int) - k) : getB z off k = true := decide_eq_true h
theorem getB_f {z : Nat} {off k : Int} (h : ¬ (1 ≤ k ∧ k ≤ 6 ∧ 0 ≤ off ∧ off ≤ (z : Int) - k)) : getB z off k = false := decide_eq_false h
theorem numL_small (l : List UInt8) (h : l.length ≤ 5) : numL l ≤ 1099511627775 := by
  have h1 := (numL_bd l).2
  have hc : l.length = 0 ∨ l.length = 1 ∨ l.length = 2 ∨ l.length = 3 ∨ l.length = 4 ∨ l.length = 5 := by omega
  rcases hc with h | h | h | h | h | h <;> rw [h] at h1 <;> simp at h1 <;> omega
theorem tmod_round (n m : Int) (hm : 0 < m) : (n.tmod m + m) % m = n % m ∧ -m < n.tmod m ∧ n.tmod m < m := by
  refine ⟨?_, ?_, Int.tmod_lt_of_pos n hm⟩
  · rw [Int.add_emod_right]
    by_cases h0 : 0 ≤ n
    · rw [Int.tmod_eq_emod_of_nonneg h0, Int.emod_emod]
    · obtain ⟨k, rfl⟩ : ∃ k : Int, n = -k := ⟨-n, by omega⟩
      rw [Int.neg_tmod, Int.tmod_eq_emod_of_nonneg (by omega : 0 ≤ k)]
      have e : -k = -(k % m) + m * (-(k / m)) := by have := Int.emod_add_mul_ediv k m; rw [Int.mul_neg]; omega
      have h := Int.add_mul_emod_self_left (-(k % m)) m (-(k / m))
      rw [← e] at h; exact h.symm
  · by_cases h0 : 0 ≤ n
    · have := Int.tmod_nonneg m h0; omega
    · obtain ⟨k, rfl⟩ : ∃ k : Int, n = -k := ⟨-n, by omega⟩
      rw [Int.neg_tmod]; have := Int.tmod_lt_of_pos k hm; omega

theorem totS_one (s : ByteArray) : missV (totS [s]) = sumS s := by simp [sumS, totS, catS]
theorem catS_one (s : ByteArray) : (catS [s]).length = s.size := by simp [catS]
theorem catS_two (a b : ByteArray) : (catS [a, b]).length = a.size + b.size := by simp [catS]
theorem totS_bd (ss : List ByteArray) (h : (catS ss).length ≤ 140737488355328) : 0 ≤ totS ss ∧ totS ss ≤ 9223372036854775807 := by
  have := ws_bd true (catS ss); unfold totS; omega
def pseuB (f t p l : Int) : Bool := !outB f 0 4294967295 && !outB t 0 4294967295 && !outB p 0 255 && !outB l 0 65535
def pseuV (f t p l : Int) : ByteArray := if pseuB f t p l = true then txt f 4 ++ txt t 4 ++ txt p 2 ++ txt l 2 else noS

def headS (s : ByteArray) (o : Int) : ByteArray := s.extract 0 o.toNat
def tailS (s : ByteArray) (o : Int) : ByteArray := s.extract (o + 2).toNat s.size
def placeB (z : Nat) (o : Int) : Bool := decide (0 ≤ o ∧ o % 2 = 0 ∧ o ≤ (z : Int) - 2)
def sealC (s : ByteArray) (o : Int) : Int := if placeB s.size o = true then (if s.size ≤ 65536 then 0 else 2) else 1
def sealS (s : ByteArray) (o : Int) : ByteArray := headS s o ++ txt (missV (totS [headS s o, tailS s o])) 2 ++ tailS s o
def sealV (s : ByteArray) (o : Int) : ByteArray := if placeB s.size o = true then (if s.size ≤ 65536 then sealS s o else noS) else noS
theorem headS_size (s : ByteArray) (o : Int) (h0 : 0 ≤ o) (h1 : o ≤ (s.size : Int) - 2) : (headS s o).size = o.toNat := by
  unfold headS; rw [ByteArray.size_extract]; omega
theorem tailS_size (s : ByteArray) (o : Int) (h0 : 0 ≤ o) (h1 : o ≤ (s.size : Int) - 2) : (tailS s o).size = s.size - (o + 2).toNat := by
  unfold tailS; rw [ByteArray.size_extract]; omega
theorem ba_toList {a b : ByteArray} (h : a.data.toList = b.data.toList) : a = b := ByteArray.ext (Array.ext' h)
theorem app_toList (a b : ByteArray) : (a ++ b).data.toList = a.data.toList ++ b.data.toList := by rw [ByteArray.data_append, Array.toList_append]
theorem ext_toList (s : ByteArray) (a b : Nat) : (s.extract a b).data.toList = (s.data.toList.drop a).take (b - a) := by simp
theorem len_toList (s : ByteArray) : s.data.toList.length = s.size := by simp
theorem mid_head (A M B : ByteArray) : (A ++ M ++ B).extract 0 A.size = A := by
  apply ba_toList
  rw [ext_toList, app_toList, app_toList, List.drop_zero, Nat.sub_zero, List.append_assoc, ← len_toList A, List.take_left]
theorem mid_tail (A M B : ByteArray) (n : Nat) (h : n = A.size + M.size) : (A ++ M ++ B).extract n (A ++ M ++ B).size = B := by
  apply ba_toList
  rw [ext_toList, app_toList, app_toList]
  have e : n = (A.data.toList ++ M.data.toList).length := by rw [List.length_append, len_toList, len_toList]; exact h
  rw [e, List.drop_left, List.take_of_length_le]
  rw [len_toList, ByteArray.size_append, ByteArray.size_append, List.length_append, len_toList, len_toList]
  omega
theorem and_low (n : Int) : bits .and .i64 n 65535 = n % 65536 := by
  have h16 : (BitVec.ofInt 64 65535).toNat = 2 ^ 16 - 1 := by decide
  have key : (BitVec.ofInt 64 n &&& BitVec.ofInt 64 65535).toNat = (n % ((2 ^ 64 : Nat) : Int)).toNat % 2 ^ 16 := by
    rw [BitVec.toNat_and, BitVec.toNat_ofInt, h16, Nat.and_two_pow_sub_one_eq_mod]
  show IntKind.i64.wrap ((BitVec.ofInt 64 n &&& BitVec.ofInt 64 65535).toNat : Nat) = n % 65536
  rw [key, IntKind.wrap_i64]
  omega
theorem or_low (x b : Int) (h0 : 0 ≤ x) (h1 : x ≤ 1099511627775) (b0 : 0 ≤ b) (b1 : b < 256) : bits .or .i64 (x * 256) b = x * 256 + b := by
  obtain ⟨X, rfl⟩ := Int.eq_ofNat_of_zero_le h0
  obtain ⟨B, rfl⟩ := Int.eq_ofNat_of_zero_le b0
  have e : ((X : Int) * 256) = ((X * 256 : Nat) : Int) := by omega
  have hj := nat_join 8 (X * 256) B (by omega) (by omega)
  rw [e]
  show IntKind.i64.wrap ((BitVec.ofInt 64 ((X * 256 : Nat) : Int) ||| BitVec.ofInt 64 (B : Int)).toNat : Int) = _
  rw [BitVec.toNat_or, ofInt_u64 _ (by omega), ofInt_u64 _ (by omega), hj, IntKind.wrap_i64]
  omega
end Go.Proofs.YthjbmloemmggaaaGreatDoor

namespace Go.Proofs.YthjbmloemmggaaaGreatDoor
open Go.RowKit
set_option maxRecDepth 100000

theorem ret_int {k : IntKind} {a b : Int} (h : a = b) : Ending.returned (.int k a) = .returned (.int k b) := by rw [h]
theorem missing_any (n : Int) (w : World) (h0 : 0 ≤ n) (h1 : n ≤ 9223372036854775807) :
    Calls Tryz.prog 60 #[.int .i64 n] w fun e w' => e = .returned (.int .i64 (missV n)) ∧ w' = w := by
  have hA := and_low
  go_enter Tryz.func60, Tryz.ntmps60
  go_wp2
  go_loop [0] (fun t => ∃ m : Int, 0 ≤ m ∧ m ≤ 9223372036854775807 ∧ t = .int .i64 m ∧ Hid (foldV m = foldV n)) (fun t => (intOf t).toNat)
  case atStart => exact ⟨n, h0, h1, rfl, rfl⟩
  case round =>
    obtain ⟨m, hm0, hm1, rfl, HM⟩ := hrel
    by_cases hlt : 65535 < m
    · go_wp2
      go_round
      case rel => exact ⟨m / 65536 + m % 65536, by omega, by omega, rfl, (foldV_step m hlt).trans HM.out⟩
      case measure => simp [intOf]; omega
    · go_wp2
      go_ret
      exact ⟨ret_int (by unfold missV; rw [← HM.out, foldV_small m hm0 (by omega)]), rfl⟩

theorem total_any (b off len cap : Nat) (ss : List ByteArray) (w : World) (hl : len ≤ ss.length) (hbig : len ≤ 9223372036854775807)
    (hc : ∀ j, j < len → w.cell? ⟨b, off + j, none⟩ = some (.string (ss.getD j ByteArray.empty)))
    (hs : (catS (ss.take len)).length ≤ 140737488355328) :
    Calls Tryz.prog 61 #[.slice (some ⟨b, off, none⟩) len cap] w fun e w' => e = .returned (.int .i64 (totS (ss.take len))) ∧ w' = w := by
  have HC : Hid (∀ j, j < len → w.cell? ⟨b, off + j, none⟩ = some (.string (ss.getD j ByteArray.empty))) := hc
  clear hc
  go_enter Tryz.func61, Tryz.ntmps61
  go_wp2
  go_loop [3, 4, 10] (fun n h i => ∃ k : Nat, k ≤ len ∧ i = .int .i64 k ∧ n = .int .i64 (ws true (catS (ss.take k))) ∧ h = .int .i64 (shV (catS (ss.take k)).length)) (fun _ _ i => len - (intOf i).toNat)
  case atStart => exact ⟨0, Nat.zero_le _, rfl, rfl, rfl⟩
  case round =>
    obtain ⟨k, hk, rfl, rfl, rfl⟩ := hrel
    by_cases hlt : k < len
    · have hcell := HC.out k hlt
      have hst := cat_step ss k len hlt hl
      have HU := upto_all ss k (by omega)
      obtain ⟨p, hp⟩ : ∃ p, p = ss.getD k ByteArray.empty := ⟨_, rfl⟩
      rw [← hp] at hcell hst HU
      clear hp
      have HU' : Hid (upto ss k p p.size = catS (ss.take (k + 1))) := HU
      clear HU
      have hpz : (p.size : Int) ≤ 140737488355328 := by omega
      go_wp2
      go_loop [3, 4, 16] (fun n h i => ∃ j : Nat, j ≤ p.size ∧ i = .int .i64 j ∧ n = .int .i64 (ws true (upto ss k p j)) ∧ h = .int .i64 (shV (upto ss k p j).length)) (fun _ _ i => p.size - (intOf i).toNat)
      case atStart => exact ⟨0, Nat.zero_le _, rfl, by rw [upto_zero], by rw [upto_zero]⟩
      case round =>
        obtain ⟨j, hj, rfl, rfl, rfl⟩ := hrel
        by_cases hjl : j < p.size
        · have hbd := ws_bd true (upto ss k p j)
          have hul := upto_len ss k p j hj
          have hsn := ws_snoc true (upto ss k p j) p[j]
          have hsl : (upto ss k p (j + 1)).length = (upto ss k p j).length + 1 := by rw [upto_succ ss k p j hjl]; simp
          rw [← upto_succ ss k p j hjl] at hsn
          rw [hul] at hbd
          have hpb : (p[j].toNat : Int) < 256 := by have := p[j].toNat_lt; omega
          rcases shV_cases (upto ss k p j).length with ⟨e1, e2, e3⟩ | ⟨e1, e2, e3⟩
          · rw [e3, if_pos rfl] at hsn
            rw [← hsl] at e2
            rw [e1]
            have H1 : Hid (ws true (upto ss k p (j + 1)) = ws true (upto ss k p j) + 256 * (p[j].toNat : Int)) := hsn
            have H2 : Hid (shV (upto ss k p (j + 1)).length = 0) := e2
            clear hsn e1 e2 e3 hsl hul
            generalize ws true (upto ss k p j) = F at *
            go_wp2
            go_round
            case rel => exact ⟨j + 1, by omega, by go_num, by rw [H1.out, Int.mul_comm]; try go_num, by rw [H2.out]⟩
            case measure => simp [intOf]; omega
          · rw [e3, if_neg (by simp)] at hsn
            rw [← hsl] at e2
            rw [e1]
            have H1 : Hid (ws true (upto ss k p (j + 1)) = ws true (upto ss k p j) + (p[j].toNat : Int)) := hsn
            have H2 : Hid (shV (upto ss k p (j + 1)).length = 8) := e2
            clear hsn e1 e2 e3 hsl hul
            generalize ws true (upto ss k p j) = F at *
            go_wp2
            go_round
            case rel => exact ⟨j + 1, by omega, by go_num, by rw [H1.out]; try go_num, by rw [H2.out]⟩
            case measure => simp [intOf]; omega
        · have hj' : j = p.size := by omega
          subst hj'
          rw [HU'.out]
          go_wp2
          go_round
          case rel => exact ⟨k + 1, by omega, by go_num, rfl, rfl⟩
          case measure => simp [intOf]; omega
    · have hk' : k = len := by omega
      subst hk'
      go_wp2
      go_ret
      exact ⟨rfl, rfl⟩
end Go.Proofs.YthjbmloemmggaaaGreatDoor

namespace Go.Proofs.YthjbmloemmggaaaGreatDoor
open Go.RowKit
set_option maxRecDepth 100000

theorem Tryz.info5 : (Tryz.prog.info? 5).map (fun i => (i.zero, i.size, i.bytes)) = some (some (.int .u8 0), 1, 1) := by kernel_rfl

theorem put_any (n : Int) (k : Nat) (w : World) (k0 : 1 ≤ k) (k1 : k ≤ 6) :
    Calls Tryz.prog 47 #[.int .i64 n, .int .i64 k] w fun e w' => e = .returned (.string (txt n k)) ∧ Below w.heap.size w w' := by
  obtain ⟨i0, hi, hz0, hz1, hz2⟩ := info_parts Tryz.info5
  go_enter Tryz.func47, Tryz.ntmps47
  go_wp2_with (at_make; refine wpList_make_full _ rfl _ _ 123 rfl w.heap.size 5 i0 (.int .u8 0) 1 Tryz.underlying123 hi hz0 hz1 .i64 .i64 _ _ k rfl rfl rfl rfl (by rw [hz2]; omega) (by unfold maxLen; omega) (Nat.le_refl _) ?_)
  intro w1 hown hgrow
  have hb := (Below.refl w.heap.size w).grown hgrow (Nat.le_refl _) (fun k e => by cases e)
  clear hgrow hi hz0 hz1 hz2
  have hown2 : w1.ownsRow w.heap.size 5 1 (.slice (some ⟨w.heap.size, 0, none⟩) k k) k (cellsAt n k 0) := by
    rw [cellsAt_zero]
    have e := toList_madeCells_one (.int .u8 0) (k * 1)
    rw [Nat.mul_one] at e
    rw [← e]
    exact hown
  clear hown
  go_wp2
  go_loopw [11] (fun i wr => ∃ j : Nat, j ≤ k ∧ i = .int .i64 j ∧ wr.ownsRow w.heap.size 5 1 (.slice (some ⟨w.heap.size, 0, none⟩) k k) k (cellsAt n k j) ∧ Below w.heap.size w wr) (fun i _ => k - (intOf i).toNat)
  case atStart => exact ⟨0, Nat.zero_le _, rfl, hown2, hb⟩
  case round =>
    obtain ⟨j, hj, rfl, hown', hbel⟩ := hrel
    by_cases hlt : j < k
    · have hcell := hown'.cellAt j (by omega)
      have hfr := hown'.frozenAt j
      rw [cellsAt_at n k j hlt] at hcell
      have HO : Hid (wr.ownsRow w.heap.size 5 1 (.slice (some ⟨w.heap.size, 0, none⟩) k k) k (cellsAt n k j)) := hown'
      clear hown' hown2
      go_wp2
      go_roundw
      case rel =>
        have hs := HO.out.stored j (.int .u8 (n / 2 ^ (8 * (k - 1 - j)) % 256))
        rw [cellsAt_set n k j hlt] at hs
        exact ⟨j + 1, by omega, by go_num, hs.1, hbel.setCell (Nat.le_refl _) _⟩
      case measure => simp [intOf]; omega
    · have hj' : j = k := by omega
      subst hj'
      have hcv := run_convert_bytes_back (P := Tryz.prog) wr 123 9 5 ⟨w.heap.size, 0, none⟩ j (txtL n j) Tryz.underlying123 Tryz.underlying5 Tryz.underlying9 (by
        intro i hi
        have hil : i < j := by rw [txtL_len] at hi; exact hi
        rw [cellsAt_full] at hown'
        have := hown'.cellAt i (by omega)
        rw [map_cellB_at _ i hi] at this
        rw [Addr.add_lit, Nat.zero_add]
        exact this)
      rw [txtL_len] at hcv
      go_wp2
      go_ret
      exact ⟨rfl, hbel⟩

end Go.Proofs.YthjbmloemmggaaaGreatDoor

namespace Go.Proofs.YthjbmloemmggaaaGreatDoor
open Go.RowKit
set_option maxRecDepth 100000

theorem bt {a b c : World} (h : Below a.heap.size a b) (k : Below b.heap.size b c) : Below a.heap.size a c := h.trans (k.mono h.size)

theorem out_any (n a b : Int) (w : World) :
    Calls Tryz.prog 46 #[.int .i64 n, .int .i64 a, .int .i64 b] w fun e w' => e = .returned (.bool (outB n a b)) ∧ w' = w := by
  unfold outB
  by_cases h : n < a
  · go_enter Tryz.func46, Tryz.ntmps46
    go_wp2
    go_ret
    exact ⟨by simp [h], rfl⟩
  · go_enter Tryz.func46, Tryz.ntmps46
    go_wp2
    go_ret
    exact ⟨by simp; omega, rfl⟩

theorem lies_any (s : ByteArray) (off k : Int) (w : World) (hs : s.size ≤ maxLen) (k0 : 0 ≤ k) (k1 : k ≤ 9) :
    Calls Tryz.prog 59 #[.string s, .int .i64 off, .int .i64 k] w fun e w' => e = .returned (.bool (liesB s.size off k)) ∧ w' = w := by
  unfold maxLen at hs
  unfold liesB
  by_cases h : 0 ≤ off
  · go_enter Tryz.func59, Tryz.ntmps59
    go_wp2
    go_ret
    exact ⟨by simp [h], rfl⟩
  · go_enter Tryz.func59, Tryz.ntmps59
    go_wp2
    go_ret
    exact ⟨by simp; omega, rfl⟩

theorem among_any (n m : Int) (w : World) (m0 : 0 < m) (m1 : m ≤ 1000000000000) :
    Calls Tryz.prog 6 #[.int .i64 n, .int .i64 m] w fun e w' => e = .returned (.int .i64 (n % m)) ∧ w' = w := by
  obtain ⟨h, h1, h2⟩ := tmod_round n m m0
  rw [← h]; clear h
  go_enter Tryz.func6, Tryz.ntmps6
  go_wp2
  go_ret
  exact ⟨rfl, rfl⟩

theorem six {k : Int} (h1 : 1 ≤ k) (h2 : k ≤ 6) : k = 1 ∨ k = 2 ∨ k = 3 ∨ k = 4 ∨ k = 5 ∨ k = 6 := by omega

theorem pput_any (n k : Int) (w : World) :
    Calls Tryz.prog 28 #[.int .i64 n, .int .i64 k] w fun e w' => e = .returned (.tuple #[.string (putV n k), .int .i64 (codeB (putB n k))]) ∧ Below w.heap.size w w' := by
  by_cases hk : 1 ≤ k ∧ k ≤ 6
  · have ho := outB_f hk
    obtain ⟨hk1, hk2⟩ := hk
    by_cases h0 : n < 0
    · have hp : putB n k = false := putB_f (by omega)
      unfold putV; rw [hp, if_neg (by simp)]
      clear hp
      have ho2 := fun b => outB_t (n := n) (a := 0) (b := b) (Or.inl h0)
      obtain rfl | rfl | rfl | rfl | rfl | rfl := six hk1 hk2
      all_goals
        go_enter Tryz.func28, Tryz.ntmps28
        go_wp2_with (first | (go_at_call 46; refine (out_any _ _ _ _).mono ?_; rintro e w' ⟨rfl, rfl⟩))
        go_ret2
        exact ⟨rfl, Below.refl _ _⟩
    · by_cases hn : n < 2 ^ (8 * k.toNat)
      · have hp := putB_t ⟨hk1, hk2, by omega, hn⟩
        unfold putV; rw [hp, if_pos rfl]
        clear hp
        obtain rfl | rfl | rfl | rfl | rfl | rfl := six hk1 hk2
        all_goals
          simp at hn
          first
            | have ho2 : outB n 0 255 = false := outB_f ⟨by omega, by omega⟩
            | have ho2 : outB n 0 65535 = false := outB_f ⟨by omega, by omega⟩
            | have ho2 : outB n 0 16777215 = false := outB_f ⟨by omega, by omega⟩
            | have ho2 : outB n 0 4294967295 = false := outB_f ⟨by omega, by omega⟩
            | have ho2 : outB n 0 1099511627775 = false := outB_f ⟨by omega, by omega⟩
            | have ho2 : outB n 0 281474976710655 = false := outB_f ⟨by omega, by omega⟩
          go_enter Tryz.func28, Tryz.ntmps28
          go_wp2_with (first | (go_at_call 46; refine (out_any _ _ _ _).mono ?_; rintro e w' ⟨rfl, rfl⟩) | (go_at_call 47; refine (put_any _ _ _ (by decide) (by decide)).mono ?_; rintro e w' ⟨rfl, hb⟩))
          go_ret2
          exact ⟨rfl, hb⟩
      · have hp : putB n k = false := putB_f (fun h => hn h.2.2.2)
        unfold putV; rw [hp, if_neg (by simp)]
        clear hp
        obtain rfl | rfl | rfl | rfl | rfl | rfl := six hk1 hk2
        all_goals
          simp at hn
          first
            | have ho2 : outB n 0 281474976710655 = true := outB_t (by omega)
            | have ho2 : outB n 0 1099511627775 = true := outB_t (by omega)
            | have ho2 : outB n 0 4294967295 = true := outB_t (by omega)
            | have ho2 : outB n 0 16777215 = true := outB_t (by omega)
            | have ho2 : outB n 0 65535 = true := outB_t (by omega)
            | have ho2 : outB n 0 255 = true := outB_t (by omega)
          go_enter Tryz.func28, Tryz.ntmps28
          go_wp2_with (first | (go_at_call 46; refine (out_any _ _ _ _).mono ?_; rintro e w' ⟨rfl, rfl⟩))
          go_ret2
          exact ⟨rfl, Below.refl _ _⟩
  · have ho : outB k 1 6 = true := outB_t (by omega)
    have hp : putB n k = false := putB_f (by omega)
    unfold putV; rw [hp, if_neg (by simp)]
    clear hp
    go_enter Tryz.func28, Tryz.ntmps28
    go_wp2_with (first | (go_at_call 46; refine (out_any _ _ _ _).mono ?_; rintro e w' ⟨rfl, rfl⟩))
    go_ret2
    exact ⟨rfl, Below.refl _ _⟩

theorem get_loop_cells (w : World) (x : ByteArray) (c : Nat) : ∀ j (h : j < x.size), (w.drew.alloc (.cells (bytesRow x c) 5 ((bytesRow x c).size, (bytesRow x c).size + 1))).cell? ⟨w.heap.size, j, none⟩ = some (.int .u8 (x[j].toNat : Int)) := by
  intro j h
  have := World.cell?_alloc_mark w.drew (bytesRow x c) 5 ((bytesRow x c).size, (bytesRow x c).size + 1) j
  rw [bytesRow_at x c j h] at this
  exact this

theorem get_any (s : ByteArray) (off k : Int) (w : World) (hs : s.size ≤ maxLen) :
    Calls Tryz.prog 48 #[.string s, .int .i64 off, .int .i64 k] w fun e w' => e = .returned (.tuple #[.int .i64 (getV s off k), .int .i64 (codeB (getB s.size off k))]) ∧ Below w.heap.size w w' := by
  have hsm := hs
  unfold maxLen at hs
  unfold getV
  by_cases hk : 1 ≤ k ∧ k ≤ 6
  · have ho := outB_f hk
    obtain ⟨hk1, hk2⟩ := hk
    by_cases hb : 0 ≤ off ∧ off ≤ (s.size : Int) - k
    · have hp := getB_t ⟨hk1, hk2, hb⟩
      rw [hp, if_pos rfl]
      clear hp
      have hl : liesB s.size off k = true := decide_eq_true hb
      obtain ⟨h0, h1⟩ := hb
      have hz : (s.extract off.toNat (off + k).toNat).size ≤ 6 := by rw [ByteArray.size_extract]; omega
      have hcv := fun W => run_bytes_of_string (P := Tryz.prog) W 9 123 5 (s.extract off.toNat (off + k).toNat) Tryz.underlying9 Tryz.underlying123 Tryz.underlying5
      go_enter Tryz.func48, Tryz.ntmps48
      go_wp2_with (first | (go_at_call 46; refine (out_any _ _ _ _).mono ?_; rintro e w' ⟨rfl, rfl⟩) | (go_at_call 59; refine (lies_any _ _ _ _ hsm (by omega) (by omega)).mono ?_; rintro e w' ⟨rfl, rfl⟩))
      rw [show min (off + k).toNat s.size - off.toNat = (s.extract off.toNat (off + k).toNat).size from (by rw [ByteArray.size_extract])]
      clear hcv hl ho
      generalize hx : s.extract off.toNat (off + k).toNat = x at *
      have HX : Hid (s.extract off.toNat (off + k).toNat = x) := hx
      clear hx
      have hcells := get_loop_cells w' x (grownCap w' x.size 0 5)
      have hbel : Below w'.heap.size w' (w'.drew.alloc (.cells (bytesRow x (grownCap w' x.size 0 5)) 5 ((bytesRow x (grownCap w' x.size 0 5)).size, (bytesRow x (grownCap w' x.size 0 5)).size + 1))) := (Below.refl _ _).drew.alloc (Nat.le_refl _) _
      obtain ⟨W1, hW1⟩ : ∃ W, W = (w'.alloc (.cells (bytesRow x (grownCap w' x.size 0 5)) 5 ((bytesRow x (grownCap w' x.size 0 5)).size, (bytesRow x (grownCap w' x.size 0 5)).size + 1))).drew := ⟨_, rfl⟩
      rw [← hW1]
      have hcells' : ∀ j (h : j < x.size), W1.cell? ⟨w'.heap.size, j, none⟩ = some (.int .u8 (x[j].toNat : Int)) := by rw [hW1]; exact hcells
      have hbel' : Below w'.heap.size w' W1 := by rw [hW1]; exact hbel
      have HC : Hid (∀ j (h : j < x.size), W1.cell? ⟨w'.heap.size, j, none⟩ = some (.int .u8 (x[j].toNat : Int))) := hcells'
      clear hcells hcells' hW1 hbel
      generalize grownCap w' x.size 0 5 = c
      go_loop [8, 28] (fun n i => ∃ k : Nat, k ≤ x.size ∧ i = .int .i64 k ∧ n = .int .i64 (numL (x.data.toList.take k))) (fun _ i => x.size - (intOf i).toNat)
      case atStart => exact ⟨0, Nat.zero_le _, rfl, rfl⟩
      case round =>
        obtain ⟨j, hj, rfl, rfl⟩ := hrel
        by_cases hlt : j < x.size
        · have hd := (numL_bd (x.data.toList.take j)).1
          have hd2 := numL_small (x.data.toList.take j) (by rw [List.length_take]; omega)
          have hts := take_snoc x j hlt
          have hxb : (x[j].toNat : Int) < 256 := by have := x[j].toNat_lt; omega
          have HS : Hid (numL (x.data.toList.take (j + 1)) = numL (x.data.toList.take j) * 256 + (x[j].toNat : Int)) := by
            show _ = _
            rw [hts, numL_snoc]
          clear hts
          have hcj := HC.out j hlt
          have hor := or_low (numL (x.data.toList.take j)) (x[j].toNat : Int) hd hd2 (by omega) hxb
          generalize numL (x.data.toList.take j) = F at *
          go_wp2
          go_round
          case rel => exact ⟨j + 1, by omega, by go_num, by rw [HS.out]⟩
          case measure => simp [intOf]; omega
        · have hj' : j = x.size := by omega
          subst hj'
          rw [take_all]
          go_wp2
          go_ret2
          exact ⟨by rw [HX.out]; rfl, hbel'⟩
    · have hp : getB s.size off k = false := getB_f (by omega)
      rw [hp, if_neg (by simp)]
      clear hp
      have hl : liesB s.size off k = false := decide_eq_false hb
      go_enter Tryz.func48, Tryz.ntmps48
      go_wp2_with (first | (go_at_call 46; refine (out_any _ _ _ _).mono ?_; rintro e w' ⟨rfl, rfl⟩) | (go_at_call 59; refine (lies_any _ _ _ _ hsm (by omega) (by omega)).mono ?_; rintro e w' ⟨rfl, rfl⟩))
      go_ret2
      exact ⟨rfl, Below.refl _ _⟩
  · have ho : outB k 1 6 = true := outB_t (by omega)
    have hp : getB s.size off k = false := getB_f (by omega)
    rw [hp, if_neg (by simp)]
    clear hp
    go_enter Tryz.func48, Tryz.ntmps48
    go_wp2_with (first | (go_at_call 46; refine (out_any _ _ _ _).mono ?_; rintro e w' ⟨rfl, rfl⟩))
    go_ret2
    exact ⟨rfl, Below.refl _ _⟩
end Go.Proofs.YthjbmloemmggaaaGreatDoor

namespace Go.Proofs.YthjbmloemmggaaaGreatDoor
open Go.RowKit
set_option maxRecDepth 100000

theorem total_list (b off cap : Nat) (ss : List ByteArray) (w : World) (hbig : ss.length ≤ 9223372036854775807)
    (hc : ∀ j, j < ss.length → w.cell? ⟨b, off + j, none⟩ = some (.string (ss.getD j ByteArray.empty)))
    (hs : (catS ss).length ≤ 140737488355328) :
    Calls Tryz.prog 61 #[.slice (some ⟨b, off, none⟩) ss.length cap] w fun e w' => e = .returned (.int .i64 (totS ss)) ∧ w' = w := by
  have h := total_any b off ss.length cap ss w (Nat.le_refl _) hbig hc (by rw [List.take_length]; exact hs)
  rw [List.take_length] at h
  exact h

theorem whole_any (s : ByteArray) (w : World) (hs : s.size ≤ 140737488355328) :
    Calls Tryz.prog 65 #[.string s] w fun e w' => e = .returned (.bool (sumS s == 0)) ∧ Below w.heap.size w w' := by
  have hb := totS_bd [s] (by rw [catS_one]; exact hs)
  have h1 := totS_one s
  go_enter Tryz.func65, Tryz.ntmps65
  go_wp2_with (first | (go_at_call 61; refine (total_list w.heap.size 0 _ [s] _ (by simp) ?_ (by rw [catS_one]; exact hs)).mono ?_) | (go_at_call 60; refine (missing_any _ _ hb.1 hb.2).mono ?_; rintro e w' ⟨rfl, rfl⟩))
  · intro j hj
    have : j = 0 := by simp at hj; omega
    subst this
    simp
  · rintro e w' ⟨rfl, rfl⟩
    go_wp2_with (first | (go_at_call 60; refine (missing_any _ _ hb.1 hb.2).mono ?_; rintro e w' ⟨rfl, rfl⟩))
    go_ret
    exact ⟨rfl, (Below.refl _ _).alloc (Nat.le_refl _) _⟩

end Go.Proofs.YthjbmloemmggaaaGreatDoor

namespace Go.Proofs.YthjbmloemmggaaaGreatDoor
open Go.RowKit
set_option maxRecDepth 100000

theorem out_cases (n a b : Int) : (outB n a b = true ∧ (n < a ∨ b < n)) ∨ (outB n a b = false ∧ a ≤ n ∧ n ≤ b) := by
  unfold outB
  by_cases h : n < a ∨ b < n
  · left; exact ⟨decide_eq_true h, h⟩
  · right; exact ⟨decide_eq_false h, by omega⟩

theorem pseudo_any (f t p l : Int) (w : World) :
    Calls Tryz.prog 101 #[.int .i64 f, .int .i64 t, .int .i64 p, .int .i64 l] w fun e w' => e = .returned (.tuple #[.string (pseuV f t p l), .int .i64 (codeB (pseuB f t p l))]) ∧ Below w.heap.size w w' := by
  unfold pseuV pseuB
  rcases out_cases f 0 4294967295 with ⟨h1, _⟩ | ⟨h1, f0, f1⟩
  · rw [h1]
    simp
    go_enter Tryz.func101, Tryz.ntmps101
    go_wp2_with (first | (go_at_call 46; refine (out_any _ _ _ _).mono ?_; rintro e w' ⟨rfl, rfl⟩))
    go_ret2
    exact ⟨rfl, Below.refl _ _⟩
  · rcases out_cases t 0 4294967295 with ⟨h2, _⟩ | ⟨h2, t0, t1⟩
    · rw [h1, h2]
      simp
      go_enter Tryz.func101, Tryz.ntmps101
      go_wp2_with (first | (go_at_call 46; refine (out_any _ _ _ _).mono ?_; rintro e w' ⟨rfl, rfl⟩))
      go_ret2
      exact ⟨rfl, Below.refl _ _⟩
    · rcases out_cases p 0 255 with ⟨h3, _⟩ | ⟨h3, p0, p1⟩
      · rw [h1, h2, h3]
        simp
        go_enter Tryz.func101, Tryz.ntmps101
        go_wp2_with (first | (go_at_call 46; refine (out_any _ _ _ _).mono ?_; rintro e w' ⟨rfl, rfl⟩))
        go_ret2
        exact ⟨rfl, Below.refl _ _⟩
      · rcases out_cases l 0 65535 with ⟨h4, _⟩ | ⟨h4, l0, l1⟩
        · rw [h1, h2, h3, h4]
          simp
          go_enter Tryz.func101, Tryz.ntmps101
          go_wp2_with (first | (go_at_call 46; refine (out_any _ _ _ _).mono ?_; rintro e w' ⟨rfl, rfl⟩))
          go_ret2
          exact ⟨rfl, Below.refl _ _⟩
        · rw [h1, h2, h3, h4]
          simp
          have z1 := txt_size f 4
          have z2 := txt_size t 4
          have z3 := txt_size p 2
          have z4 := txt_size l 2
          go_enter Tryz.func101, Tryz.ntmps101
          go_wp2_with (first | (go_at_call 46; refine (out_any _ _ _ _).mono ?_; rintro e w' ⟨rfl, rfl⟩))
          refine (put_any _ 4 _ (by decide) (by decide)).mono ?_
          rintro e w1 ⟨rfl, b1⟩
          go_wp2_with fail
          refine (put_any _ 4 _ (by decide) (by decide)).mono ?_
          rintro e w2 ⟨rfl, b2⟩
          go_wp2_with fail
          refine (put_any _ 2 _ (by decide) (by decide)).mono ?_
          rintro e w3 ⟨rfl, b3⟩
          go_wp2_with fail
          refine (put_any _ 2 _ (by decide) (by decide)).mono ?_
          rintro e w4 ⟨rfl, b4⟩
          go_wp2
          go_ret2
          exact ⟨rfl, bt (bt (bt b1 b2) b3) b4⟩

end Go.Proofs.YthjbmloemmggaaaGreatDoor

namespace Go.Proofs.YthjbmloemmggaaaGreatDoor
open Go.RowKit
set_option maxRecDepth 100000

theorem below_drewN' {B : Nat} {a w : World} (h : Below B a w) (n : Nat) : Below B a (w.drewN n) := h.trans ⟨rfl, rfl, rfl, Nat.le_refl _, fun _ _ => rfl⟩

theorem cells_two (W : World) (A B : ByteArray) : ∀ j, j < [A, B].length → (W.alloc (.cells #[.string A, .string B] 9)).cell? ⟨W.heap.size, 0 + j, none⟩ = some (.string ([A, B].getD j ByteArray.empty)) := by
  intro j hj
  simp at hj
  obtain rfl | rfl : j = 0 ∨ j = 1 := by omega
  · simp
  · simp

theorem seal_ok (s : ByteArray) (off : Int) (w : World) (hs : s.size ≤ 65536) (h0 : 0 ≤ off) (h1 : off ≤ (s.size : Int) - 2) (h2 : off % 2 = 0) :
    Calls Tryz.prog 43 #[.string s, .int .i64 off] w fun e w' => e = .returned (.tuple #[.string (sealS s off), .int .i64 0]) ∧ Below w.heap.size w w' := by
  have hl : liesB s.size off 2 = true := decide_eq_true ⟨h0, h1⟩
  have hm : (off % 2 != 0) = false := by simp [h2]
  have hz1 := headS_size s off h0 h1
  have hz2 := tailS_size s off h0 h1
  unfold sealS
  go_enter Tryz.func43, Tryz.ntmps43
  go_wp2_with (first | (go_at_call 59; refine (lies_any _ _ _ _ (by unfold maxLen; omega) (by omega) (by omega)).mono ?_; rintro e w' ⟨rfl, rfl⟩))
  go_quiet (fail)
  go_wp2_with fail
  have eA : s.extract 0 off.toNat = headS s off := rfl
  have eB : s.extract (off + 2).toNat s.size = tailS s off := rfl
  rw [eA, eB]
  clear eA eB
  have hA : (headS s off).size ≤ 65536 := by omega
  have hB : (tailS s off).size ≤ 65536 := by omega
  clear hz1 hz2
  generalize eA : headS s off = A at *
  generalize eB : tailS s off = B at *
  have HA : Hid (headS s off = A) := eA
  have HB : Hid (tailS s off = B) := eB
  clear eA eB
  have hcat : (catS [A, B]).length ≤ 140737488355328 := by rw [catS_two]; omega
  have hb := totS_bd [A, B] hcat
  have hz := txt_size (missV (totS [A, B])) 2
  refine (total_list w'.heap.size 0 2 [A, B] _ (by simp) (cells_two (w'.drewN nq) A B) hcat).mono ?_
  rintro e W1 ⟨rfl, rfl⟩
  go_wp2_with fail
  refine (missing_any _ _ hb.1 hb.2).mono ?_
  rintro e W1 ⟨rfl, rfl⟩
  go_wp2_with fail
  refine (put_any _ 2 _ (by decide) (by decide)).mono ?_
  rintro e W1 ⟨rfl, b1⟩
  go_wp2
  go_ret2
  exact ⟨by rw [HA.out, HB.out]; rfl, bt ((below_drewN' (Below.refl _ _) _).alloc (Nat.le_refl _) _) b1⟩

theorem place_t {z : Nat} {o : Int} (h : 0 ≤ o ∧ o % 2 = 0 ∧ o ≤ (z : Int) - 2) : placeB z o = true := decide_eq_true h
theorem place_f {z : Nat} {o : Int} (h : ¬ (0 ≤ o ∧ o % 2 = 0 ∧ o ≤ (z : Int) - 2)) : placeB z o = false := decide_eq_false h

theorem seal_any (s : ByteArray) (off : Int) (w : World) (hs : s.size ≤ maxLen) :
    Calls Tryz.prog 43 #[.string s, .int .i64 off] w fun e w' => e = .returned (.tuple #[.string (sealV s off), .int .i64 (sealC s off)]) ∧ Below w.heap.size w w' := by
  have hsm := hs
  unfold maxLen at hs
  unfold sealV sealC
  by_cases h0 : 0 ≤ off
  · by_cases h2 : off % 2 = 0
    · by_cases h1 : off ≤ (s.size : Int) - 2
      · rw [place_t ⟨h0, h2, h1⟩, if_pos rfl, if_pos rfl]
        by_cases hz : s.size ≤ 65536
        · rw [if_pos hz, if_pos hz]
          exact seal_ok s off w hz h0 h1 h2
        · rw [if_neg hz, if_neg hz]
          have hl : liesB s.size off 2 = true := decide_eq_true ⟨h0, h1⟩
          have hm : (off % 2 != 0) = false := by simp [h2]
          go_enter Tryz.func43, Tryz.ntmps43
          go_wp2_with (first | (go_at_call 59; refine (lies_any _ _ _ _ hsm (by omega) (by omega)).mono ?_; rintro e w' ⟨rfl, rfl⟩))
          go_ret2
          exact ⟨rfl, Below.refl _ _⟩
      · rw [place_f (by omega), if_neg (by simp), if_neg (by simp)]
        have hl : liesB s.size off 2 = false := decide_eq_false (by omega)
        have hm : (off % 2 != 0) = false := by simp [h2]
        go_enter Tryz.func43, Tryz.ntmps43
        go_wp2_with (first | (go_at_call 59; refine (lies_any _ _ _ _ hsm (by omega) (by omega)).mono ?_; rintro e w' ⟨rfl, rfl⟩))
        go_ret2
        exact ⟨rfl, Below.refl _ _⟩
    · rw [place_f (by omega), if_neg (by simp), if_neg (by simp)]
      have hm : (off % 2 != 0) = true := by simp; omega
      go_enter Tryz.func43, Tryz.ntmps43
      go_wp2_with (first | (go_at_call 59; refine (lies_any _ _ _ _ hsm (by omega) (by omega)).mono ?_; rintro e w' ⟨rfl, rfl⟩))
      go_ret2
      exact ⟨rfl, Below.refl _ _⟩
  · rw [place_f (by omega), if_neg (by simp), if_neg (by simp)]
    have hl : liesB s.size off 2 = false := decide_eq_false (by omega)
    cases hm : (off.tmod 2 != 0)
    all_goals
      go_enter Tryz.func43, Tryz.ntmps43
      go_wp2_with (first | (go_at_call 59; refine (lies_any _ _ _ _ hsm (by omega) (by omega)).mono ?_; rintro e w' ⟨rfl, rfl⟩))
      go_ret2
      exact ⟨rfl, Below.refl _ _⟩

end Go.Proofs.YthjbmloemmggaaaGreatDoor

namespace Go.Proofs.YthjbmloemmggaaaGreatDoor
open Go.RowKit
set_option maxRecDepth 100000

theorem catS_pair (A B : ByteArray) : catS [A, B] = A.data.toList ++ B.data.toList := by simp [catS]
theorem turnB_even (h : Bool) (n : Nat) (e : n % 2 = 0) : turnB h n = h := by unfold turnB; rw [if_pos e]
theorem totS_even (A B : ByteArray) (hA : A.size % 2 = 0) : totS [A, B] = ws true A.data.toList + ws true B.data.toList := by
  unfold totS
  rw [catS_pair, ws_append, turnB_even _ _ (by rw [len_toList]; exact hA)]
end Go.Proofs.YthjbmloemmggaaaGreatDoor

namespace Go.Proofs.YthjbmloemmggaaaGreatDoor
open Go.RowKit
set_option maxRecDepth 100000

theorem foldV_fill (x : Int) (h : 0 ≤ x) : foldV (x + (65535 - foldV x)) = 65535 := by
  unfold foldV
  by_cases e : x = 0
  · simp [e]
  · rw [if_neg e, if_neg (by omega)]
    omega
theorem txtL_two (c : Int) : txtL c 2 = [byteAt c 1, byteAt c 0] := by simp [txtL, List.range_succ]
theorem ws_txt (c : Int) (h0 : 0 ≤ c) (h1 : c ≤ 65535) : ws true (txtL c 2) = c := by
  rw [txtL_two]
  simp only [ws]
  have e1 := byteAt_toNat c 1
  have e0 := byteAt_toNat c 0
  simp at e1 e0
  simp [e1, e0]
  omega
theorem txt_toList (c : Int) (k : Nat) : (txt c k).data.toList = txtL c k := by simp [txt]
theorem ws_mid (A B : ByteArray) (c : Int) (hA : A.size % 2 = 0) (h0 : 0 ≤ c) (h1 : c ≤ 65535) : ws true (A ++ txt c 2 ++ B).data.toList = totS [A, B] + c := by
  rw [app_toList, app_toList, txt_toList, List.append_assoc, ws_append, turnB_even _ _ (by rw [len_toList]; exact hA), ws_append, ws_txt c h0 h1, turnB_even _ _ (by rw [txtL_len]), totS_even A B hA]
  omega
theorem totS_nonneg (ss : List ByteArray) : 0 ≤ totS ss := (ws_bd true (catS ss)).1
theorem sum_sealS (s : ByteArray) (o : Int) (h0 : 0 ≤ o) (h1 : o ≤ (s.size : Int) - 2) (h2 : o % 2 = 0) : foldV (ws true (sealS s o).data.toList) = 65535 := by
  unfold sealS
  have hb := missV_bd (totS [headS s o, tailS s o])
  rw [ws_mid _ _ _ (by rw [headS_size s o h0 h1]; omega) hb.1 hb.2]
  exact foldV_fill _ (totS_nonneg _)
theorem sealS_size (s : ByteArray) (o : Int) (h0 : 0 ≤ o) (h1 : o ≤ (s.size : Int) - 2) : (sealS s o).size = s.size := by
  unfold sealS
  rw [ByteArray.size_append, ByteArray.size_append, headS_size s o h0 h1, tailS_size s o h0 h1, txt_size]
  omega
end Go.Proofs.YthjbmloemmggaaaGreatDoor

namespace Go.Proofs.YthjbmloemmggaaaGreatDoor
open Go.RowKit
set_option maxRecDepth 100000

theorem byteAt_succ (n : Int) (j : Nat) : byteAt n (j + 1) = byteAt (n / 256) j := by
  unfold byteAt
  rw [show 8 * (j + 1) = 8 + 8 * j by omega, Int.pow_add, ← Int.ediv_ediv_of_nonneg (by decide)]
  rfl
theorem txtL_succ (n : Int) (k : Nat) : txtL n (k + 1) = txtL (n / 256) k ++ [byteAt n 0] := by
  unfold txtL
  rw [List.range_succ, List.map_append]
  congr 1
  · apply List.map_congr_left
    intro i hi
    have := List.mem_range.1 hi
    rw [show k + 1 - 1 - i = (k - 1 - i) + 1 by omega, byteAt_succ]
  · simp
theorem numL_txtL (k : Nat) : ∀ n : Int, numL (txtL n k) = n % 256 ^ k := by
  induction k with
  | zero => intro n; simp [txtL, numL]
  | succ k ih =>
    intro n
    rw [txtL_succ, numL_snoc, ih, byteAt_toNat]
    have hm : (0 : Int) < 256 ^ k := Int.pow_pos (by decide)
    rw [Int.pow_succ]
    generalize (256 : Int) ^ k = m at hm
    simp only [Nat.mul_zero, Int.pow_zero, Int.ediv_one]
    have e1 := Int.emod_add_mul_ediv (n / 256) m
    have b0 := Int.emod_nonneg (n / 256) (by omega : m ≠ 0)
    have b1 := Int.emod_lt_of_pos (n / 256) hm
    generalize n / 256 % m = r at e1 b0 b1 ⊢
    generalize n / 256 / m = q at e1
    have e2 : n = (r * 256 + n % 256) + (m * 256) * q := by
      rw [Int.mul_assoc, Int.mul_comm 256 q, ← Int.mul_assoc]
      omega
    have e3 : (r * 256 + n % 256) % (m * 256) = r * 256 + n % 256 := Int.emod_eq_of_lt (by omega) (by omega)
    have e4 : n % (m * 256) = ((r * 256 + n % 256) + (m * 256) * q) % (m * 256) := by rw [← e2]
    rw [e4, Int.add_mul_emod_self_left, e3]
theorem num_txt (n : Int) (k : Nat) (h0 : 0 ≤ n) (h1 : n < 256 ^ k) : numL (txtL n k) = n := by
  rw [numL_txtL, Int.emod_eq_of_lt h0 h1]
theorem list_inj {a b : ByteArray} (h : a.toList = b.toList) : a = b := by rw [ByteArray.toList_eq, ByteArray.toList_eq] at h; exact ba_toList h
theorem app_nil (a : ByteArray) : a ++ (⟨#[]⟩ : ByteArray) = a := by apply ba_toList; rw [app_toList]; simp
theorem num_at (s : ByteArray) (pre post : List UInt8) (n : Int) (k a b : Nat) (hs : s.data.toList = pre ++ (txtL n k ++ post)) (ha : pre.length = a) (hb : b = a + k) (h0 : 0 ≤ n) (h1 : n < 256 ^ k) : numS (s.extract a b) = n := by
  unfold numS
  rw [ext_toList, hs, List.drop_left' ha, List.take_left' (by rw [txtL_len]; omega)]
  exact num_txt n k h0 h1
theorem cut_join (l : List UInt8) (a k m : Nat) : (l.drop a).take k ++ (l.drop (a + k)).take m = (l.drop a).take (k + m) := by
  rw [List.take_add, List.drop_drop]
end Go.Proofs.YthjbmloemmggaaaGreatDoor

namespace Go.Proofs.YthjbmloemmggaaaGreatDoor
open Go.RowKit
set_option maxRecDepth 100000
def numB (a : Int) : Bool := decide (0 ≤ a ∧ a ≤ 4294967295)
def codeOf (b : Bool) : Int := if b = true then 0 else 1
theorem numB_t {a : Int} (h : numB a = true) : 0 ≤ a ∧ a ≤ 4294967295 := of_decide_eq_true h
theorem numB_f {a : Int} (h : numB a = false) : a < 0 ∨ 4294967295 < a := by have := of_decide_eq_false h; omega
theorem check_any (a : Int) (w : World) : Calls Tryz.prog 122 #[.int .i64 a] w fun e w' => e = .returned (.int .i64 (codeOf (numB a))) ∧ w' = w := by
  cases h : numB a
  · rcases numB_f h with h0 | h0 <;> clear h
    all_goals
      go_enter Tryz.func122, Tryz.ntmps122
      go_wp2
      go_ret
      exact ⟨rfl, rfl⟩
  · obtain ⟨h0, h1⟩ := numB_t h; clear h
    go_enter Tryz.func122, Tryz.ntmps122
    go_wp2
    go_ret
    exact ⟨rfl, rfl⟩
end Go.Proofs.YthjbmloemmggaaaGreatDoor

namespace Go.Proofs.YthjbmloemmggaaaGreatDoor
open Go.RowKit
set_option maxRecDepth 100000
section
variable {P : Program} {ops : Array Oper} {Q : Exit → Act → World → Prop} {md : Region.Mode}

theorem count_setL : ∀ (l : List Bool) (i : Nat) (hi : i < l.length), l[i] = false → (l.set i true).count false < l.count false
  | [], i, hi, _ => by simp at hi
  | x :: l, 0, _, hv => by simp at hv; subst hv; simp
  | x :: l, i + 1, hi, hv => by
    have := count_setL l i (by simpa using hi) (by simpa using hv)
    simp only [List.set_cons_succ, List.count_cons]
    omega
theorem count_set {l : Array Bool} {i : Nat} (h : l.getD i true = false) : (l.setIfInBounds i true).toList.count false < l.toList.count false := by
  have hi : i < l.size := by
    apply Classical.byContradiction
    intro hn
    rw [Array.getD_eq_getD_getElem?, Array.getElem?_eq_none (by omega)] at h
    cases h
  have hv : l[i] = false := by
    rw [Array.getD_eq_getD_getElem?, Array.getElem?_eq_getElem hi] at h
    exact h
  rw [Array.toList_setIfInBounds]
  exact count_setL l.toList i (by simpa using hi) (by simpa using hv)

theorem wpAny_inv (I : Array Bool → Act → World → Prop)
    (hstep : ∀ l a w i, I l a w → i ∈ Region.ready md ops l → wpOp P ops Q i (I (l.setIfInBounds i true)) a w)
    (hend : ∀ l a w, I l a w → Region.ready md ops l = [] → Q .normal a w) :
    ∀ (fuel : Nat) (l : Array Bool) (a : Act) (w : World), l.toList.count false ≤ fuel → I l a w → wpAny P md ops Q fuel l a w := by
  intro fuel
  induction fuel with
  | zero =>
    intro l a w hc hI
    have hr : Region.ready md ops l = [] := by
      apply List.eq_nil_iff_forall_not_mem.2
      intro i hi
      have := count_set (mem_ready.1 hi).1
      omega
    exact ⟨hr, hend l a w hI hr⟩
  | succ fuel ih =>
    intro l a w hc hI
    refine ⟨hend l a w hI, fun i hi => ?_⟩
    refine wpOp_mono (fun a' w' h => ih _ a' w' ?_ h) (hstep l a w i hI hi)
    have := count_set (mem_ready.1 hi).1
    omega

def orderlyB (md : Region.Mode) (ops : Array Oper) : Bool :=
  (List.range ops.size).all fun i => match ops[i]? with
    | some o => (o.after.all fun e => !Region.binds md e || decide (e.on < i)) && (match o.dst with | some d => (List.range ops.size).all fun j => j == i || (match ops[j]? with | some oj => oj.dst != some d | none => true) | none => true)
    | none => true
def slotFreeB (ops : Array Oper) (k : Nat) : Bool := ops.all fun o => o.dst != some k
theorem slotFree_spec {k : Nat} (h : slotFreeB ops k = true) (i : Nat) (o : Oper) (ho : ops[i]? = some o) : o.dst ≠ some k := by
  have := Array.all_eq_true_iff_forall_mem.1 h o (Array.mem_of_getElem? ho)
  simpa using this
def dstB (ops : Array Oper) (n : Nat) : Bool := ops.all fun o => match o.dst with | some d => decide (d < n) | none => true
theorem dst_spec {n : Nat} (h : dstB ops n = true) (i : Nat) (o : Oper) (d : Nat) (ho : ops[i]? = some o) (hd : o.dst = some d) : d < n := by
  have := Array.all_eq_true_iff_forall_mem.1 h o (Array.mem_of_getElem? ho)
  simpa [hd] using this
theorem orderly_after (h : orderlyB md ops = true) (i : Nat) (o : Oper) (ho : ops[i]? = some o) : ∀ e ∈ o.after, Region.binds md e = true → e.on < i := by
  intro e he hb
  have hi := (Array.getElem?_eq_some_iff.1 ho).1
  have h1 := List.all_eq_true.1 h i (List.mem_range.2 hi)
  rw [ho] at h1
  simp only [Bool.and_eq_true] at h1
  have h2 := Array.all_eq_true_iff_forall_mem.1 h1.1 e he
  rw [hb] at h2
  simpa using h2
theorem orderly_dst (h : orderlyB md ops = true) (i j : Nat) (o oj : Oper) (d : Nat) (ho : ops[i]? = some o) (hoj : ops[j]? = some oj) (hd : o.dst = some d) (hne : j ≠ i) : oj.dst ≠ some d := by
  have hi := (Array.getElem?_eq_some_iff.1 ho).1
  have hj := (Array.getElem?_eq_some_iff.1 hoj).1
  have h1 := List.all_eq_true.1 h i (List.mem_range.2 hi)
  rw [ho] at h1
  simp only [Bool.and_eq_true, hd] at h1
  have h2 := List.all_eq_true.1 h1.2 j (List.mem_range.2 hj)
  rw [hoj] at h2
  simpa [hne] using h2
theorem all_listed (h : orderlyB md ops = true) {l : Array Bool} (hs : l.size = ops.size) (hr : Region.ready md ops l = []) : ∀ i, i < ops.size → l.getD i false = true := by
  intro i
  induction i using Nat.strongRecOn with
  | ind i ih =>
    intro hi
    have hli : i < l.size := by omega
    have e1 : l.getD i false = l[i] := by rw [Array.getD_eq_getD_getElem?, Array.getElem?_eq_getElem hli]; rfl
    have e2 : l.getD i true = l[i] := by rw [Array.getD_eq_getD_getElem?, Array.getElem?_eq_getElem hli]; rfl
    cases hv : l[i]
    · exfalso
      have hm : i ∈ Region.ready md ops l := by
        refine mem_ready.2 ⟨by rw [e2, hv], ops[i], Array.getElem?_eq_getElem hi, fun e he hb => ?_⟩
        have := orderly_after h i _ (Array.getElem?_eq_getElem hi) e he hb
        exact ih e.on this (by omega)
      rw [hr] at hm
      cases hm
    · rw [e1, hv]

structure Inv (ops : Array Oper) (S : World → Prop) (G : Nat → Value → World → Prop) (a0 : Act) (n : Nat) (l : Array Bool) (a : Act) (w : World) : Prop where
  size : l.size = ops.size
  tsize : a.tmps.size = n
  defers : a.defers = a0.defers
  holds : S w
  base : ∀ k, slotFreeB ops k = true → a.tmps.getD k undef = a0.tmps.getD k undef
  facts : ∀ (i : Nat) (o : Oper) (d : Nat), ops[i]? = some o → o.dst = some d → l.getD i false = true → G i (a.tmps.getD d undef) w

theorem put_self {a : Act} {d : Nat} {v : Value} (h : d < a.tmps.size) : (a.put (some d) v).tmps.getD d undef = v := by
  simp [Act.put, h]
theorem put_other {a : Act} {d k : Nat} {v : Value} (h : d ≠ k) : (a.put (some d) v).tmps.getD k undef = a.tmps.getD k undef := by
  simp [Act.put, Array.getElem?_setIfInBounds_ne h]

def GV (vals : Nat → Value) (rows : Nat → Option (List Value)) (i : Nat) (v : Value) (w : World) : Prop := match rows i with
  | none => v = vals i
  | some cs => ∃ b, v = .slice (some ⟨b, 0, none⟩) cs.length cs.length ∧ b < w.heap.size ∧ ∀ k c, cs[k]? = some c → w.cell? ⟨b, k, none⟩ = some c
theorem GV_later (vals : Nat → Value) (rows : Nat → Option (List Value)) (i : Nat) (v : Value) (w w' : World) (h : GV vals rows i v w) (hb : Below w.heap.size w w') : GV vals rows i v w' := by
  unfold GV at *
  split at h
  · exact h
  · obtain ⟨b, hv, hlt, hc⟩ := h
    exact ⟨b, hv, Nat.lt_of_lt_of_le hlt hb.size, fun k c hk => (hb.cell (p := ⟨b, k, none⟩) hlt).trans (hc k c hk)⟩
def StepOk (P : Program) (md : Region.Mode) (ops : Array Oper) (Q : Exit → Act → World → Prop) (S : World → Prop) (G : Nat → Value → World → Prop) (a0 : Act) (n : Nat) (i : Nat) (o : Oper) : Prop :=
  ∀ (a : Act) (w : World), S w → a.tmps.size = n → (∀ k, slotFreeB ops k = true → a.tmps.getD k undef = a0.tmps.getD k undef) →
    (∀ e ∈ o.after, Region.binds md e = true → ∀ oe d, ops[e.on]? = some oe → oe.dst = some d → G e.on (a.tmps.getD d undef) w) →
    ∀ K : Act → World → Prop, (∀ v w', S w' → Below w.heap.size w w' → G i v w' → K (a.put o.dst v) w') → if Region.wanted o (yielded ops a.tmps) = true then Oper.wp P o a w K Q else K (a.put o.dst undef) w

def StepsOk (P : Program) (md : Region.Mode) (ops : Array Oper) (Q : Exit → Act → World → Prop) (S : World → Prop) (G : Nat → Value → World → Prop) (a0 : Act) (n : Nat) : List Oper → Nat → Prop
  | [], _ => True
  | o :: r, k => StepOk P md ops Q S G a0 n k o ∧ StepsOk P md ops Q S G a0 n r (k + 1)
theorem steps_at {S : World → Prop} {G : Nat → Value → World → Prop} {a0 : Act} {n : Nat} : ∀ (l : List Oper) (k : Nat), StepsOk P md ops Q S G a0 n l k → ∀ (i : Nat) (o : Oper), l[i]? = some o → StepOk P md ops Q S G a0 n (k + i) o
  | [], _, _, i, o, h => by simp at h
  | x :: l, k, hs, 0, o, h => by
    simp only [List.getElem?_cons_zero, Option.some.injEq] at h
    subst h; exact hs.1
  | x :: l, k, hs, i + 1, o, h => by
    have := steps_at l (k + 1) hs.2 i o (by simpa using h)
    rw [show k + (i + 1) = k + 1 + i by omega]; exact this

theorem region_facts (S : World → Prop) (G : Nat → Value → World → Prop) {a0 : Act} {n fuel : Nat} (hord : orderlyB md ops = true) (hn : a0.tmps.size = n)
    (hdb : dstB ops n = true)
    (hG : ∀ i v w w', G i v w → Below w.heap.size w w' → G i v w')
    (hops : StepsOk P md ops Q S G a0 n ops.toList 0)
    (hend : ∀ a w, S w → a.tmps.size = n → a.defers = a0.defers → (∀ k, slotFreeB ops k = true → a.tmps.getD k undef = a0.tmps.getD k undef) → (∀ (i : Nat) (o : Oper) (d : Nat), ops[i]? = some o → o.dst = some d → G i (a.tmps.getD d undef) w) → Q .normal a w)
    {w : World} (hS : S w) (hf : ops.size ≤ fuel) : wpAny P md ops Q fuel (Array.replicate ops.size false) a0 w := by
  refine wpAny_inv (I := Inv ops S G a0 n) ?_ ?_ fuel _ a0 w ?_ ?_
  · intro l a w i hI hi
    obtain ⟨hun, o, ho, hall⟩ := mem_ready.1 hi
    refine wpOp_step ho fun K' hK => ?_
    have hop := steps_at ops.toList 0 hops i o (by simpa using ho)
    rw [Nat.zero_add] at hop
    refine hop a w hI.holds hI.tsize hI.base ?_ K' ?_
    · intro e he hb oe d hoe hd
      exact hI.facts e.on oe d hoe hd (hall e he hb)
    · intro v w' hS' hB hg
      apply hK
      have hput : (a.put o.dst v).tmps.size = n ∧ (a.put o.dst v).defers = a.defers := by
        cases o.dst <;> simp [Act.put, hI.tsize]
      refine ⟨by simp [hI.size], hput.1, hput.2.trans hI.defers, hS', ?_, ?_⟩
      · intro k hk
        cases hd : o.dst with
        | none => exact hI.base k hk
        | some d =>
          have : d ≠ k := fun e => slotFree_spec hk i o ho (by rw [hd, e])
          rw [put_other this]
          exact hI.base k hk
      · intro j oj d hoj hd hl
        by_cases hji : j = i
        · subst hji
          obtain rfl : o = oj := Option.some.inj (ho.symm.trans hoj)
          rw [hd, put_self (by rw [hI.tsize]; exact dst_spec hdb j o d ho hd)]
          exact hg
        · have hl' : l.getD j false = true := by
            rw [Array.getD_eq_getD_getElem?, Array.getElem?_setIfInBounds_ne (Ne.symm hji), ← Array.getD_eq_getD_getElem?] at hl
            exact hl
          have old := hG j _ w w' (hI.facts j oj d hoj hd hl') hB
          cases hdo : o.dst with
          | none => exact old
          | some d' =>
            have : d' ≠ d := fun e => orderly_dst hord j i oj o d hoj ho hd (Ne.symm hji) (by rw [hdo, e])
            rw [put_other this]
            exact old
  · intro l a w hI hr
    refine hend a w hI.holds hI.tsize hI.defers hI.base fun i o d ho hd => ?_
    exact hI.facts i o d ho hd (all_listed hord hI.size hr i (Array.getElem?_eq_some_iff.1 ho).1)
  · simp; omega
  · refine ⟨by simp, hn, rfl, hS, fun _ _ => rfl, ?_⟩
    intro i o d ho hd hl
    rw [Array.getD_eq_getD_getElem?] at hl
    by_cases hi : i < ops.size
    · simp [hi] at hl
    · simp [hi] at hl
end
end Go.Proofs.YthjbmloemmggaaaGreatDoor
