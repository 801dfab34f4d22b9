/- Plain facts on lists of bytes and on numbers, for the Internet's sum: nothing of the program is named here. -/
import Derived.WalkKit
namespace Go.Proofs.Ytgjkplkghoeeeaa
open Go.RowKit

/-! ### The sum of 16 bits -/
def foldV (n : Int) : Int := if n = 0 then 0 else (n - 1) % 65535 + 1

theorem foldV_small (n : Int) (h0 : 0 ≤ n) (h1 : n ≤ 65535) : foldV n = n := by
  unfold foldV; split <;> omega

theorem foldV_step (n : Int) (h : 65535 < n) : foldV (n / 65536 + n % 65536) = foldV n := by
  unfold foldV
  rw [if_neg (by omega), if_neg (by omega)]
  omega

theorem foldV_bd (n : Int) : 0 ≤ foldV n ∧ foldV n ≤ 65535 := by
  unfold foldV; split <;> omega

theorem foldV_add (a b : Int) (ha : 0 ≤ a) (hb : 0 ≤ b) : foldV (foldV a + b) = foldV (a + b) := by
  unfold foldV
  by_cases h : a = 0
  · simp [h]
  · rw [if_neg h, if_neg (by omega), if_neg (by omega)]
    omega

theorem foldV_comm (a b : Int) : foldV (a + b) = foldV (b + a) := by rw [Int.add_comm]

/-- What is missing to 65535. -/
def missV (n : Int) : Int := 65535 - foldV n
theorem missV_bd (n : Int) : 0 ≤ missV n ∧ missV n ≤ 65535 := by
  have := foldV_bd n; unfold missV; omega

/-! ### The weighted sum of bytes -/
def ws : Bool → List UInt8 → Int
  | _, [] => 0
  | h, b :: l => (if h = true then 256 * (b.toNat : Int) else (b.toNat : Int)) + ws (!h) l

def turnB (h : Bool) (n : Nat) : Bool := if n % 2 = 0 then h else !h

theorem turnB_zero (h : Bool) : turnB h 0 = h := rfl
theorem turnB_succ (h : Bool) (n : Nat) : turnB h (n + 1) = turnB (!h) n := by
  unfold turnB; by_cases e : n % 2 = 0
  · rw [if_neg (by omega), if_pos e]
  · rw [if_pos (by omega), if_neg e]; simp

theorem ws_append (h : Bool) (a b : List UInt8) : ws h (a ++ b) = ws h a + ws (turnB h a.length) b := by
  induction a generalizing h with
  | nil => simp [ws, turnB]
  | cons x a ih => simp only [List.cons_append, ws, List.length_cons, ih, turnB_succ, Int.add_assoc]

theorem ws_snoc (h : Bool) (a : List UInt8) (x : UInt8) : ws h (a ++ [x]) = ws h a + (if turnB h a.length = true then 256 * (x.toNat : Int) else (x.toNat : Int)) := by
  rw [ws_append]; simp [ws]

theorem ws_bd (h : Bool) (a : List UInt8) : 0 ≤ ws h a ∧ ws h a ≤ 65280 * a.length := by
  induction a generalizing h with
  | nil => simp [ws]
  | cons x a ih =>
    have := ih (!h)
    have hx : x.toNat < 256 := x.toNat_lt
    simp only [ws, List.length_cons]
    cases h <;> simp at this ⊢ <;> omega

/-- The total of pieces, each behind the other: the first k. -/
def catS (ss : List ByteArray) : List UInt8 := ss.flatMap fun s => s.data.toList
theorem catS_snoc (ss : List ByteArray) (s : ByteArray) : catS (ss ++ [s]) = catS ss ++ s.data.toList := by simp [catS]
theorem catS_len (ss : List ByteArray) : (catS ss).length = (ss.map fun s => s.size).sum := by
  induction ss with
  | nil => rfl
  | cons s ss ih => simp only [catS, List.flatMap_cons, List.length_append, List.map_cons, List.sum_cons]; unfold catS at ih; rw [ih]; rfl

theorem take_snoc (s : ByteArray) (k : Nat) (h : k < s.size) : s.data.toList.take (k + 1) = s.data.toList.take k ++ [s[k]] := by
  rw [List.take_succ_eq_append_getElem (by simpa using h)]; rfl
theorem take_snocS (ss : List ByteArray) (k : Nat) (h : k < ss.length) : ss.take (k + 1) = ss.take k ++ [ss.getD k ByteArray.empty] := by
  rw [List.take_succ_eq_append_getElem h]; simp [List.getD, List.getElem?_eq_getElem h]

theorem catS_append (a b : List ByteArray) : catS (a ++ b) = catS a ++ catS b := by simp [catS]
theorem cat_step (ss : List ByteArray) (k len : Nat) (hk : k < len) (hl : len ≤ ss.length) :
    (catS (ss.take k)).length + (ss.getD k ByteArray.empty).size ≤ (catS (ss.take len)).length := by
  have e : ss.take len = ss.take (k + 1) ++ (ss.take len).drop (k + 1) := by
    have h := List.take_append_drop (k + 1) (ss.take len)
    rw [List.take_take, Nat.min_eq_left (by omega)] at h
    exact h.symm
  rw [e, catS_append, take_snocS ss k (by omega), catS_snoc, List.length_append, List.length_append]
  show _ + _ ≤ _ + (ss.getD k ByteArray.empty).data.size + _
  have : (ss.getD k ByteArray.empty).size = (ss.getD k ByteArray.empty).data.size := rfl
  omega
/-- What the next byte is shifted by. -/
def shV (n : Nat) : Int := if n % 2 = 0 then 8 else 0
/-- The pieces' bytes up to byte j of piece k. -/
def upto (ss : List ByteArray) (k : Nat) (p : ByteArray) (j : Nat) : List UInt8 := catS (ss.take k) ++ p.data.toList.take j
theorem upto_len (ss : List ByteArray) (k : Nat) (p : ByteArray) (j : Nat) (hj : j ≤ p.size) : (upto ss k p j).length = (catS (ss.take k)).length + j := by
  unfold upto
  rw [List.length_append, List.length_take, Nat.min_eq_left (by simpa using hj)]
theorem upto_succ (ss : List ByteArray) (k : Nat) (p : ByteArray) (j : Nat) (hj : j < p.size) : upto ss k p (j + 1) = upto ss k p j ++ [p[j]] := by
  unfold upto
  rw [take_snoc p j hj, List.append_assoc]
theorem upto_zero (ss : List ByteArray) (k : Nat) (p : ByteArray) : upto ss k p 0 = catS (ss.take k) := by simp [upto]
theorem take_all (p : ByteArray) : p.data.toList.take p.size = p.data.toList := List.take_of_length_le (Nat.le_refl _)
theorem upto_all (ss : List ByteArray) (k : Nat) (h : k < ss.length) : upto ss k (ss.getD k ByteArray.empty) (ss.getD k ByteArray.empty).size = catS (ss.take (k + 1)) := by
  unfold upto
  rw [take_all, take_snocS ss k h, catS_snoc]
theorem shV_cases (n : Nat) : (shV n = 8 ∧ shV (n + 1) = 0 ∧ turnB true n = true) ∨ (shV n = 0 ∧ shV (n + 1) = 8 ∧ turnB true n = false) := by
  unfold shV turnB
  by_cases h : n % 2 = 0
  · left; rw [if_pos h, if_neg (by omega), if_pos h]; exact ⟨rfl, rfl, rfl⟩
  · right; rw [if_neg h, if_pos (by omega), if_neg h]; exact ⟨rfl, rfl, rfl⟩

/-! ### A number's bytes -/
def byteAt (n : Int) (j : Nat) : UInt8 := UInt8.ofNat ((n / 2 ^ (8 * j)) % 256).toNat
def txtL (n : Int) (k : Nat) : List UInt8 := (List.range k).map fun i => byteAt n (k - 1 - i)
def txt (n : Int) (k : Nat) : ByteArray := ⟨(txtL n k).toArray⟩
theorem txtL_len (n : Int) (k : Nat) : (txtL n k).length = k := by simp [txtL]
theorem txt_size (n : Int) (k : Nat) : (txt n k).size = k := by simp [txt, ByteArray.size, txtL_len]

theorem byteAt_toNat (n : Int) (j : Nat) : ((byteAt n j).toNat : Int) = n / 2 ^ (8 * j) % 256 := by
  unfold byteAt
  have h0 : 0 ≤ n / 2 ^ (8 * j) % 256 := by omega
  have h1 : n / 2 ^ (8 * j) % 256 < 256 := by omega
  generalize n / 2 ^ (8 * j) % 256 = x at *
  have : (UInt8.ofNat x.toNat).toNat = x.toNat % 256 := by simp
  rw [this]
  omega
def cellB (b : UInt8) : Value := .int .u8 (b.toNat : Int)
def cellsAt (n : Int) (k j : Nat) : List Value := ((txtL n k).take j).map cellB ++ List.replicate (k - j) (.int .u8 0)
theorem cellsAt_zero (n : Int) (k : Nat) : cellsAt n k 0 = List.replicate k (.int .u8 0) := by simp [cellsAt]
theorem take_len' (n : Int) (k j : Nat) (h : j ≤ k) : (((txtL n k).take j).map cellB).length = j := by
  rw [List.length_map, List.length_take, txtL_len]; exact Nat.min_eq_left h
theorem cellsAt_at (n : Int) (k j : Nat) (h : j < k) : (cellsAt n k j)[j]? = some (.int .u8 0) := by
  unfold cellsAt
  rw [List.getElem?_append_right (by rw [take_len' n k j (by omega)]; exact Nat.le_refl _), take_len' n k j (by omega), Nat.sub_self, List.getElem?_replicate, if_pos (by omega)]
theorem txtL_at (n : Int) (k j : Nat) (h : j < k) : (txtL n k)[j]? = some (byteAt n (k - 1 - j)) := by
  unfold txtL
  rw [List.getElem?_map, List.getElem?_range h]; rfl
theorem txtL_take_succ (n : Int) (k j : Nat) (h : j < k) : (txtL n k).take (j + 1) = (txtL n k).take j ++ [byteAt n (k - 1 - j)] := by
  have hl : j < (txtL n k).length := by rw [txtL_len]; exact h
  rw [List.take_succ_eq_append_getElem hl]
  have := txtL_at n k j h
  rw [List.getElem?_eq_getElem hl] at this
  rw [Option.some.inj this]
theorem cellsAt_set (n : Int) (k j : Nat) (h : j < k) : (cellsAt n k j).set j (.int .u8 (n / 2 ^ (8 * (k - 1 - j)) % 256)) = cellsAt n k (j + 1) := by
  unfold cellsAt
  rw [List.set_append_right _ _ (by rw [take_len' n k j (by omega)]; exact Nat.le_refl _), take_len' n k j (by omega), Nat.sub_self, txtL_take_succ n k j h, List.map_append, List.append_assoc]
  have e : k - j = (k - (j + 1)) + 1 := by omega
  rw [e, List.replicate_succ, List.set_cons_zero]
  simp [cellB, byteAt_toNat]
theorem cellsAt_full (n : Int) (k : Nat) : cellsAt n k k = (txtL n k).map cellB := by
  unfold cellsAt
  rw [List.take_of_length_le (by rw [txtL_len]; exact Nat.le_refl _)]; simp
theorem map_cellB_at (l : List UInt8) (j : Nat) (h : j < l.length) : (l.map cellB)[j]? = some (.int .u8 (l[j].toNat : Int)) := by
  rw [List.getElem?_map, List.getElem?_eq_getElem h]; rfl

/-- The number of bytes. -/
def numL (l : List UInt8) : Int := l.foldl (fun n b => n * 256 + (b.toNat : Int)) 0
theorem numL_snoc (l : List UInt8) (b : UInt8) : numL (l ++ [b]) = numL l * 256 + b.toNat := by simp [numL]
theorem numF_bd (l : List UInt8) (n : Int) (k : Nat) (h0 : 0 ≤ n) (h1 : n < 256 ^ k) :
    0 ≤ l.foldl (fun n b => n * 256 + (b.toNat : Int)) n ∧ l.foldl (fun n b => n * 256 + (b.toNat : Int)) n < 256 ^ (k + l.length) := by
  induction l generalizing n k with
  | nil => exact ⟨h0, h1⟩
  | cons b l ih =>
    have hb : b.toNat < 256 := b.toNat_lt
    have hp : (256 : Int) ^ (k + 1) = 256 ^ k * 256 := Int.pow_succ _ _
    have := ih (n * 256 + b.toNat) (k + 1) (by omega) (by rw [hp]; omega)
    rw [List.foldl_cons, List.length_cons, show k + (l.length + 1) = k + 1 + l.length by omega]
    exact this
theorem numL_bd (l : List UInt8) : 0 ≤ numL l ∧ numL l < 256 ^ l.length := by
  have := numF_bd l 0 0 (by omega) (by simp)
  rw [Nat.zero_add] at this; exact this

/-! ### Tests and answers -/
def numS (s : ByteArray) : Int := numL s.data.toList
def sumS (s : ByteArray) : Int := missV (ws true s.data.toList)
def totS (ss : List ByteArray) : Int := ws true (catS ss)
def outB (n a b : Int) : Bool := decide (n < a ∨ b < n)
def liesB (z : Nat) (off k : Int) : Bool := decide (0 ≤ off ∧ off ≤ (z : Int) - k)
def codeB (b : Bool) : Int := if b = true then 0 else 1
def noS : ByteArray := ⟨#[]⟩
def putB (n k : Int) : Bool := decide (1 ≤ k ∧ k ≤ 6 ∧ 0 ≤ n ∧ n < 2 ^ (8 * k.toNat))
def putV (n k : Int) : ByteArray := if putB n k = true then txt n k.toNat else noS
def getB (z : Nat) (off k : Int) : Bool := decide (1 ≤ k ∧ k ≤ 6 ∧ 0 ≤ off ∧ off ≤ (z : Int) - k)
def getV (s : ByteArray) (off k : Int) : Int := if getB s.size off k = true then numS (s.extract off.toNat (off + k).toNat) else 0
theorem outB_t {n a b : Int} (h : n < a ∨ b < n) : outB n a b = true := decide_eq_true h
theorem outB_f {n a b : Int} (h : a ≤ n ∧ n ≤ b) : outB n a b = false := decide_eq_false (by omega)
theorem putB_t {n k : Int} (h : 1 ≤ k ∧ k ≤ 6 ∧ 0 ≤ n ∧ n < 2 ^ (8 * k.toNat)) : putB n k = true := decide_eq_true h
theorem putB_f {n k : Int} (h : ¬ (1 ≤ k ∧ k ≤ 6 ∧ 0 ≤ n ∧ n < 2 ^ (8 * k.toNat))) : putB n k = false := decide_eq_false h
theorem getB_t {z : Nat} {off k : Int} (h : 1 ≤ k ∧ k ≤ 6 ∧ 0 ≤ off ∧ off ≤ (z : Int) - k) : getB z off k = true := decide_eq_true h
theorem getB_f {z : Nat} {off k : Int} (h : ¬ (1 ≤ k ∧ k ≤ 6 ∧ 0 ≤ off ∧ off ≤ (z : Int) - k)) : getB z off k = false := decide_eq_false h
theorem numL_small (l : List UInt8) (h : l.length ≤ 5) : numL l ≤ 1099511627775 := by
  have h1 := (numL_bd l).2
  have hc : l.length = 0 ∨ l.length = 1 ∨ l.length = 2 ∨ l.length = 3 ∨ l.length = 4 ∨ l.length = 5 := by omega
  rcases hc with h | h | h | h | h | h <;> rw [h] at h1 <;> simp at h1 <;> omega
theorem tmod_round (n m : Int) (hm : 0 < m) : (n.tmod m + m) % m = n % m ∧ -m < n.tmod m ∧ n.tmod m < m := by
  refine ⟨?_, ?_, Int.tmod_lt_of_pos n hm⟩
  · rw [Int.add_emod_right]
    by_cases h0 : 0 ≤ n
    · rw [Int.tmod_eq_emod_of_nonneg h0, Int.emod_emod]
    · obtain ⟨k, rfl⟩ : ∃ k : Int, n = -k := ⟨-n, by omega⟩
      rw [Int.neg_tmod, Int.tmod_eq_emod_of_nonneg (by omega : 0 ≤ k)]
      have e : -k = -(k % m) + m * (-(k / m)) := by have := Int.emod_add_mul_ediv k m; rw [Int.mul_neg]; omega
      have h := Int.add_mul_emod_self_left (-(k % m)) m (-(k / m))
      rw [← e] at h; exact h.symm
  · by_cases h0 : 0 ≤ n
    · have := Int.tmod_nonneg m h0; omega
    · obtain ⟨k, rfl⟩ : ∃ k : Int, n = -k := ⟨-n, by omega⟩
      rw [Int.neg_tmod]; have := Int.tmod_lt_of_pos k hm; omega

/-! ### Of, Whole, Turn -/
def ofB (ss : List ByteArray) : Bool := decide (ss.length ≤ 1024 ∧ (catS ss).length ≤ 65536)
def ofV (ss : List ByteArray) : Int := if ofB ss = true then missV (totS ss) else 0
def codeL (b : Bool) : Int := if b = true then 0 else 2
def turnOk (o a n : Int) : Bool := !outB o 0 65535 && !outB a 0 65535 && !outB n 0 65535
def turnV (o a n : Int) : Int := if turnOk o a n = true then missV (65535 - o + (65535 - a) + n) else 0
def catB (ss : List ByteArray) : ByteArray := ⟨(catS ss).toArray⟩
theorem catB_size (ss : List ByteArray) : (catB ss).size = (catS ss).length := by simp [catB, ByteArray.size]
theorem catB_snoc (ss : List ByteArray) (p : ByteArray) : catB (ss ++ [p]) = catB ss ++ p := by
  apply ByteArray.ext
  rw [ByteArray.data_append]
  simp [catB, catS_snoc]
theorem sumS_catB (ss : List ByteArray) : sumS (catB ss) = missV (totS ss) := by simp [sumS, catB, totS]
theorem totS_one (s : ByteArray) : missV (totS [s]) = sumS s := by simp [sumS, totS, catS]
theorem catS_one (s : ByteArray) : (catS [s]).length = s.size := by simp [catS]
theorem catS_two (a b : ByteArray) : (catS [a, b]).length = a.size + b.size := by simp [catS]
theorem missV_small (n : Int) (h0 : 0 ≤ n) (h1 : n ≤ 65535) : missV n = 65535 - n := by unfold missV; rw [foldV_small n h0 h1]
theorem totS_bd (ss : List ByteArray) (h : (catS ss).length ≤ 140737488355328) : 0 ≤ totS ss ∧ totS ss ≤ 9223372036854775807 := by
  have := ws_bd true (catS ss); unfold totS; omega
/-- The bytes of the first k pieces are not too many. -/
theorem cat_bound (ss : List ByteArray) (h : ∀ s ∈ ss, s.size ≤ 140737488355328) (k : Nat) (hk : k ≤ ss.length) : (catS (ss.take k)).length ≤ k * 140737488355328 := by
  induction k with
  | zero => simp [catS]
  | succ k ih =>
    rw [take_snocS ss k (by omega), catS_snoc, List.length_append]
    have hm : ss.getD k ByteArray.empty ∈ ss := by
      have hl : k < ss.length := by omega
      simp [List.getD, List.getElem?_eq_getElem hl]
    have := h _ hm
    have := ih (by omega)
    have e : (ss.getD k ByteArray.empty).size = (ss.getD k ByteArray.empty).data.toList.length := by simp
    omega

/-! ### Pseudo, Seal -/
def pseuB (f t p l : Int) : Bool := !outB f 0 4294967295 && !outB t 0 4294967295 && !outB p 0 255 && !outB l 0 65535
def pseuV (f t p l : Int) : ByteArray := if pseuB f t p l = true then txt f 4 ++ txt t 4 ++ txt p 2 ++ txt l 2 else noS

def headS (s : ByteArray) (o : Int) : ByteArray := s.extract 0 o.toNat
def tailS (s : ByteArray) (o : Int) : ByteArray := s.extract (o + 2).toNat s.size
def placeB (z : Nat) (o : Int) : Bool := decide (0 ≤ o ∧ o % 2 = 0 ∧ o ≤ (z : Int) - 2)
def sealC (s : ByteArray) (o : Int) : Int := if placeB s.size o = true then (if s.size ≤ 65536 then 0 else 2) else 1
def sealS (s : ByteArray) (o : Int) : ByteArray := headS s o ++ txt (missV (totS [headS s o, tailS s o])) 2 ++ tailS s o
def sealV (s : ByteArray) (o : Int) : ByteArray := if placeB s.size o = true then (if s.size ≤ 65536 then sealS s o else noS) else noS
theorem headS_size (s : ByteArray) (o : Int) (h0 : 0 ≤ o) (h1 : o ≤ (s.size : Int) - 2) : (headS s o).size = o.toNat := by
  unfold headS; rw [ByteArray.size_extract]; omega
theorem tailS_size (s : ByteArray) (o : Int) (h0 : 0 ≤ o) (h1 : o ≤ (s.size : Int) - 2) : (tailS s o).size = s.size - (o + 2).toNat := by
  unfold tailS; rw [ByteArray.size_extract]; omega
theorem ba_toList {a b : ByteArray} (h : a.data.toList = b.data.toList) : a = b := ByteArray.ext (Array.ext' h)
theorem app_toList (a b : ByteArray) : (a ++ b).data.toList = a.data.toList ++ b.data.toList := by rw [ByteArray.data_append, Array.toList_append]
theorem ext_toList (s : ByteArray) (a b : Nat) : (s.extract a b).data.toList = (s.data.toList.drop a).take (b - a) := by simp
theorem len_toList (s : ByteArray) : s.data.toList.length = s.size := by simp
theorem mid_head (A M B : ByteArray) : (A ++ M ++ B).extract 0 A.size = A := by
  apply ba_toList
  rw [ext_toList, app_toList, app_toList, List.drop_zero, Nat.sub_zero, List.append_assoc, ← len_toList A, List.take_left]
theorem mid_tail (A M B : ByteArray) (n : Nat) (h : n = A.size + M.size) : (A ++ M ++ B).extract n (A ++ M ++ B).size = B := by
  apply ba_toList
  rw [ext_toList, app_toList, app_toList]
  have e : n = (A.data.toList ++ M.data.toList).length := by rw [List.length_append, len_toList, len_toList]; exact h
  rw [e, List.drop_left, List.take_of_length_le]
  rw [len_toList, ByteArray.size_append, ByteArray.size_append, List.length_append, len_toList, len_toList]
  omega
theorem sum_mid (A B : ByteArray) (h : A.size % 2 = 0) : sumS (A ++ ⟨#[0, 0]⟩ ++ B) = missV (totS [A, B]) := by
  unfold sumS totS
  rw [app_toList, app_toList]
  have e : catS [A, B] = A.data.toList ++ B.data.toList := by simp [catS]
  have ht : turnB true A.data.toList.length = true := by rw [len_toList]; simp [turnB, h]
  rw [e, ws_append true A.data.toList B.data.toList, ht, List.append_assoc, ws_append true A.data.toList, ht]
  simp [ws]

/-! ### Bits -/
theorem and_low (n : Int) : bits .and .i64 n 65535 = n % 65536 := by
  have h16 : (BitVec.ofInt 64 65535).toNat = 2 ^ 16 - 1 := by decide
  have key : (BitVec.ofInt 64 n &&& BitVec.ofInt 64 65535).toNat = (n % ((2 ^ 64 : Nat) : Int)).toNat % 2 ^ 16 := by
    rw [BitVec.toNat_and, BitVec.toNat_ofInt, h16, Nat.and_two_pow_sub_one_eq_mod]
  show IntKind.i64.wrap ((BitVec.ofInt 64 n &&& BitVec.ofInt 64 65535).toNat : Nat) = n % 65536
  rw [key, IntKind.wrap_i64]
  omega
theorem or_low (x b : Int) (h0 : 0 ≤ x) (h1 : x ≤ 1099511627775) (b0 : 0 ≤ b) (b1 : b < 256) : bits .or .i64 (x * 256) b = x * 256 + b := by
  obtain ⟨X, rfl⟩ := Int.eq_ofNat_of_zero_le h0
  obtain ⟨B, rfl⟩ := Int.eq_ofNat_of_zero_le b0
  have e : ((X : Int) * 256) = ((X * 256 : Nat) : Int) := by omega
  have hj := nat_join 8 (X * 256) B (by omega) (by omega)
  rw [e]
  show IntKind.i64.wrap ((BitVec.ofInt 64 ((X * 256 : Nat) : Int) ||| BitVec.ofInt 64 (B : Int)).toNat : Int) = _
  rw [BitVec.toNat_or, ofInt_u64 _ (by omega), ofInt_u64 _ (by omega), hj, IntKind.wrap_i64]
  omega
end Go.Proofs.Ytgjkplkghoeeeaa
