/- The contract of read of package opts for any kind, and plain facts of reading options one behind the other. -/
import Derived.Test.YtecoknenkjgmjabDoorOl
namespace Go.Proofs.YtecoknenkjgmjabDoor
open Go.RowKit
set_option maxRecDepth 100000

def OV (o : Op) (v : Value) : Array Value := #[.int .i64 o.m, .int .i64 o.c, .int .i64 o.t, .int .i64 o.ec, .bool o.sd, .bool o.ok, .bool o.sp, v]
theorem whole_take (l : List UInt8) (k : Nat) (h : l.length = k) : (l.drop 0).take k = l := by rw [List.drop_zero, List.take_of_length_le (by omega)]
theorem read_any (o : Op) (v : Value) (kind : Int) (b : ByteArray) (R0 : Nat) (w : World) (hown : w.ownsRow R0 77 2 v o.rs.length (flatR o.rs)) (hnil : o.rs = [] → v = .slice none 0 0) (hs : b.size ≤ 40) (hf : followsB o kind b.size = true) (hR0 : R0 ≤ w.heap.size) :
    Calls Tryd.prog 62 #[.agg (OV o v), .int .i64 kind, .string b] w fun en w' => ∃ v', en = .returned (.tuple #[.agg (OV (takeO o kind b.data.toList) v'), .bool (saysB kind b.data.toList)]) ∧ w'.ownsRow R0 77 2 v' (takeO o kind b.data.toList).rs.length (flatR (takeO o kind b.data.toList).rs) ∧ ((takeO o kind b.data.toList).rs = [] → v' = .slice none 0 0) ∧ Below w.heap.size w w' := by
  obtain ⟨m, c, t, ec, sd, ok, sp, rs⟩ := o
  have hl : b.data.toList.length = b.size := toList_size b
  unfold followsB at hf
  by_cases h5 : kind = 5
  · subst h5
    rw [if_pos rfl] at hf
    simp only [Bool.and_eq_true, decide_eq_true_eq] at hf
    obtain ⟨⟨h0, h8⟩, hr⟩ := hf
    have hr0 : rs = [] := List.eq_nil_of_length_eq_zero hr
    subst hr0
    obtain rfl := hnil rfl
    have ht : takeO ⟨m, c, t, ec, sd, ok, sp, []⟩ 5 b.data.toList = ⟨m, c, t, ec, sd, ok, sp, pairsL b.data.toList⟩ := by simp [takeO]
    have hsy : saysB 5 b.data.toList = true := by simp [saysB]
    rw [ht, hsy]
    refine (read_5 m c t ec sd ok sp w b hs h0 h8).mono ?_
    rintro en w' ⟨v', rfl, ho, hb⟩
    refine ⟨v', rfl, own_mono ho hR0, fun h => ?_, hb⟩
    have := pairs_len b
    have h' : pairsL b.data.toList = [] := h
    rw [h'] at this
    simp at this
    omega
  rw [if_neg h5] at hf
  obtain ⟨a, cap, hv, -, -⟩ := own_slice hown
  have hv' : v = .slice a rs.length cap := hv
  subst hv'
  by_cases h2 : kind = 2
  · subst h2
    rw [if_pos rfl] at hf
    simp only [Bool.and_eq_true, decide_eq_true_eq] at hf
    have ht : takeO ⟨m, c, t, ec, sd, ok, sp, rs⟩ 2 b.data.toList = ⟨numL b.data.toList, c, t, ec, sd, ok, sp, rs⟩ := by simp [takeO]
    have hsy : saysB 2 b.data.toList = (numL b.data.toList != 0) := by
      simp only [saysB, decide_true, Bool.true_and]; rfl
    rw [ht, hsy]
    have := read_2 m c t ec sd ok sp a cap rs R0 w hown b hf.1
    rw [whole_take _ _ (hl.trans hf.1)] at this
    refine this.mono ?_
    rintro en w' ⟨rfl, ho, hb⟩
    exact ⟨_, rfl, ho, hnil, hb⟩
  rw [if_neg h2] at hf
  have hsy : saysB kind b.data.toList = true := by simp [saysB, h2]
  rw [hsy]
  by_cases h3 : kind = 3
  · subst h3
    rw [if_pos rfl] at hf
    simp only [Bool.and_eq_true, decide_eq_true_eq] at hf
    have ht : takeO ⟨m, c, t, ec, sd, ok, sp, rs⟩ 3 b.data.toList = ⟨m, numL b.data.toList, t, ec, true, ok, sp, rs⟩ := by simp [takeO]
    rw [ht]
    have := read_3 m c t ec sd ok sp a cap rs R0 w hown b hf.1
    rw [whole_take _ _ (hl.trans hf.1)] at this
    refine this.mono ?_
    rintro en w' ⟨rfl, ho, hb⟩
    exact ⟨_, rfl, ho, hnil, hb⟩
  rw [if_neg h3] at hf
  by_cases h4 : kind = 4
  · subst h4
    have ht : takeO ⟨m, c, t, ec, sd, ok, sp, rs⟩ 4 b.data.toList = ⟨m, c, t, ec, sd, true, sp, rs⟩ := by simp [takeO]
    rw [ht]
    refine (read_4 m c t ec sd ok sp a cap rs R0 w hown b).mono ?_
    rintro en w' ⟨rfl, ho, hb⟩
    exact ⟨_, rfl, ho, hnil, hb⟩
  rw [if_neg h4] at hf
  by_cases h8 : kind = 8
  · subst h8
    rw [if_pos rfl] at hf
    simp only [Bool.and_eq_true, decide_eq_true_eq] at hf
    have ht : takeO ⟨m, c, t, ec, sd, ok, sp, rs⟩ 8 b.data.toList = ⟨m, c, numL (b.data.toList.take 4), numL (b.data.toList.drop 4), sd, ok, true, rs⟩ := by simp [takeO]
    rw [ht]
    have := read_8 m c t ec sd ok sp a cap rs R0 w hown b hf.1
    rw [List.drop_zero, List.take_of_length_le (l := b.data.toList.drop 4) (by rw [List.length_drop, hl, hf.1]; omega)] at this
    refine this.mono ?_
    rintro en w' ⟨rfl, ho, hb⟩
    exact ⟨_, rfl, ho, hnil, hb⟩
  have ht : takeO ⟨m, c, t, ec, sd, ok, sp, rs⟩ kind b.data.toList = ⟨m, c, t, ec, sd, ok, sp, rs⟩ := by simp [takeO, h2, h3, h4, h8, h5]
  rw [ht]
  refine (read_x m c t ec sd ok sp a cap rs R0 w hown b kind h2 h3 h4 h8 h5).mono ?_
  rintro en w' ⟨rfl, ho, hb⟩
  exact ⟨_, rfl, ho, hnil, hb⟩

/-- Reading on, byte by byte. -/
def runS (x : ByteArray) (o : Op) : Option Op := runO (x.size + 1) x.data.toList o
def headN (x : ByteArray) : Nat := (x.data.toList.getD 0 0).toNat
theorem byte0 (x : ByteArray) (h : 0 < x.size) : (x[0].toNat : Int) = (headN x : Int) := by
  unfold headN
  have h' : 0 < x.data.toList.length := by simpa using h
  rw [List.getD_eq_getElem?_getD, List.getElem?_eq_getElem h']
  rfl
theorem headN_le (x : ByteArray) : headN x ≤ 255 := by unfold headN; have := (x.data.toList.getD 0 0).toNat_lt; omega
theorem run_nil (x : ByteArray) (o : Op) (h : x.size = 0) : runS x o = some o := by
  unfold runS
  have : x.data.toList = [] := List.eq_nil_of_length_eq_zero (by rw [toList_size, h])
  rw [this, h]; rfl
theorem list_split (x : ByteArray) (h : 0 < x.size) : x.data.toList = x.data.toList.getD 0 0 :: x.data.toList.drop 1 := by
  have h' : 0 < x.data.toList.length := by simpa using h
  cases hx : x.data.toList with
  | nil => rw [hx] at h'; simp at h'
  | cons a l => simp [List.getD]
theorem run_zero (x : ByteArray) (o : Op) (h : 0 < x.size) (h0 : headN x = 0) : runS x o = some o := by
  unfold runS
  rw [list_split x h]
  have e : x.data.toList.getD 0 0 = 0 := UInt8.toNat.inj h0
  rw [e]
  simp [runO]
theorem ext_list (x : ByteArray) (i j : Nat) (_ : j ≤ x.size) : (x.extract i j).data.toList = (x.data.toList.drop i).take (j - i) := by
  rw [ByteArray.data_extract, Array.toList_extract, List.extract_eq_take_drop]
theorem run_one (x : ByteArray) (o : Op) (h : 0 < x.size) (h1 : headN x = 1) : runS x o = runS (x.extract 1 x.size) o := by
  have e : x.data.toList.getD 0 0 = 1 := UInt8.toNat.inj h1
  have hx : (x.extract 1 x.size).data.toList = x.data.toList.drop 1 := by
    rw [ext_list x 1 _ (Nat.le_refl _), List.take_of_length_le (by rw [List.length_drop, toList_size]; exact Nat.le_refl _)]
  unfold runS
  rw [hx]
  conv => lhs; rw [list_split x h, e]
  simp only [runO]
  rw [if_neg (by decide), if_pos trivial]
  refine runO_fuel _ _ _ _ ?_ ?_
  · rw [List.length_drop, toList_size]; omega
  · rw [List.length_drop, toList_size, ByteArray.size_extract]; omega
def nextO (r : Option Op) (y : ByteArray) : Option Op := match r with
  | none => none
  | some o' => runS y o'
def okO (r : Option Op) : Option Op := match r with
  | none => none
  | some o => if o.may = true then some o else none
theorem run_more (x : ByteArray) (o : Op) (h : 0 < x.size) (h0 : headN x ≠ 0) (h1 : headN x ≠ 1) : runS x o = if firstB x = true then nextO (stepO o (headN x : Int) (x.extract 2 (firstN x)).data.toList) (x.extract (firstN x) x.size) else none := by
  have e0 : ¬ x.data.toList.getD 0 0 = 0 := fun e => h0 (by unfold headN; rw [e]; rfl)
  have e1 : ¬ x.data.toList.getD 0 0 = 1 := fun e => h1 (by unfold headN; rw [e]; rfl)
  unfold nextO runS
  conv => lhs; rw [list_split x h]
  simp only [runO]
  rw [if_neg e0, if_neg e1]
  by_cases h2 : 2 ≤ x.size
  · have hd : x.data.toList.drop 1 = x.data.toList.getD 1 0 :: x.data.toList.drop 2 := by
      have h' : 1 < x.data.toList.length := by rw [toList_size]; omega
      rw [List.drop_eq_getElem_cons h']
      congr 1
      rw [List.getD_eq_getElem?_getD, List.getElem?_eq_getElem h']; rfl
    rw [hd]
    simp only
    have hl : (x.data.toList.drop 2).length + 2 = x.size := by rw [List.length_drop, toList_size]; omega
    rw [hl]
    by_cases hf : firstB x = true
    · obtain ⟨-, f1, f2⟩ := of_decide_eq_true (show decide (2 ≤ x.size ∧ 2 ≤ (x.data.toList.getD 1 0).toNat ∧ (x.data.toList.getD 1 0).toNat ≤ x.size) = true from hf)
      rw [if_neg (by omega), if_pos hf]
      have e2 : (x.extract 2 (firstN x)).data.toList = (x.data.toList.drop 2).take ((x.data.toList.getD 1 0).toNat - 2) := ext_list x 2 _ f2
      have e3 : (x.extract (firstN x) x.size).data.toList = (x.data.toList.drop 2).drop ((x.data.toList.getD 1 0).toNat - 2) := by
        rw [ext_list x _ _ (Nat.le_refl _), List.take_of_length_le (by rw [List.length_drop, toList_size]; exact Nat.le_refl _), List.drop_drop]
        congr 1
        show (x.data.toList.getD 1 0).toNat = _
        omega
      rw [e2, e3]
      show (match stepO o (headN x : Int) _ with | none => none | some o' => _) = _
      cases stepO o (headN x : Int) ((x.data.toList.drop 2).take ((x.data.toList.getD 1 0).toNat - 2)) with
      | none => rfl
      | some o' =>
        refine runO_fuel _ _ _ _ ?_ ?_
        · rw [List.length_drop, List.length_drop, toList_size]; omega
        · rw [List.length_drop, List.length_drop, toList_size, ByteArray.size_extract]
          show _ < min x.size x.size - (x.data.toList.getD 1 0).toNat + 1
          omega
    · rw [if_neg hf]
      have hf' := of_decide_eq_false (show decide (2 ≤ x.size ∧ 2 ≤ (x.data.toList.getD 1 0).toNat ∧ (x.data.toList.getD 1 0).toNat ≤ x.size) = false by simpa [firstB] using hf)
      rw [if_pos (by omega)]
  · have hd : x.data.toList.drop 1 = [] := List.drop_eq_nil_of_le (by rw [toList_size]; omega)
    rw [hd]
    rw [if_neg (by unfold firstB; simp; omega)]
theorem decO_s (s : ByteArray) (h : s.size ≤ 40) : decO s.data.toList = okO (runS s Op.zero) := by
  unfold decO runS okO
  rw [if_neg (by rw [toList_size]; omega), runO_fuel 41 s.data.toList Op.zero (s.size + 1) (by rw [toList_size]; omega) (by rw [toList_size]; omega)]
  cases runO (s.size + 1) s.data.toList Op.zero <;> rfl
end Go.Proofs.YtecoknenkjgmjabDoor
