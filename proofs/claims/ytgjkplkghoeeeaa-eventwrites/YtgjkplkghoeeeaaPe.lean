/- Events in plain words: which may be, their bytes, bytes as events. -/
import Derived.Test.YtgjkplkghoeeeaaTxtNum
import Derived.Test.YtgjkplkghoeeeaaPlainD
namespace Go.Proofs.Ytgjkplkghoeeeaa
open Go.RowKit
set_option maxRecDepth 100000
set_option linter.unusedVariables false
set_option linter.unusedSimpArgs false


structure Ev where
  k : Int
  t : Int
  d : ByteArray
abbrev Ev.vs (x : Ev) : Array Value := #[.int .i64 x.k, .int .i64 x.t, .string x.d]
abbrev Ev.v (x : Ev) : Value := .agg #[.int .i64 x.k, .int .i64 x.t, .string x.d]
abbrev zE : Ev := ⟨0, 0, ⟨#[]⟩⟩
def mayE (x : Ev) : Bool := decide (0 ≤ x.t ∧ x.t ≤ 1099511627776 ∧ ((x.k = 1 ∧ x.d.size ≤ 1514) ∨ (x.k = 2 ∧ x.d.size = 0)))
def codeE (x : Ev) : Int := if mayE x = true then 0 else 230
def encE (x : Ev) : ByteArray := txt x.k 1 ++ txt x.t 6 ++ txt x.d.size 2 ++ x.d
def encV (x : Ev) : ByteArray := if mayE x = true then encE x else ⟨#[]⟩
theorem mayE_parts {x : Ev} (h : mayE x = true) : 0 ≤ x.t ∧ x.t ≤ 1099511627776 ∧ ((x.k = 1 ∧ x.d.size ≤ 1514) ∨ (x.k = 2 ∧ x.d.size = 0)) := of_decide_eq_true h
theorem mayE_size {x : Ev} (h : mayE x = true) : x.d.size ≤ 1514 := by obtain ⟨-, -, h | h⟩ := mayE_parts h <;> omega
theorem encE_list (x : Ev) : (encE x).data.toList = txtL x.k 1 ++ (txtL x.t 6 ++ (txtL x.d.size 2 ++ x.d.data.toList)) := by
  unfold encE
  simp only [app_toList, txt_toList, List.append_assoc]
theorem encE_size (x : Ev) : (encE x).size = 9 + x.d.size := by
  unfold encE
  simp only [ByteArray.size_append, txt_size]
theorem empty_of {s : ByteArray} (h : s.size = 0) : s = ⟨#[]⟩ := by
  apply ba_toList
  have := len_toList s
  rw [h] at this
  rw [List.length_eq_zero_iff.1 this]

/-! ### Bytes as events -/
def longS (s : ByteArray) : Int := numS (s.extract 7 9)
def evS (s : ByteArray) : Ev := ⟨numS (s.extract 0 1), numS (s.extract 1 7), s.extract 9 (9 + (longS s).toNat)⟩
def restS (s : ByteArray) : ByteArray := s.extract (9 + (longS s).toNat) s.size
def headB (s : ByteArray) : Bool := decide (9 ≤ s.size ∧ 9 + longS s ≤ (s.size : Int))
def cutB (s : ByteArray) : Bool := headB s && mayE (evS s)
def cutX (s : ByteArray) : Ev := if headB s = true then evS s else zE
def cutR (s : ByteArray) : ByteArray := if headB s = true then restS s else ⟨#[]⟩
def firstX (s : ByteArray) : Ev := if cutB s = true then evS s else zE
def firstN (s : ByteArray) : Int := if cutB s = true then 9 + longS s else 0
def decB (s : ByteArray) : Bool := cutB s && decide ((s.size : Int) = 9 + longS s)
def decV (s : ByteArray) : Ev := if decB s = true then evS s else zE
def decC (s : ByteArray) : Int := if decB s = true then 0 else 230
theorem numS_bd (s : ByteArray) (a b : Nat) (h : b ≤ s.size) (hab : a ≤ b) : 0 ≤ numS (s.extract a b) ∧ numS (s.extract a b) < 256 ^ (b - a) := by
  have := numL_bd (s.extract a b).data.toList
  unfold numS
  rw [len_toList, ByteArray.size_extract, Nat.min_eq_left h] at this
  exact this
theorem longS_bd (s : ByteArray) (h : 9 ≤ s.size) : 0 ≤ longS s ∧ longS s ≤ 65535 := by
  have := numS_bd s 7 9 h (by decide)
  unfold longS
  omega
theorem headB_parts {s : ByteArray} (h : headB s = true) : 9 ≤ s.size ∧ 0 ≤ longS s ∧ longS s ≤ 65535 ∧ 9 + (longS s).toNat ≤ s.size := by
  obtain ⟨h1, h2⟩ := of_decide_eq_true h
  have := longS_bd s h1
  exact ⟨h1, this.1, this.2, by omega⟩
theorem cutB_parts {s : ByteArray} (h : cutB s = true) : headB s = true ∧ mayE (evS s) = true := by
  unfold cutB at h
  simpa using h
theorem restS_size {s : ByteArray} (h : headB s = true) : (restS s).size = s.size - (9 + (longS s).toNat) := by
  unfold restS
  rw [ByteArray.size_extract]
  omega
theorem evS_size {s : ByteArray} (h : headB s = true) : (evS s).d.size = (longS s).toNat := by
  have := headB_parts h
  show (s.extract 9 (9 + (longS s).toNat)).size = _
  rw [ByteArray.size_extract]
  omega
/-- The bytes of what bytes begin with, and what lies behind: just these bytes. -/
theorem enc_cut {s : ByteArray} (h : headB s = true) : encE (evS s) ++ restS s = s := by
  obtain ⟨h1, h2, h3, h4⟩ := headB_parts h
  apply ba_toList
  have hl := len_toList s
  rw [app_toList, encE_list, show (evS s).k = numS (s.extract 0 1) from rfl, show (evS s).t = numS (s.extract 1 7) from rfl, txt_at s 1 0 1 rfl (by omega), txt_at s 6 1 7 rfl (by omega), evS_size h, show (((longS s).toNat : Nat) : Int) = numS (s.extract 7 9) by rw [show numS (s.extract 7 9) = longS s from rfl]; omega, txt_at s 2 7 9 rfl (by omega), show (evS s).d = s.extract 9 (9 + (longS s).toNat) from rfl, restS, ext_toList, ext_toList]
  generalize (longS s).toNat = n at *
  generalize s.data.toList = l at *
  rw [show 9 + n - 9 = n by omega, ← hl]
  have e1 := cut_join l 7 2 n
  have e2 := cut_join l 1 6 (2 + n)
  have e3 := cut_join l 0 1 (6 + (2 + n))
  rw [Nat.zero_add] at e3
  have e4 := cut_join l 0 (9 + n) (l.length - (9 + n))
  rw [Nat.zero_add] at e4
  simp only [Nat.reduceAdd] at e1 e2 e3
  rw [e1, e2, e3, show 1 + (6 + (2 + n)) = 9 + n by omega, e4, List.drop_zero]
  exact List.take_of_length_le (by omega)
/-- The bytes of one that may be, and more: that one, and what lies behind. -/
theorem cut_enc {x : Ev} (h : mayE x = true) (r : ByteArray) : headB (encE x ++ r) = true ∧ evS (encE x ++ r) = x ∧ restS (encE x ++ r) = r ∧ longS (encE x ++ r) = x.d.size := by
  obtain ⟨t0, t1, hk⟩ := mayE_parts h
  have hz := mayE_size h
  have hs : (encE x ++ r).size = 9 + x.d.size + r.size := by rw [ByteArray.size_append, encE_size]
  have hl : (encE x ++ r).data.toList = txtL x.k 1 ++ (txtL x.t 6 ++ (txtL x.d.size 2 ++ (x.d.data.toList ++ r.data.toList))) := by
    rw [app_toList, encE_list]
    simp only [List.append_assoc]
  have n2 : longS (encE x ++ r) = x.d.size := by
    refine num_at _ (txtL x.k 1 ++ txtL x.t 6) (x.d.data.toList ++ r.data.toList) _ 2 7 9 ?_ ?_ rfl (by omega) (by omega)
    · rw [hl]; simp only [List.append_assoc]
    · rw [List.length_append, txtL_len, txtL_len]
  have n0 : numS ((encE x ++ r).extract 0 1) = x.k := by
    refine num_at _ [] (txtL x.t 6 ++ (txtL x.d.size 2 ++ (x.d.data.toList ++ r.data.toList))) _ 1 0 1 ?_ rfl rfl (by omega) (by omega)
    rw [hl]; simp only [List.append_assoc, List.nil_append]
  have n1 : numS ((encE x ++ r).extract 1 7) = x.t := by
    refine num_at _ (txtL x.k 1) (txtL x.d.size 2 ++ (x.d.data.toList ++ r.data.toList)) _ 6 1 7 ?_ (txtL_len _ _) rfl (by omega) (by omega)
    rw [hl]
  have hp : (txtL x.k 1 ++ (txtL x.t 6 ++ txtL x.d.size 2)).length = 9 := by simp only [List.length_append, txtL_len]
  have hl' : (encE x ++ r).data.toList = (txtL x.k 1 ++ (txtL x.t 6 ++ txtL x.d.size 2)) ++ (x.d.data.toList ++ r.data.toList) := by
    rw [hl]; simp only [List.append_assoc]
  have hd : (encE x ++ r).extract 9 (9 + x.d.size) = x.d := by
    apply ba_toList
    rw [ext_toList, hl', List.drop_left' hp, List.take_left' (by rw [len_toList]; omega)]
  have hr : (encE x ++ r).extract (9 + x.d.size) (encE x ++ r).size = r := by
    apply ba_toList
    rw [ext_toList, hl', ← List.drop_drop, List.drop_left' hp, List.drop_left' (by rw [len_toList]), hs]
    exact List.take_of_length_le (by rw [len_toList]; omega)
  refine ⟨decide_eq_true (by rw [n2, hs]; omega), ?_, ?_, n2⟩
  · unfold evS
    rw [n0, n1, n2, Int.toNat_natCast, hd]
  · unfold restS
    rw [n2, Int.toNat_natCast, hr]
theorem cutB_enc {x : Ev} (h : mayE x = true) (r : ByteArray) : cutB (encE x ++ r) = true := by
  obtain ⟨h1, h2, -⟩ := cut_enc h r
  unfold cutB
  rw [h1, h2, h]
  rfl
theorem dec_enc {x : Ev} (h : mayE x = true) : decB (encE x) = true ∧ evS (encE x) = x := by
  have e := cut_enc h ⟨#[]⟩
  have c := cutB_enc h ⟨#[]⟩
  rw [app_nil] at e c
  obtain ⟨h1, h2, h3, h4⟩ := e
  refine ⟨?_, h2⟩
  unfold decB
  rw [c, h4, encE_size]
  simp
theorem enc_dec {s : ByteArray} (h : decB s = true) : mayE (evS s) = true ∧ encE (evS s) = s := by
  unfold decB at h
  rw [Bool.and_eq_true] at h
  obtain ⟨h1, h2⟩ := h
  have h2 := of_decide_eq_true h2
  obtain ⟨h3, h4⟩ := cutB_parts h1
  refine ⟨h4, ?_⟩
  have e := enc_cut h3
  have hz := restS_size h3
  have := headB_parts h3
  rw [empty_of (s := restS s) (by omega), app_nil] at e
  exact e

/-! ### Bytes as many events, one behind the other -/
def partsF : Nat → ByteArray → Option (List Ev)
  | 0, s => if s.size = 0 then some [] else none
  | n + 1, s => if s.size = 0 then some [] else if cutB s = true then (partsF n (restS s)).map (evS s :: ·) else none
def catE (l : List Ev) : ByteArray := l.foldl (fun a x => a ++ encE x) ⟨#[]⟩
theorem catE_snoc (l : List Ev) (x : Ev) : catE (l ++ [x]) = catE l ++ encE x := by simp [catE]
theorem catE_cons (x : Ev) (l : List Ev) : catE (x :: l) = encE x ++ catE l := by
  have h : ∀ (l : List Ev) (a b : ByteArray), l.foldl (fun a x => a ++ encE x) (a ++ b) = a ++ l.foldl (fun a x => a ++ encE x) b := by
    intro l
    induction l with
    | nil => intro a b; rfl
    | cons y r ih => intro a b; rw [List.foldl_cons, List.foldl_cons, ByteArray.append_assoc, ih]
  have := h l (encE x) ⟨#[]⟩
  rw [app_nil] at this
  show List.foldl _ (⟨#[]⟩ ++ encE x) l = _
  rw [show (⟨#[]⟩ ++ encE x : ByteArray) = encE x from by apply ba_toList; rw [app_toList]; rfl, this]
  rfl
theorem catE_size_cons (x : Ev) (l : List Ev) : (catE (x :: l)).size = 9 + x.d.size + (catE l).size := by rw [catE_cons, ByteArray.size_append, encE_size]
/-- Bytes of events one behind the other are these events. -/
theorem parts_cat : ∀ (l : List Ev) (n : Nat), (∀ x ∈ l, mayE x = true) → (catE l).size ≤ n → partsF n (catE l) = some l
  | [], 0, _, _ => rfl
  | [], n + 1, _, _ => rfl
  | x :: l, 0, _, h => by rw [catE_size_cons] at h; omega
  | x :: l, n + 1, hm, h => by
    have hx := hm x List.mem_cons_self
    obtain ⟨h1, h2, h3, h4⟩ := cut_enc hx (catE l)
    have hc := cutB_enc hx (catE l)
    have hz := catE_size_cons x l
    rw [catE_cons] at h ⊢
    rw [ByteArray.size_append, encE_size] at h
    unfold partsF
    rw [if_neg (by rw [ByteArray.size_append, encE_size]; omega), if_pos hc, h2, h3, parts_cat l n (fun y hy => hm y (List.mem_cons_of_mem _ hy)) (by omega)]
    rfl
def partsL (s : ByteArray) : Option (List Ev) := if s.size ≤ 65536 then partsF s.size s else none
def listP (s : ByteArray) : List Ev := (partsL s).getD []
def codeP (s : ByteArray) : Int := if s.size ≤ 65536 then (if (partsL s).isSome then 0 else 230) else 2
theorem parts_some {s : ByteArray} (hz : s.size ≤ 65536) {xs : List Ev} (e : partsF s.size s = some xs) : codeP s = 0 ∧ listP s = xs := by
  unfold codeP listP partsL
  rw [if_pos hz, if_pos hz, e]
  exact ⟨rfl, rfl⟩
theorem parts_none {s : ByteArray} (hz : s.size ≤ 65536) (e : partsF s.size s = none) : codeP s = 230 ∧ listP s = [] := by
  unfold codeP listP partsL
  rw [if_pos hz, if_pos hz, e]
  exact ⟨rfl, rfl⟩
theorem parts_long {s : ByteArray} (hz : ¬ s.size ≤ 65536) : codeP s = 2 ∧ listP s = [] := by
  unfold codeP listP partsL
  rw [if_neg hz, if_neg hz]
  exact ⟨rfl, rfl⟩
theorem parts_of_cat {l : List Ev} (hm : ∀ x ∈ l, mayE x = true) (hz : (catE l).size ≤ 65536) : listP (catE l) = l ∧ codeP (catE l) = 0 := by
  have e : partsL (catE l) = some l := by unfold partsL; rw [if_pos hz, parts_cat l _ hm (Nat.le_refl _)]
  refine ⟨by unfold listP; rw [e]; rfl, by unfold codeP; rw [if_pos hz, e]; rfl⟩

/-! ### A log's bytes -/
def takeN (most : Int) : Nat → Bool → List Ev → Nat
  | _, _, [] => 0
  | a, f, x :: l => if f = false ∧ most < ((a + (encE x).size : Nat) : Int) then 0 else 1 + takeN most (a + (encE x).size) false l
theorem takeN_le (most : Int) : ∀ (l : List Ev) (a : Nat) (f : Bool), takeN most a f l ≤ l.length
  | [], a, f => Nat.le_refl _
  | x :: l, a, f => by
    unfold takeN
    have := takeN_le most l (a + (encE x).size) false
    split <;> simp <;> omega
def fromV (a : Int) : Int := max a 1
def byN (l : List Ev) (a most : Int) : Nat := takeN most 0 true (l.drop (fromV a - 1).toNat)
def byS (l : List Ev) (a most : Int) : ByteArray := catE ((l.drop (fromV a - 1).toNat).take (byN l a most))
/-- Where a log's bytes begin, as a place. -/
theorem fromV_nat (a : Int) : ∃ D : Nat, fromV a = (D : Int) + 1 ∧ max a 1 = (D : Int) + 1 ∧ max 1 a = (D : Int) + 1 := by
  refine ⟨(fromV a - 1).toNat, ?_, ?_, ?_⟩
  · unfold fromV; rw [Int.max_def]; split <;> omega
  · unfold fromV; rw [Int.max_def]; split <;> omega
  · rw [Int.max_comm]; unfold fromV; rw [Int.max_def]; split <;> omega
theorem takeE_snoc {l : List Ev} {j : Nat} {x : Ev} (h : l[j]? = some x) : l.take (j + 1) = l.take j ++ [x] := by rw [List.take_add_one, h]; rfl
theorem dropE {l : List Ev} {j : Nat} {x : Ev} (h : l[j]? = some x) : l.drop j = x :: l.drop (j + 1) := by
  obtain ⟨h1, rfl⟩ := List.getElem?_eq_some_iff.1 h
  exact List.drop_eq_getElem_cons h1
theorem catE_take {l : List Ev} {j : Nat} {x : Ev} (h : l[j]? = some x) : catE (l.take (j + 1)) = catE (l.take j) ++ encE x := by rw [takeE_snoc h, catE_snoc]
theorem takeN_stop {most : Int} {l : List Ev} {j : Nat} {x : Ev} {a : Nat} (h : l[j]? = some x) (hm : most < ((a + (encE x).size : Nat) : Int)) : takeN most a false (l.drop j) = 0 := by
  rw [dropE h]; unfold takeN; rw [if_pos ⟨rfl, hm⟩]
theorem takeN_first {most : Int} {l : List Ev} {j : Nat} {x : Ev} {a : Nat} (h : l[j]? = some x) : takeN most a true (l.drop j) = 1 + takeN most (a + (encE x).size) false (l.drop (j + 1)) := by
  rw [dropE h]; conv => lhs; unfold takeN
  rw [if_neg (by simp)]
theorem takeN_step {most : Int} {l : List Ev} {j : Nat} {x : Ev} {a : Nat} (h : l[j]? = some x) (hm : ¬ most < ((a + (encE x).size : Nat) : Int)) : takeN most a false (l.drop j) = 1 + takeN most (a + (encE x).size) false (l.drop (j + 1)) := by
  rw [dropE h]; conv => lhs; unfold takeN
  rw [if_neg (fun h => hm h.2)]
theorem takeN_end {most : Int} {l : List Ev} {j : Nat} {a : Nat} {f : Bool} (h : l.length ≤ j) : takeN most a f (l.drop j) = 0 := by
  rw [List.drop_eq_nil_of_le h]; rfl
def getE (l : List Ev) (i : Int) : Ev := if 1 ≤ i ∧ i ≤ (l.length : Int) then l.getD (i - 1).toNat zE else zE
def getC (l : List Ev) (i : Int) : Int := if 1 ≤ i ∧ i ≤ (l.length : Int) then 0 else 5
def nowE (l : List Ev) : Int := match l.getLast? with | some x => x.t | none => 0
end Go.Proofs.Ytgjkplkghoeeeaa
