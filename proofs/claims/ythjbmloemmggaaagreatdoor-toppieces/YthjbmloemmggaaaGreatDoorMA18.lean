/- the texts Om, On, in part, merged by program -/
import Derived.Test.YthjbmloemmggaaaGreatDoorRows
import Derived.WalkKit
import Derived.WalkSpells
import Derived.RegionTactic
import Derived.Below
import Derived.Laws.OwnMore
import Derived.Laws.AppendOwn
import Derived.Laws.AppendOwnNone
import Derived.Deep.LoopGhost
import Derived.Lib.Repeat
import Derived.Deep.RegionHeld3
import Derived.Deep.QuietTactic
import Derived.BigQuiet
import Derived.WalkSmall
import Derived.Laws.StructEq
import Derived.BigRegion
import Derived.Deep.Light
import Derived.Test.YthjbmloemmggaaaGreatDoorMA01
import Derived.Test.YthjbmloemmggaaaGreatDoorMA02
import Derived.Test.YthjbmloemmggaaaGreatDoorMA16
import Derived.Test.YthjbmloemmggaaaGreatDoorMA17
namespace Go.Proofs.YthjbmloemmggaaaGreatDoor
open Go.RowKit
set_option maxRecDepth 100000

def OV (o : Op) (v : Value) : Array Value := #[.int .i64 o.m, .int .i64 o.c, .int .i64 o.t, .int .i64 o.ec, .bool o.sd, .bool o.ok, .bool o.sp, v]
theorem whole_take (l : List UInt8) (k : Nat) (h : l.length = k) : (l.drop 0).take k = l := by rw [List.drop_zero, List.take_of_length_le (by omega)]
theorem read_any (o : Op) (v : Value) (kind : Int) (b : ByteArray) (R0 : Nat) (w : World) (hown : w.ownsRow R0 180 2 v o.rs.length (flatR o.rs)) (hnil : o.rs = [] → v = .slice none 0 0) (hs : b.size ≤ 40) (hf : followsB o kind b.size = true) (hR0 : R0 ≤ w.heap.size) :
    Calls Tryz.prog 104 #[.agg (OV o v), .int .i64 kind, .string b] w fun en w' => ∃ v', en = .returned (.tuple #[.agg (OV (takeO o kind b.data.toList) v'), .bool (saysB kind b.data.toList)]) ∧ w'.ownsRow R0 180 2 v' (takeO o kind b.data.toList).rs.length (flatR (takeO o kind b.data.toList).rs) ∧ ((takeO o kind b.data.toList).rs = [] → v' = .slice none 0 0) ∧ Below w.heap.size w w' := by
  obtain ⟨m, c, t, ec, sd, ok, sp, rs⟩ := o
  have hl : b.data.toList.length = b.size := toList_size b
  unfold followsB at hf
  by_cases h5 : kind = 5
  · subst h5
    rw [if_pos rfl] at hf
    simp only [Bool.and_eq_true, decide_eq_true_eq] at hf
    obtain ⟨⟨h0, h8⟩, hr⟩ := hf
    have hr0 : rs = [] := List.eq_nil_of_length_eq_zero hr
    subst hr0
    obtain rfl := hnil rfl
    have ht : takeO ⟨m, c, t, ec, sd, ok, sp, []⟩ 5 b.data.toList = ⟨m, c, t, ec, sd, ok, sp, pairsL b.data.toList⟩ := by simp [takeO]
    have hsy : saysB 5 b.data.toList = true := by simp [saysB]
    rw [ht, hsy]
    refine (read_5 m c t ec sd ok sp w b hs h0 h8).mono ?_
    rintro en w' ⟨v', rfl, ho, hb⟩
    refine ⟨v', rfl, own_mono ho hR0, fun h => ?_, hb⟩
    have := pairs_len b
    have h' : pairsL b.data.toList = [] := h
    rw [h'] at this
    simp at this
    omega
  rw [if_neg h5] at hf
  obtain ⟨a, cap, hv, -, -⟩ := own_slice hown
  have hv' : v = .slice a rs.length cap := hv
  subst hv'
  by_cases h2 : kind = 2
  · subst h2
    rw [if_pos rfl] at hf
    simp only [Bool.and_eq_true, decide_eq_true_eq] at hf
    have ht : takeO ⟨m, c, t, ec, sd, ok, sp, rs⟩ 2 b.data.toList = ⟨numL b.data.toList, c, t, ec, sd, ok, sp, rs⟩ := by simp [takeO]
    have hsy : saysB 2 b.data.toList = (numL b.data.toList != 0) := by
      simp only [saysB, decide_true, Bool.true_and]; rfl
    rw [ht, hsy]
    have := read_2 m c t ec sd ok sp a cap rs R0 w hown b hf.1
    rw [whole_take _ _ (hl.trans hf.1)] at this
    refine this.mono ?_
    rintro en w' ⟨rfl, ho, hb⟩
    exact ⟨_, rfl, ho, hnil, hb⟩
  rw [if_neg h2] at hf
  have hsy : saysB kind b.data.toList = true := by simp [saysB, h2]
  rw [hsy]
  by_cases h3 : kind = 3
  · subst h3
    rw [if_pos rfl] at hf
    simp only [Bool.and_eq_true, decide_eq_true_eq] at hf
    have ht : takeO ⟨m, c, t, ec, sd, ok, sp, rs⟩ 3 b.data.toList = ⟨m, numL b.data.toList, t, ec, true, ok, sp, rs⟩ := by simp [takeO]
    rw [ht]
    have := read_3 m c t ec sd ok sp a cap rs R0 w hown b hf.1
    rw [whole_take _ _ (hl.trans hf.1)] at this
    refine this.mono ?_
    rintro en w' ⟨rfl, ho, hb⟩
    exact ⟨_, rfl, ho, hnil, hb⟩
  rw [if_neg h3] at hf
  by_cases h4 : kind = 4
  · subst h4
    have ht : takeO ⟨m, c, t, ec, sd, ok, sp, rs⟩ 4 b.data.toList = ⟨m, c, t, ec, sd, true, sp, rs⟩ := by simp [takeO]
    rw [ht]
    refine (read_4 m c t ec sd ok sp a cap rs R0 w hown b).mono ?_
    rintro en w' ⟨rfl, ho, hb⟩
    exact ⟨_, rfl, ho, hnil, hb⟩
  rw [if_neg h4] at hf
  by_cases h8 : kind = 8
  · subst h8
    rw [if_pos rfl] at hf
    simp only [Bool.and_eq_true, decide_eq_true_eq] at hf
    have ht : takeO ⟨m, c, t, ec, sd, ok, sp, rs⟩ 8 b.data.toList = ⟨m, c, numL (b.data.toList.take 4), numL (b.data.toList.drop 4), sd, ok, true, rs⟩ := by simp [takeO]
    rw [ht]
    have := read_8 m c t ec sd ok sp a cap rs R0 w hown b hf.1
    rw [List.drop_zero, List.take_of_length_le (l := b.data.toList.drop 4) (by rw [List.length_drop, hl, hf.1]; omega)] at this
    refine this.mono ?_
    rintro en w' ⟨rfl, ho, hb⟩
    exact ⟨_, rfl, ho, hnil, hb⟩
  have ht : takeO ⟨m, c, t, ec, sd, ok, sp, rs⟩ kind b.data.toList = ⟨m, c, t, ec, sd, ok, sp, rs⟩ := by simp [takeO, h2, h3, h4, h8, h5]
  rw [ht]
  refine (read_x m c t ec sd ok sp a cap rs R0 w hown b kind h2 h3 h4 h8 h5).mono ?_
  rintro en w' ⟨rfl, ho, hb⟩
  exact ⟨_, rfl, ho, hnil, hb⟩

def runS (x : ByteArray) (o : Op) : Option Op := runO (x.size + 1) x.data.toList o
def headN (x : ByteArray) : Nat := (x.data.toList.getD 0 0).toNat
theorem byte0 (x : ByteArray) (h : 0 < x.size) : (x[0].toNat : Int) = (headN x : Int) := by
  unfold headN
  have h' : 0 < x.data.toList.length := by simpa using h
  rw [List.getD_eq_getElem?_getD, List.getElem?_eq_getElem h']
  rfl
theorem headN_le (x : ByteArray) : headN x ≤ 255 := by unfold headN; have := (x.data.toList.getD 0 0).toNat_lt; omega
theorem run_nil (x : ByteArray) (o : Op) (h : x.size = 0) : runS x o = some o := by
  unfold runS
  have : x.data.toList = [] := List.eq_nil_of_length_eq_zero (by rw [toList_size, h])
  rw [this, h]; rfl
theorem list_split (x : ByteArray) (h : 0 < x.size) : x.data.toList = x.data.toList.getD 0 0 :: x.data.toList.drop 1 := by
  have h' : 0 < x.data.toList.length := by simpa using h
  cases hx : x.data.toList with
  | nil => rw [hx] at h'; simp at h'
  | cons a l => simp [List.getD]
theorem run_zero (x : ByteArray) (o : Op) (h : 0 < x.size) (h0 : headN x = 0) : runS x o = some o := by
  unfold runS
  rw [list_split x h]
  have e : x.data.toList.getD 0 0 = 0 := UInt8.toNat.inj h0
  rw [e]
  simp [runO]
theorem ext_list (x : ByteArray) (i j : Nat) (_ : j ≤ x.size) : (x.extract i j).data.toList = (x.data.toList.drop i).take (j - i) := by
  rw [ByteArray.data_extract, Array.toList_extract, List.extract_eq_take_drop]
theorem run_one (x : ByteArray) (o : Op) (h : 0 < x.size) (h1 : headN x = 1) : runS x o = runS (x.extract 1 x.size) o := by
  have e : x.data.toList.getD 0 0 = 1 := UInt8.toNat.inj h1
  have hx : (x.extract 1 x.size).data.toList = x.data.toList.drop 1 := by
    rw [ext_list x 1 _ (Nat.le_refl _), List.take_of_length_le (by rw [List.length_drop, toList_size]; exact Nat.le_refl _)]
  unfold runS
  rw [hx]
  conv => lhs; rw [list_split x h, e]
  simp only [runO]
  rw [if_neg (by decide), if_pos trivial]
  refine runO_fuel _ _ _ _ ?_ ?_
  · rw [List.length_drop, toList_size]; omega
  · rw [List.length_drop, toList_size, ByteArray.size_extract]; omega
def nextO (r : Option Op) (y : ByteArray) : Option Op := match r with
  | none => none
  | some o' => runS y o'
def okO (r : Option Op) : Option Op := match r with
  | none => none
  | some o => if o.may = true then some o else none
theorem run_more (x : ByteArray) (o : Op) (h : 0 < x.size) (h0 : headN x ≠ 0) (h1 : headN x ≠ 1) : runS x o = if firstB x = true then nextO (stepO o (headN x : Int) (x.extract 2 (firstN x)).data.toList) (x.extract (firstN x) x.size) else none := by
  have e0 : ¬ x.data.toList.getD 0 0 = 0 := fun e => h0 (by unfold headN; rw [e]; rfl)
  have e1 : ¬ x.data.toList.getD 0 0 = 1 := fun e => h1 (by unfold headN; rw [e]; rfl)
  unfold nextO runS
  conv => lhs; rw [list_split x h]
  simp only [runO]
  rw [if_neg e0, if_neg e1]
  by_cases h2 : 2 ≤ x.size
  · have hd : x.data.toList.drop 1 = x.data.toList.getD 1 0 :: x.data.toList.drop 2 := by
      have h' : 1 < x.data.toList.length := by rw [toList_size]; omega
      rw [List.drop_eq_getElem_cons h']
      congr 1
      rw [List.getD_eq_getElem?_getD, List.getElem?_eq_getElem h']; rfl
    rw [hd]
    simp only
    have hl : (x.data.toList.drop 2).length + 2 = x.size := by rw [List.length_drop, toList_size]; omega
    rw [hl]
    by_cases hf : firstB x = true
    · obtain ⟨-, f1, f2⟩ := of_decide_eq_true (show decide (2 ≤ x.size ∧ 2 ≤ (x.data.toList.getD 1 0).toNat ∧ (x.data.toList.getD 1 0).toNat ≤ x.size) = true from hf)
      rw [if_neg (by omega), if_pos hf]
      have e2 : (x.extract 2 (firstN x)).data.toList = (x.data.toList.drop 2).take ((x.data.toList.getD 1 0).toNat - 2) := ext_list x 2 _ f2
      have e3 : (x.extract (firstN x) x.size).data.toList = (x.data.toList.drop 2).drop ((x.data.toList.getD 1 0).toNat - 2) := by
        rw [ext_list x _ _ (Nat.le_refl _), List.take_of_length_le (by rw [List.length_drop, toList_size]; exact Nat.le_refl _), List.drop_drop]
        congr 1
        show (x.data.toList.getD 1 0).toNat = _
        omega
      rw [e2, e3]
      show (match stepO o (headN x : Int) _ with | none => none | some o' => _) = _
      cases stepO o (headN x : Int) ((x.data.toList.drop 2).take ((x.data.toList.getD 1 0).toNat - 2)) with
      | none => rfl
      | some o' =>
        refine runO_fuel _ _ _ _ ?_ ?_
        · rw [List.length_drop, List.length_drop, toList_size]; omega
        · rw [List.length_drop, List.length_drop, toList_size, ByteArray.size_extract]
          show _ < min x.size x.size - (x.data.toList.getD 1 0).toNat + 1
          omega
    · rw [if_neg hf]
      have hf' := of_decide_eq_false (show decide (2 ≤ x.size ∧ 2 ≤ (x.data.toList.getD 1 0).toNat ∧ (x.data.toList.getD 1 0).toNat ≤ x.size) = false by simpa [firstB] using hf)
      rw [if_pos (by omega)]
  · have hd : x.data.toList.drop 1 = [] := List.drop_eq_nil_of_le (by rw [toList_size]; omega)
    rw [hd]
    rw [if_neg (by unfold firstB; simp; omega)]
theorem decO_s (s : ByteArray) (h : s.size ≤ 40) : decO s.data.toList = okO (runS s Op.zero) := by
  unfold decO runS okO
  rw [if_neg (by rw [toList_size]; omega), runO_fuel 41 s.data.toList Op.zero (s.size + 1) (by rw [toList_size]; omega) (by rw [toList_size]; omega)]
  all_goals (cases runO (s.size + 1) s.data.toList Op.zero <;> rfl)
end Go.Proofs.YthjbmloemmggaaaGreatDoor

namespace Go.Proofs.YthjbmloemmggaaaGreatDoor
open Go.RowKit
set_option maxRecDepth 100000

def szOf : Value → Nat | .string x => x.size | _ => 0
def DecPost (r : Option Op) (w : World) (en : Ending) (w' : World) : Prop := match r with
  | none => en = .returned (.tuple #[.agg #[.int .i64 0, .int .i64 0, .int .i64 0, .int .i64 0, .bool false, .bool false, .bool false, .slice none 0 0], .int .i64 70]) ∧ Below w.heap.size w w'
  | some o => ∃ v, en = .returned (.tuple #[.agg (OV o v), .int .i64 0]) ∧ w'.ownsRow w.heap.size 180 2 v o.rs.length (flatR o.rs) ∧ Below w.heap.size w w'
theorem ne_empty (x : ByteArray) (h : 0 < x.size) : x.toList.isEmpty = false := by
  rw [ByteArray.toList_eq]
  cases e : x.data.toList with
  | nil =>
    have : x.size = 0 := by rw [← toList_size, e]; rfl
    omega
  | cons a l => rfl
set_option maxRecDepth 100000 in
set_option maxHeartbeats 8000000 in
theorem dec_any (s : ByteArray) (w : World) (hG : Ord w) (hs : s.size ≤ 1125899906842624) : Calls Tryz.prog 88 #[.string s] w fun en w' => DecPost (decO s.data.toList) w en w' := by
  have hs' : (s.size : Int) ≤ 1125899906842624 := by omega
  by_cases h40 : 40 < s.size
  · have HD : Hid (decO s.data.toList = none) := by show _ = _; unfold decO; rw [if_pos (by rw [toList_size]; exact h40)]
    have h40' : (40 : Int) < (s.size : Int) := by omega
    go_enter Tryz.func88, Tryz.ntmps88
    go_wp2
    exact bodyPost_ret (v := .tuple #[.agg #[.int .i64 0, .int .i64 0, .int .i64 0, .int .i64 0, .bool false, .bool false, .bool false, .slice none 0 0], .int .i64 70]) (by simp [results, Tryz.results88, go_sem]) rfl (by rw [HD.out]; exact ⟨rfl, bel1 _ _⟩)
  · have hD := decO_s s (by omega)
    obtain ⟨RN, hRN⟩ : ∃ R, R = runS s Op.zero := ⟨_, rfl⟩
    rw [← hRN] at hD
    rw [hD]
    clear hD
    have h40' : ¬ (40 : Int) < (s.size : Int) := by omega
    have hb1 := bel1 w (.cells #[.int .i64 0, .int .i64 0, .int .i64 0, .int .i64 0, .bool false, .bool false, .bool false, .slice none 0 0] 52)
    have hb2 := bel1 (w.alloc (.cells #[.int .i64 0, .int .i64 0, .int .i64 0, .int .i64 0, .bool false, .bool false, .bool false, .slice none 0 0] 52)) (.cells #[.int .i64 0, .int .i64 0, .int .i64 0, .int .i64 0, .bool false, .bool false, .bool false, .slice none 0 0] 52)
    have HST : Hid (Below w.heap.size w ((w.alloc (.cells #[.int .i64 0, .int .i64 0, .int .i64 0, .int .i64 0, .bool false, .bool false, .bool false, .slice none 0 0] 52)).alloc (.cells #[.int .i64 0, .int .i64 0, .int .i64 0, .int .i64 0, .bool false, .bool false, .bool false, .slice none 0 0] 52)) ∧ w.heap.size + 2 ≤ ((w.alloc (.cells #[.int .i64 0, .int .i64 0, .int .i64 0, .int .i64 0, .bool false, .bool false, .bool false, .slice none 0 0] 52)).alloc (.cells #[.int .i64 0, .int .i64 0, .int .i64 0, .int .i64 0, .bool false, .bool false, .bool false, .slice none 0 0] 52)).heap.size ∧ At ((w.alloc (.cells #[.int .i64 0, .int .i64 0, .int .i64 0, .int .i64 0, .bool false, .bool false, .bool false, .slice none 0 0] 52)).alloc (.cells #[.int .i64 0, .int .i64 0, .int .i64 0, .int .i64 0, .bool false, .bool false, .bool false, .slice none 0 0] 52)) w.heap.size #[.int .i64 0, .int .i64 0, .int .i64 0, .int .i64 0, .bool false, .bool false, .bool false, .slice none 0 0] ∧ At ((w.alloc (.cells #[.int .i64 0, .int .i64 0, .int .i64 0, .int .i64 0, .bool false, .bool false, .bool false, .slice none 0 0] 52)).alloc (.cells #[.int .i64 0, .int .i64 0, .int .i64 0, .int .i64 0, .bool false, .bool false, .bool false, .slice none 0 0] 52)) (w.heap.size + 1) (OV Op.zero (.slice none 0 0))) := ⟨bt hb1 hb2, by simp, (At.box w #[.int .i64 0, .int .i64 0, .int .i64 0, .int .i64 0, .bool false, .bool false, .bool false, .slice none 0 0] 52).later hb2, At.box2 w (.cells #[.int .i64 0, .int .i64 0, .int .i64 0, .int .i64 0, .bool false, .bool false, .bool false, .slice none 0 0] 52) #[.int .i64 0, .int .i64 0, .int .i64 0, .int .i64 0, .bool false, .bool false, .bool false, .slice none 0 0] 52⟩
    have HRN0 : Hid (RN = runS s Op.zero) := hRN
    have HG : Hid (Ord w) := hG
    clear hb1 hb2 hRN hG h40
    go_enter Tryz.func88, Tryz.ntmps88
    go_wp2
    go_loopw [0] (fun sv W => ∃ (x : ByteArray) (o : Op) (v : Value), sv = .string x ∧ x.size ≤ 40 ∧ runS x o = RN ∧ Below w.heap.size w W ∧ w.heap.size + 2 ≤ W.heap.size ∧ At W w.heap.size #[.int .i64 0, .int .i64 0, .int .i64 0, .int .i64 0, .bool false, .bool false, .bool false, .slice none 0 0] ∧ At W (w.heap.size + 1) (OV o v) ∧ W.ownsRow (w.heap.size + 2) 180 2 v o.rs.length (flatR o.rs) ∧ (o.rs = [] → v = .slice none 0 0) ∧ o.rs.length ≤ 40) (fun sv _ => szOf sv)
    case atStart => exact ⟨s, Op.zero, .slice none 0 0, rfl, by omega, HRN0.out.symm, HST.out.1, HST.out.2.1, HST.out.2.2.1, HST.out.2.2.2, World.ownsRow_nil _ _ _ _, fun _ => rfl, by decide⟩
    case round =>
      obtain ⟨x, o, v, rfl, hx40, hrun, hbl, hsz, hR, hA, hown, hnil, hr40⟩ := hrel
      clear HST HRN0
      obtain ⟨va, vcap, hvv, -, -⟩ := own_slice hown
      subst hvv
      have HRUN : Hid (runS x o = RN) := hrun
      have HOWN : Hid (wr.ownsRow (w.heap.size + 2) 180 2 (Value.slice va o.rs.length vcap) o.rs.length (flatR o.rs)) := hown
      have HNIL : Hid (o.rs = [] → (Value.slice va o.rs.length vcap) = Value.slice none 0 0) := hnil
      have HA : Hid (At wr (w.heap.size + 1) (OV o (Value.slice va o.rs.length vcap))) := hA
      have HR : Hid (At wr w.heap.size #[.int .i64 0, .int .i64 0, .int .i64 0, .int .i64 0, .bool false, .bool false, .bool false, .slice none 0 0]) := hR
      clear hrun hown hnil hA hR
      have hx40' : (x.size : Int) ≤ 40 := by omega
      by_cases hx0 : x.size = 0
      · have hxe : x = ⟨#[]⟩ := by apply ba_toList; exact List.eq_nil_of_length_eq_zero (by rw [toList_size, hx0])
        have HRS : Hid (RN = some o) := by show _ = _; rw [← HRUN.out, run_nil x o hx0]
        subst hxe
        clear HRUN hx0 hx40 hx40'
        obtain ⟨⟨c0, c1, c2, c3, c4, c5, c6, c7⟩, ⟨f0, f1, f2, f3, f4, f5, f6, f7⟩, -⟩ := HA.out.eight
        have hM := may_any o.m o.c o.t o.ec o.sd o.ok o.sp (Value.slice va o.rs.length vcap) o.rs wr (Rgs.of_own HOWN.out) (by omega) (HG.out.later hbl)
        rcases Bool.eq_false_or_eq_true o.may with hm | hm
        · rw [show mayO o.m o.c o.t o.ec o.sd o.ok o.sp o.rs = true from hm] at hM
          have HRN : Hid (okO RN = some o) := by show _ = _; rw [HRS.out]; simp [okO, hm]
          clear hm HRS
          go_wp2_with fail
          refine hM.mono ?_
          rintro en w1 ⟨rfl, hb⟩
          clear c0 c1 c2 c3 c4 c5 c6 c7 f0 f1 f2 f3 f4 f5 f6 f7
          obtain ⟨⟨c0, c1, c2, c3, c4, c5, c6, c7⟩, ⟨f0, f1, f2, f3, f4, f5, f6, f7⟩, -⟩ := (HA.out.later hb).eight
          obtain ⟨⟨r0, r1, r2, r3, r4, r5, r6, r7⟩, ⟨g0, g1, g2, g3, g4, g5, g6, g7⟩, -⟩ := (HR.out.later hb).eight
          go_wp2
          exact bodyPost_ret (v := .tuple #[.agg #[.int .i64 o.m, .int .i64 o.c, .int .i64 o.t, .int .i64 o.ec, .bool o.sd, .bool o.ok, .bool o.sp, (Value.slice va o.rs.length vcap)], .int .i64 0]) (by simp [results, Tryz.results88, go_sem, r0, r1, r2, r3, r4, r5, r6, r7]) rfl (by rw [HRN.out]; exact ⟨_, rfl, own_mono (own_set8 (own_later HOWN.out hb) w.heap.size (by omega) _ _ _ _ _ _ _ _) (by omega), below8 (bt hbl hb) (Nat.le_refl _) _ _ _ _ _ _ _ _⟩)
        · rw [show mayO o.m o.c o.t o.ec o.sd o.ok o.sp o.rs = false from hm] at hM
          have HRN : Hid (okO RN = none) := by show _ = _; rw [HRS.out]; simp [okO, hm]
          clear hm HRS
          go_wp2_with fail
          refine hM.mono ?_
          rintro en w1 ⟨rfl, hb⟩
          clear c0 c1 c2 c3 c4 c5 c6 c7 f0 f1 f2 f3 f4 f5 f6 f7
          obtain ⟨⟨r0, r1, r2, r3, r4, r5, r6, r7⟩, ⟨g0, g1, g2, g3, g4, g5, g6, g7⟩, -⟩ := (HR.out.later hb).eight
          go_wp2
          exact bodyPost_ret (v := .tuple #[.agg #[.int .i64 0, .int .i64 0, .int .i64 0, .int .i64 0, .bool false, .bool false, .bool false, .slice none 0 0], .int .i64 70]) (by simp [results, Tryz.results88, go_sem, r0, r1, r2, r3, r4, r5, r6, r7]) rfl (by rw [HRN.out]; exact ⟨rfl, below8 (bt hbl hb) (Nat.le_refl _) _ _ _ _ _ _ _ _⟩)
      · have hxp : 0 < x.size := by omega
        have hne := ne_empty x hxp
        have hi0 := byte0 x hxp
        have hle0 := headN_le x
        have HZ : Hid (headN x = 0 → runS x o = some o) := run_zero x o hxp
        have HO : Hid (headN x = 1 → runS x o = runS (x.extract 1 x.size) o) := run_one x o hxp
        have HM : Hid (headN x ≠ 0 → headN x ≠ 1 → runS x o = if firstB x = true then nextO (stepO o (headN x : Int) (x.extract 2 (firstN x)).data.toList) (x.extract (firstN x) x.size) else none) := run_more x o hxp
        have HX0 : Hid (0 < x.size) := hxp
        have hxp' : (0 : Int) < (x.size : Int) := by omega
        clear hx0
        obtain ⟨K0, hK0⟩ : ∃ K0, K0 = headN x := ⟨_, rfl⟩
        rw [← hK0] at hi0 hle0 HZ HO HM
        have HK0 : Hid (headN x = K0) := hK0.symm
        clear hK0
        have hle0' : (K0 : Int) ≤ 255 := by omega
        by_cases k0 : K0 = 0
        · subst k0
          have HRS : Hid (RN = some o) := by show _ = _; rw [← HRUN.out, HZ.out rfl]
          clear HRUN HZ HO HM
          obtain ⟨⟨c0, c1, c2, c3, c4, c5, c6, c7⟩, ⟨f0, f1, f2, f3, f4, f5, f6, f7⟩, -⟩ := HA.out.eight
          have hM := may_any o.m o.c o.t o.ec o.sd o.ok o.sp (Value.slice va o.rs.length vcap) o.rs wr (Rgs.of_own HOWN.out) (by omega) (HG.out.later hbl)
          rcases Bool.eq_false_or_eq_true o.may with hm | hm
          · rw [show mayO o.m o.c o.t o.ec o.sd o.ok o.sp o.rs = true from hm] at hM
            have HRN : Hid (okO RN = some o) := by show _ = _; rw [HRS.out]; simp [okO, hm]
            clear hm HRS
            go_wp2_with fail
            refine hM.mono ?_
            rintro en w1 ⟨rfl, hb⟩
            clear c0 c1 c2 c3 c4 c5 c6 c7 f0 f1 f2 f3 f4 f5 f6 f7
            obtain ⟨⟨c0, c1, c2, c3, c4, c5, c6, c7⟩, ⟨f0, f1, f2, f3, f4, f5, f6, f7⟩, -⟩ := (HA.out.later hb).eight
            obtain ⟨⟨r0, r1, r2, r3, r4, r5, r6, r7⟩, ⟨g0, g1, g2, g3, g4, g5, g6, g7⟩, -⟩ := (HR.out.later hb).eight
            go_wp2
            exact bodyPost_ret (v := .tuple #[.agg #[.int .i64 o.m, .int .i64 o.c, .int .i64 o.t, .int .i64 o.ec, .bool o.sd, .bool o.ok, .bool o.sp, (Value.slice va o.rs.length vcap)], .int .i64 0]) (by simp [results, Tryz.results88, go_sem, r0, r1, r2, r3, r4, r5, r6, r7]) rfl (by rw [HRN.out]; exact ⟨_, rfl, own_mono (own_set8 (own_later HOWN.out hb) w.heap.size (by omega) _ _ _ _ _ _ _ _) (by omega), below8 (bt hbl hb) (Nat.le_refl _) _ _ _ _ _ _ _ _⟩)
          · rw [show mayO o.m o.c o.t o.ec o.sd o.ok o.sp o.rs = false from hm] at hM
            have HRN : Hid (okO RN = none) := by show _ = _; rw [HRS.out]; simp [okO, hm]
            clear hm HRS
            go_wp2_with fail
            refine hM.mono ?_
            rintro en w1 ⟨rfl, hb⟩
            clear c0 c1 c2 c3 c4 c5 c6 c7 f0 f1 f2 f3 f4 f5 f6 f7
            obtain ⟨⟨r0, r1, r2, r3, r4, r5, r6, r7⟩, ⟨g0, g1, g2, g3, g4, g5, g6, g7⟩, -⟩ := (HR.out.later hb).eight
            go_wp2
            exact bodyPost_ret (v := .tuple #[.agg #[.int .i64 0, .int .i64 0, .int .i64 0, .int .i64 0, .bool false, .bool false, .bool false, .slice none 0 0], .int .i64 70]) (by simp [results, Tryz.results88, go_sem, r0, r1, r2, r3, r4, r5, r6, r7]) rfl (by rw [HRN.out]; exact ⟨rfl, below8 (bt hbl hb) (Nat.le_refl _) _ _ _ _ _ _ _ _⟩)
        by_cases k1 : K0 = 1
        · subst k1
          clear HZ HM k0
          have HE : Hid (runS (x.extract 1 x.size) o = RN) := by show _ = _; rw [← HRUN.out, HO.out rfl]
          have g1 : (1 : Int) ≤ (x.size : Int) := by omega
          have hi1 := hi0.trans (show ((1 : Nat) : Int) = 1 from rfl)
          clear hi0 hle0 hle0'
          go_wp2
          go_roundw
          case rel => exact ⟨x.extract 1 x.size, o, _, rfl, by rw [ByteArray.size_extract]; omega, HE.out, hbl, hsz, HR.out, HA.out, HOWN.out, HNIL.out, hr40⟩
          case measure => simp [szOf, ByteArray.size_extract]; omega
        have k0' : ¬ (K0 : Int) = 0 := by omega
        have k1' : ¬ (K0 : Int) = 1 := by omega
        have HRM := HM.out k0 k1
        clear HZ HO HM
        rcases Bool.eq_false_or_eq_true (firstB x) with hf | hf
        · rw [hf, if_pos rfl] at HRM
          have hff := of_decide_eq_true (show decide (2 ≤ x.size ∧ 2 ≤ (x.data.toList.getD 1 0).toNat ∧ (x.data.toList.getD 1 0).toNat ≤ x.size) = true from hf)
          have hn2 : 2 ≤ firstN x := hff.2.1
          have hn3 : firstN x ≤ x.size := hff.2.2
          have HFT : Hid (∀ W, Calls Tryz.prog 102 #[.string x] W fun e w' => e = .returned (.tuple #[.string (x.extract 2 (firstN x)), .bool true]) ∧ w' = W) := fun W => first_t x W hx40 hf
          clear hff hf
          have hBs : (x.extract 2 (firstN x)).size = firstN x - 2 := by rw [ByteArray.size_extract]; omega
          have hys : (x.extract (firstN x) x.size).size = x.size - firstN x := by rw [ByteArray.size_extract]; omega
          have HY : Hid (x.extract (2 + (x.extract 2 (firstN x)).size) x.size = x.extract (firstN x) x.size) := by
            show _ = _
            rw [hBs, show 2 + (firstN x - 2) = firstN x by omega]
          generalize hyy : x.extract (firstN x) x.size = y at *
          generalize hBB : x.extract 2 (firstN x) = B at *
          clear hyy hBB
          have hB40 : B.size ≤ 40 := by omega
          have hB' : 2 + (B.size : Int) ≤ (x.size : Int) := by omega
          have hB0 : (B.size : Int) ≤ 38 := by omega
          have hyl : y.size < x.size := by omega
          clear hBs hys hn2 hn3
          rcases Bool.eq_false_or_eq_true (followsB o (K0 : Int) B.size) with hfo | hfo
          · have HFO : Hid (∀ W, Calls Tryz.prog 103 #[.agg #[.int .i64 o.m, .int .i64 o.c, .int .i64 o.t, .int .i64 o.ec, .bool o.sd, .bool o.ok, .bool o.sp, (Value.slice va o.rs.length vcap)], .int .i64 (K0 : Int), .int .i64 (B.size : Int)] W fun e w' => e = .returned (.bool true) ∧ Below W.heap.size W w') := fun W => by
              have := follows_any o va vcap (K0 : Int) B.size W hB40
              rw [hfo] at this; exact this
            have HRD : Hid (∀ W, W.ownsRow (w.heap.size + 2) 180 2 (Value.slice va o.rs.length vcap) o.rs.length (flatR o.rs) → w.heap.size + 2 ≤ W.heap.size → Calls Tryz.prog 104 #[.agg #[.int .i64 o.m, .int .i64 o.c, .int .i64 o.t, .int .i64 o.ec, .bool o.sd, .bool o.ok, .bool o.sp, (Value.slice va o.rs.length vcap)], .int .i64 (K0 : Int), .string B] W fun en w' => ∃ v', en = .returned (.tuple #[.agg #[.int .i64 (takeO o (K0 : Int) B.data.toList).m, .int .i64 (takeO o (K0 : Int) B.data.toList).c, .int .i64 (takeO o (K0 : Int) B.data.toList).t, .int .i64 (takeO o (K0 : Int) B.data.toList).ec, .bool (takeO o (K0 : Int) B.data.toList).sd, .bool (takeO o (K0 : Int) B.data.toList).ok, .bool (takeO o (K0 : Int) B.data.toList).sp, v'], .bool (saysB (K0 : Int) B.data.toList)]) ∧ w'.ownsRow (w.heap.size + 2) 180 2 v' (takeO o (K0 : Int) B.data.toList).rs.length (flatR (takeO o (K0 : Int) B.data.toList).rs) ∧ ((takeO o (K0 : Int) B.data.toList).rs = [] → v' = .slice none 0 0) ∧ Below W.heap.size W w') := fun W h1 h2 => read_any o _ (K0 : Int) B _ W h1 HNIL.out hB40 hfo h2
            have HST : Hid (stepO o (K0 : Int) B.data.toList = if saysB (K0 : Int) B.data.toList = true then some (takeO o (K0 : Int) B.data.toList) else none) := by
              show _ = _
              unfold stepO
              rw [toList_size, hfo, Bool.true_and]
            have hrl : (takeO o (K0 : Int) B.data.toList).rs.length ≤ 40 := by
              unfold takeO
              split
              · show (pairsL B.data.toList).length ≤ 40; rw [pairs_len]; omega
              all_goals (repeat' split) <;> exact hr40
            generalize takeO o (K0 : Int) B.data.toList = o2 at *
            generalize saysB (K0 : Int) B.data.toList = SB at *
            have HRMH : Hid (runS x o = nextO (stepO o (K0 : Int) B.data.toList) y) := HRM
            clear HRM hfo
            go_wp2_with fail
            refine (HFT.out _).mono ?_
            rintro en w0 ⟨rfl, hw0⟩
            rw [hw0]
            clear hw0 w0
            go_wp2
            refine wp_region_any (by kernel_rfl) ?_
            refine region_facts (fun W => Below wr.heap.size wr W) (GV (fun i => match i with | 0 => .bool true | 1 => .bool false | 2 => .bool false | 3 => .agg #[.int .i64 o.m, .int .i64 o.c, .int .i64 o.t, .int .i64 o.ec, .bool o.sd, .bool o.ok, .bool o.sp, (Value.slice va o.rs.length vcap)] | 4 => .string x | 5 => .int .u8 (K0 : Int) | 6 => .int .i64 (K0 : Int) | 7 => .string B | 8 => .int .i64 (B.size : Int) | 9 => .bool true | 10 => .bool false | 11 => .bool false | _ => undef) (fun _ => none)) (n := 63) (by kernel_rfl) rfl (by kernel_rfl) (GV_later _ _) ?_ ?_ ((Below.refl _ _).drew) (Nat.le_refl _)
            · skip
              refine ⟨?_, ?_, ?_, ?_, ?_, ?_, ?_, ?_, ?_, ?_, ?_, ?_, trivial⟩
              · intro ac w1 hS hT hB hD K hK
                rw [if_pos (by rfl)]
                have d6 : ac.tmps.getD 6 undef = .bool true := hB 6 (by kernel_rfl)
                clear hB hD hT
                go_simp
                exact hK _ _ hS (Below.refl _ _) rfl
              · intro ac w1 hS hT hB hD K hK
                rw [if_pos (by rfl)]
                have d28 : ac.tmps.getD 28 undef = .bool true := hD ⟨0, .data⟩ (by simp) rfl _ 28 rfl rfl
                clear hB hD hT
                go_simp
                exact hK _ _ hS (Below.refl _ _) rfl
              · intro ac w1 hS hT hB hD K hK
                rw [if_pos (by rfl)]
                have d29 : ac.tmps.getD 29 undef = .bool false := hD ⟨1, .data⟩ (by simp) rfl _ 29 rfl rfl
                clear hB hD hT
                go_simp
                exact hK _ _ hS (Below.refl _ _) rfl
              · intro ac w1 hS hT hB hD K hK
                have g30 : ac.tmps.getD 30 undef = .bool false := hD ⟨2, .guard⟩ (by simp) rfl _ 30 rfl rfl
                rw [if_pos (want_t (j := 2) (d := 30) rfl rfl g30)]
                clear g30
                have d4 : ac.tmps.getD 4 undef = .pointer (some ⟨w.heap.size + 1, 0, none⟩) := hB 4 (by kernel_rfl)
                clear hB hD hT
                have hc := (HA.out.later hS).eight.1
                go_simp
                exact hK _ _ hS (Below.refl _ _) rfl
              · intro ac w1 hS hT hB hD K hK
                have g30 : ac.tmps.getD 30 undef = .bool false := hD ⟨2, .guard⟩ (by simp) rfl _ 30 rfl rfl
                rw [if_pos (want_t (j := 2) (d := 30) rfl rfl g30)]
                clear g30
                have d0 : ac.tmps.getD 0 undef = .string x := hB 0 (by kernel_rfl)
                clear hB hD hT
                go_simp
                exact hK _ _ hS (Below.refl _ _) rfl
              · intro ac w1 hS hT hB hD K hK
                have g30 : ac.tmps.getD 30 undef = .bool false := hD ⟨2, .guard⟩ (by simp) rfl _ 30 rfl rfl
                rw [if_pos (want_t (j := 2) (d := 30) rfl rfl g30)]
                clear g30
                have d32 : ac.tmps.getD 32 undef = .string x := hD ⟨4, .data⟩ (by simp) rfl _ 32 rfl rfl
                clear hB hD hT
                have hj0 : (0 : Int) < (x.size : Int) := by have := HX0.out; omega
                go_simp
                exact hK _ _ hS (Below.refl _ _) rfl
              · intro ac w1 hS hT hB hD K hK
                have g30 : ac.tmps.getD 30 undef = .bool false := hD ⟨2, .guard⟩ (by simp) rfl _ 30 rfl rfl
                rw [if_pos (want_t (j := 2) (d := 30) rfl rfl g30)]
                clear g30
                have d33 : ac.tmps.getD 33 undef = .int .u8 (K0 : Int) := hD ⟨5, .data⟩ (by simp) rfl _ 33 rfl rfl
                clear hB hD hT
                have hw0 : IntKind.i64.wrap (K0 : Int) = (K0 : Int) := by rw [IntKind.wrap_i64]; omega
                go_simp
                exact hK _ _ hS (Below.refl _ _) rfl
              · intro ac w1 hS hT hB hD K hK
                have g30 : ac.tmps.getD 30 undef = .bool false := hD ⟨2, .guard⟩ (by simp) rfl _ 30 rfl rfl
                rw [if_pos (want_t (j := 2) (d := 30) rfl rfl g30)]
                clear g30
                have d5 : ac.tmps.getD 5 undef = .string B := hB 5 (by kernel_rfl)
                clear hB hD hT
                go_simp
                exact hK _ _ hS (Below.refl _ _) rfl
              · intro ac w1 hS hT hB hD K hK
                have g30 : ac.tmps.getD 30 undef = .bool false := hD ⟨2, .guard⟩ (by simp) rfl _ 30 rfl rfl
                rw [if_pos (want_t (j := 2) (d := 30) rfl rfl g30)]
                clear g30
                have d35 : ac.tmps.getD 35 undef = .string B := hD ⟨7, .data⟩ (by simp) rfl _ 35 rfl rfl
                clear hB hD hT
                go_simp
                exact hK _ _ hS (Below.refl _ _) rfl
              · intro ac w1 hS hT hB hD K hK
                have g30 : ac.tmps.getD 30 undef = .bool false := hD ⟨2, .guard⟩ (by simp) rfl _ 30 rfl rfl
                rw [if_pos (want_t (j := 2) (d := 30) rfl rfl g30)]
                clear g30
                have d31 : ac.tmps.getD 31 undef = .agg #[.int .i64 o.m, .int .i64 o.c, .int .i64 o.t, .int .i64 o.ec, .bool o.sd, .bool o.ok, .bool o.sp, (Value.slice va o.rs.length vcap)] := hD ⟨3, .data⟩ (by simp) rfl _ 31 rfl rfl
                have d34 : ac.tmps.getD 34 undef = .int .i64 (K0 : Int) := hD ⟨6, .data⟩ (by simp) rfl _ 34 rfl rfl
                have d36 : ac.tmps.getD 36 undef = .int .i64 (B.size : Int) := hD ⟨8, .data⟩ (by simp) rfl _ 36 rfl rfl
                clear hB hD hT
                go_simp
                refine (HFO.out _).mono ?_
                rintro e w' ⟨rfl, hb⟩
                exact hK _ _ (bt hS hb) hb rfl
              · intro ac w1 hS hT hB hD K hK
                have g30 : ac.tmps.getD 30 undef = .bool false := hD ⟨2, .guard⟩ (by simp) rfl _ 30 rfl rfl
                rw [if_pos (want_t (j := 2) (d := 30) rfl rfl g30)]
                clear g30
                have d37 : ac.tmps.getD 37 undef = .bool true := hD ⟨9, .data⟩ (by simp) rfl _ 37 rfl rfl
                clear hB hD hT
                go_simp
                exact hK _ _ hS (Below.refl _ _) rfl
              · intro ac w1 hS hT hB hD K hK
                rw [if_pos (by rfl)]
                have d30 : ac.tmps.getD 30 undef = .bool false := hD ⟨2, .data⟩ (by simp) rfl _ 30 rfl rfl
                have d38 : ac.tmps.getD 38 undef = .bool false := hD ⟨10, .data⟩ (by simp) rfl _ 38 rfl rfl
                clear hB hD hT
                go_simp
                exact hK _ _ hS (Below.refl _ _) rfl
            · intro ac w8 hS8 hT hdf hB hF
              obtain ⟨⟨l⟩, df⟩ := ac
              match l, hT with
              | x0 :: x1 :: x2 :: x3 :: x4 :: x5 :: x6 :: x7 :: x8 :: x9 :: x10 :: x11 :: x12 :: x13 :: x14 :: x15 :: x16 :: x17 :: x18 :: x19 :: x20 :: x21 :: x22 :: x23 :: x24 :: x25 :: x26 :: x27 :: x28 :: x29 :: x30 :: x31 :: x32 :: x33 :: x34 :: x35 :: x36 :: x37 :: x38 :: x39 :: x40 :: x41 :: x42 :: x43 :: x44 :: x45 :: x46 :: x47 :: x48 :: x49 :: x50 :: x51 :: x52 :: x53 :: x54 :: x55 :: x56 :: x57 :: x58 :: x59 :: x60 :: x61 :: x62 :: [], _ =>
                have s0 : x0 = .string x := hB 0 (by kernel_rfl)
                have s1 : x1 = undef := hB 1 (by kernel_rfl)
                have s2 : x2 = .pointer (some ⟨w.heap.size, 0, none⟩) := hB 2 (by kernel_rfl)
                have s4 : x4 = .pointer (some ⟨w.heap.size + 1, 0, none⟩) := hB 4 (by kernel_rfl)
                have s5 : x5 = .string B := hB 5 (by kernel_rfl)
                have s6 : x6 = .bool true := hB 6 (by kernel_rfl)
                have s7 : x7 = .string s := hB 7 (by kernel_rfl)
                have s8 : x8 = .int .i64 (s.size : Int) := hB 8 (by kernel_rfl)
                have s9 : x9 = .bool false := hB 9 (by kernel_rfl)
                have s10 : x10 = undef := hB 10 (by kernel_rfl)
                have s58 : x58 = undef := hB 58 (by kernel_rfl)
                have s59 : x59 = undef := hB 59 (by kernel_rfl)
                have s60 : x60 = undef := hB 60 (by kernel_rfl)
                have s61 : x61 = undef := hB 61 (by kernel_rfl)
                have s62 : x62 = undef := hB 62 (by kernel_rfl)
                subst s0 s1 s2 s4 s5 s6 s7 s8 s9 s10 s58 s59 s60 s61 s62
                have s39 : x39 = .bool false := hF 11 _ 39 rfl rfl
                have sdf : df = [] := hdf
                subst s39 sdf
                clear hB hF hT
                have HA8 : Hid (At w8 (w.heap.size + 1) (OV o (Value.slice va o.rs.length vcap))) := HA.out.later hS8
                go_wp2
                refine wp_region_any (by kernel_rfl) ?_
                refine region_facts_then (fun W => Below w8.heap.size w8 W) (GV (fun i => match i with | 0 => .agg #[.int .i64 o.m, .int .i64 o.c, .int .i64 o.t, .int .i64 o.ec, .bool o.sd, .bool o.ok, .bool o.sp, (Value.slice va o.rs.length vcap)] | 1 => .string x | 2 => .int .u8 (K0 : Int) | 3 => .int .i64 (K0 : Int) | 4 => .string B | _ => undef) (fun _ => none)) (n := 63) 5 8 (by kernel_rfl) (by kernel_rfl) rfl (by kernel_rfl) (GV_later _ _) ?_ ?_ ((Below.refl _ _).drew) (Nat.le_refl _)
                · skip
                  refine ⟨?_, ?_, ?_, ?_, ?_, trivial⟩
                  · intro ac w1 hS hT hB hD K hK
                    rw [if_pos (by rfl)]
                    have d4 : ac.tmps.getD 4 undef = .pointer (some ⟨w.heap.size + 1, 0, none⟩) := hB 4 (by kernel_rfl)
                    clear hB hD hT
                    have hc := (HA8.out.later hS).eight.1
                    go_simp
                    exact hK _ _ hS (Below.refl _ _) rfl
                  · intro ac w1 hS hT hB hD K hK
                    rw [if_pos (by rfl)]
                    have d0 : ac.tmps.getD 0 undef = .string x := hB 0 (by kernel_rfl)
                    clear hB hD hT
                    go_simp
                    exact hK _ _ hS (Below.refl _ _) rfl
                  · intro ac w1 hS hT hB hD K hK
                    rw [if_pos (by rfl)]
                    have d43 : ac.tmps.getD 43 undef = .string x := hD ⟨1, .data⟩ (by simp) rfl _ 43 rfl rfl
                    clear hB hD hT
                    have hj0 : (0 : Int) < (x.size : Int) := by have := HX0.out; omega
                    go_simp
                    exact hK _ _ hS (Below.refl _ _) rfl
                  · intro ac w1 hS hT hB hD K hK
                    rw [if_pos (by rfl)]
                    have d44 : ac.tmps.getD 44 undef = .int .u8 (K0 : Int) := hD ⟨2, .data⟩ (by simp) rfl _ 44 rfl rfl
                    clear hB hD hT
                    have hw0 : IntKind.i64.wrap (K0 : Int) = (K0 : Int) := by rw [IntKind.wrap_i64]; omega
                    go_simp
                    exact hK _ _ hS (Below.refl _ _) rfl
                  · intro ac w1 hS hT hB hD K hK
                    rw [if_pos (by rfl)]
                    have d5 : ac.tmps.getD 5 undef = .string B := hB 5 (by kernel_rfl)
                    clear hB hD hT
                    go_simp
                    exact hK _ _ hS (Below.refl _ _) rfl
                · intro ac w10 hS10 hT hdf hB hF
                  obtain ⟨⟨l⟩, df⟩ := ac
                  match l, hT with
                  | x0 :: x1 :: x2 :: x3 :: x4 :: x5 :: x6 :: x7 :: x8 :: x9 :: x10 :: x11 :: x12 :: x13 :: x14 :: x15 :: x16 :: x17 :: x18 :: x19 :: x20 :: x21 :: x22 :: x23 :: x24 :: x25 :: x26 :: x27 :: x28 :: x29 :: x30 :: x31 :: x32 :: x33 :: x34 :: x35 :: x36 :: x37 :: x38 :: x39 :: x40 :: x41 :: x42 :: x43 :: x44 :: x45 :: x46 :: x47 :: x48 :: x49 :: x50 :: x51 :: x52 :: x53 :: x54 :: x55 :: x56 :: x57 :: x58 :: x59 :: x60 :: x61 :: x62 :: [], _ =>
                    have s0 : x0 = .string x := hB 0 (by kernel_rfl)
                    have s1 : x1 = undef := hB 1 (by kernel_rfl)
                    have s2 : x2 = .pointer (some ⟨w.heap.size, 0, none⟩) := hB 2 (by kernel_rfl)
                    have s4 : x4 = .pointer (some ⟨w.heap.size + 1, 0, none⟩) := hB 4 (by kernel_rfl)
                    have s5 : x5 = .string B := hB 5 (by kernel_rfl)
                    have s7 : x7 = .string s := hB 7 (by kernel_rfl)
                    have s8 : x8 = .int .i64 (s.size : Int) := hB 8 (by kernel_rfl)
                    have s9 : x9 = .bool false := hB 9 (by kernel_rfl)
                    have s10 : x10 = undef := hB 10 (by kernel_rfl)
                    have s58 : x58 = undef := hB 58 (by kernel_rfl)
                    have s59 : x59 = undef := hB 59 (by kernel_rfl)
                    have s60 : x60 = undef := hB 60 (by kernel_rfl)
                    have s61 : x61 = undef := hB 61 (by kernel_rfl)
                    have s62 : x62 = undef := hB 62 (by kernel_rfl)
                    subst s0 s1 s2 s4 s5 s7 s8 s9 s10 s58 s59 s60 s61 s62
                    have s42 : x42 = .agg #[.int .i64 o.m, .int .i64 o.c, .int .i64 o.t, .int .i64 o.ec, .bool o.sd, .bool o.ok, .bool o.sp, (Value.slice va o.rs.length vcap)] := hF 0 _ 42 (by decide) rfl rfl
                    have s43 : x43 = .string x := hF 1 _ 43 (by decide) rfl rfl
                    have s44 : x44 = .int .u8 (K0 : Int) := hF 2 _ 44 (by decide) rfl rfl
                    have s45 : x45 = .int .i64 (K0 : Int) := hF 3 _ 45 (by decide) rfl rfl
                    have s46 : x46 = .string B := hF 4 _ 46 (by decide) rfl rfl
                    have sdf : df = [] := hdf
                    subst s42 s43 s44 s45 s46 sdf
                    clear hB hF hT
                    have hbX := bt hS8 hS10
                    have hsz10 := Nat.le_trans hsz hbX.size
                    have hA10 := HA.out.later hbX
                    have hR10 := HR.out.later hbX
                    refine any_one (i := 5) (by kernel_rfl) (by rfl) ?_
                    intro Kc hKc
                    rw [if_pos (by rfl)]
                    go_simp
                    refine (HRD.out _ (own_later HOWN.out hbX) hsz10).mono ?_
                    rintro en w11 ⟨v2, rfl, ho2, hn2, hb2⟩
                    obtain ⟨va2, vcap2, hvv2, -, -⟩ := own_slice ho2
                    subst hvv2
                    obtain ⟨⟨c0, c1, c2, c3, c4, c5, c6, c7⟩, ⟨f0, f1, f2, f3, f4, f5, f6, f7⟩, -⟩ := (hA10.later hb2).eight
                    apply hKc
                    clear hKc Kc
                    refine any_one (i := 6) (by kernel_rfl) (by rfl) ?_
                    intro Kc hKc
                    rw [if_pos (by rfl)]
                    go_simp
                    apply hKc
                    clear hKc Kc
                    refine any_two (i := 7) (i2 := 8) (by kernel_rfl) (by rfl) (by rfl) ?_ ?_
                    · intro Kc hKc
                      rw [if_pos (by rfl)]
                      go_simp
                      apply hKc
                      clear hKc Kc
                      refine any_two (i := 8) (i2 := 9) (by kernel_rfl) (by rfl) (by rfl) ?_ ?_
                      · intro Kc hKc
                        rw [if_pos (by rfl)]
                        go_simp
                        apply hKc
                        clear hKc Kc
                        refine any_one (i := 9) (by kernel_rfl) (by rfl) ?_
                        intro Kc hKc
                        rw [if_pos (by rfl)]
                        go_simp
                        apply hKc
                        clear hKc Kc
                        refine any_one (i := 10) (by kernel_rfl) (by rfl) ?_
                        intro Kc hKc
                        rw [if_pos (by rfl)]
                        go_simp
                        apply hKc
                        clear hKc Kc
                        refine any_end (by kernel_rfl) ?_
                        have hbY := bt (bt hbl hbX) hb2
                        have hset := (hA10.later hb2).set8 (.int .i64 o2.m) (.int .i64 o2.c) (.int .i64 o2.t) (.int .i64 o2.ec) (.bool o2.sd) (.bool o2.ok) (.bool o2.sp) (.slice va2 o2.rs.length vcap2)
                        have hkeep := (hR10.later hb2).keep8 (b := w.heap.size + 1) (by omega) (.int .i64 o2.m) (.int .i64 o2.c) (.int .i64 o2.t) (.int .i64 o2.ec) (.bool o2.sd) (.bool o2.ok) (.bool o2.sp) (.slice va2 o2.rs.length vcap2)
                        cases SB
                        · have HRN : Hid (okO RN = none) := by show _ = _; rw [← HRUN.out, HRMH.out, HST.out]; rfl
                          obtain ⟨⟨r0, r1, r2, r3, r4, r5, r6, r7⟩, ⟨g0, g1, g2, g3, g4, g5, g6, g7⟩, -⟩ := (hkeep).eight
                          go_wp2
                          exact bodyPost_ret (v := .tuple #[.agg #[.int .i64 0, .int .i64 0, .int .i64 0, .int .i64 0, .bool false, .bool false, .bool false, .slice none 0 0], .int .i64 70]) (by simp [results, Tryz.results88, go_sem, r0, r1, r2, r3, r4, r5, r6, r7]) rfl (by rw [HRN.out]; exact ⟨rfl, below8 (below8 hbY (Nat.le_succ _) _ _ _ _ _ _ _ _) (Nat.le_refl _) _ _ _ _ _ _ _ _⟩)
                        · clear c0 c1 c2 c3 c4 c5 c6 c7 f0 f1 f2 f3 f4 f5 f6 f7
                          go_wp2
                          go_roundw
                          case rel => exact ⟨y, o2, _, by rw [HY.out], by omega, by rw [← HRUN.out, HRMH.out, HST.out]; rfl, below8 hbY (Nat.le_succ _) _ _ _ _ _ _ _ _, by simp only [World.size_setCell]; exact Nat.le_trans hsz10 hb2.size, hkeep, hset, own_set8 ho2 (w.heap.size + 1) (by omega) _ _ _ _ _ _ _ _, hn2, hrl⟩
                          case measure => simp [szOf, ByteArray.size_extract]; omega
                      · intro Kc hKc
                        rw [if_pos (by rfl)]
                        go_simp
                        apply hKc
                        clear hKc Kc
                        refine any_one (i := 8) (by kernel_rfl) (by rfl) ?_
                        intro Kc hKc
                        rw [if_pos (by rfl)]
                        go_simp
                        apply hKc
                        clear hKc Kc
                        refine any_one (i := 10) (by kernel_rfl) (by rfl) ?_
                        intro Kc hKc
                        rw [if_pos (by rfl)]
                        go_simp
                        apply hKc
                        clear hKc Kc
                        refine any_end (by kernel_rfl) ?_
                        have hbY := bt (bt hbl hbX) hb2
                        have hset := (hA10.later hb2).set8 (.int .i64 o2.m) (.int .i64 o2.c) (.int .i64 o2.t) (.int .i64 o2.ec) (.bool o2.sd) (.bool o2.ok) (.bool o2.sp) (.slice va2 o2.rs.length vcap2)
                        have hkeep := (hR10.later hb2).keep8 (b := w.heap.size + 1) (by omega) (.int .i64 o2.m) (.int .i64 o2.c) (.int .i64 o2.t) (.int .i64 o2.ec) (.bool o2.sd) (.bool o2.ok) (.bool o2.sp) (.slice va2 o2.rs.length vcap2)
                        cases SB
                        · have HRN : Hid (okO RN = none) := by show _ = _; rw [← HRUN.out, HRMH.out, HST.out]; rfl
                          obtain ⟨⟨r0, r1, r2, r3, r4, r5, r6, r7⟩, ⟨g0, g1, g2, g3, g4, g5, g6, g7⟩, -⟩ := (hkeep).eight
                          go_wp2
                          exact bodyPost_ret (v := .tuple #[.agg #[.int .i64 0, .int .i64 0, .int .i64 0, .int .i64 0, .bool false, .bool false, .bool false, .slice none 0 0], .int .i64 70]) (by simp [results, Tryz.results88, go_sem, r0, r1, r2, r3, r4, r5, r6, r7]) rfl (by rw [HRN.out]; exact ⟨rfl, below8 (below8 hbY (Nat.le_succ _) _ _ _ _ _ _ _ _) (Nat.le_refl _) _ _ _ _ _ _ _ _⟩)
                        · clear c0 c1 c2 c3 c4 c5 c6 c7 f0 f1 f2 f3 f4 f5 f6 f7
                          go_wp2
                          go_roundw
                          case rel => exact ⟨y, o2, _, by rw [HY.out], by omega, by rw [← HRUN.out, HRMH.out, HST.out]; rfl, below8 hbY (Nat.le_succ _) _ _ _ _ _ _ _ _, by simp only [World.size_setCell]; exact Nat.le_trans hsz10 hb2.size, hkeep, hset, own_set8 ho2 (w.heap.size + 1) (by omega) _ _ _ _ _ _ _ _, hn2, hrl⟩
                          case measure => simp [szOf, ByteArray.size_extract]; omega
                    · intro Kc hKc
                      rw [if_pos (by rfl)]
                      go_simp
                      apply hKc
                      clear hKc Kc
                      refine any_one (i := 7) (by kernel_rfl) (by rfl) ?_
                      intro Kc hKc
                      rw [if_pos (by rfl)]
                      go_simp
                      apply hKc
                      clear hKc Kc
                      refine any_one (i := 9) (by kernel_rfl) (by rfl) ?_
                      intro Kc hKc
                      rw [if_pos (by rfl)]
                      go_simp
                      apply hKc
                      clear hKc Kc
                      refine any_one (i := 10) (by kernel_rfl) (by rfl) ?_
                      intro Kc hKc
                      rw [if_pos (by rfl)]
                      go_simp
                      apply hKc
                      clear hKc Kc
                      refine any_end (by kernel_rfl) ?_
                      have hbY := bt (bt hbl hbX) hb2
                      have hset := (hA10.later hb2).set8 (.int .i64 o2.m) (.int .i64 o2.c) (.int .i64 o2.t) (.int .i64 o2.ec) (.bool o2.sd) (.bool o2.ok) (.bool o2.sp) (.slice va2 o2.rs.length vcap2)
                      have hkeep := (hR10.later hb2).keep8 (b := w.heap.size + 1) (by omega) (.int .i64 o2.m) (.int .i64 o2.c) (.int .i64 o2.t) (.int .i64 o2.ec) (.bool o2.sd) (.bool o2.ok) (.bool o2.sp) (.slice va2 o2.rs.length vcap2)
                      cases SB
                      · have HRN : Hid (okO RN = none) := by show _ = _; rw [← HRUN.out, HRMH.out, HST.out]; rfl
                        obtain ⟨⟨r0, r1, r2, r3, r4, r5, r6, r7⟩, ⟨g0, g1, g2, g3, g4, g5, g6, g7⟩, -⟩ := (hkeep).eight
                        go_wp2
                        exact bodyPost_ret (v := .tuple #[.agg #[.int .i64 0, .int .i64 0, .int .i64 0, .int .i64 0, .bool false, .bool false, .bool false, .slice none 0 0], .int .i64 70]) (by simp [results, Tryz.results88, go_sem, r0, r1, r2, r3, r4, r5, r6, r7]) rfl (by rw [HRN.out]; exact ⟨rfl, below8 (below8 hbY (Nat.le_succ _) _ _ _ _ _ _ _ _) (Nat.le_refl _) _ _ _ _ _ _ _ _⟩)
                      · clear c0 c1 c2 c3 c4 c5 c6 c7 f0 f1 f2 f3 f4 f5 f6 f7
                        go_wp2
                        go_roundw
                        case rel => exact ⟨y, o2, _, by rw [HY.out], by omega, by rw [← HRUN.out, HRMH.out, HST.out]; rfl, below8 hbY (Nat.le_succ _) _ _ _ _ _ _ _ _, by simp only [World.size_setCell]; exact Nat.le_trans hsz10 hb2.size, hkeep, hset, own_set8 ho2 (w.heap.size + 1) (by omega) _ _ _ _ _ _ _ _, hn2, hrl⟩
                        case measure => simp [szOf, ByteArray.size_extract]; omega
          · have HFO : Hid (∀ W, Calls Tryz.prog 103 #[.agg #[.int .i64 o.m, .int .i64 o.c, .int .i64 o.t, .int .i64 o.ec, .bool o.sd, .bool o.ok, .bool o.sp, (Value.slice va o.rs.length vcap)], .int .i64 (K0 : Int), .int .i64 (B.size : Int)] W fun e w' => e = .returned (.bool false) ∧ Below W.heap.size W w') := fun W => by
              have := follows_any o va vcap (K0 : Int) B.size W hB40
              rw [hfo] at this; exact this
            have HRN : Hid (okO RN = none) := by
              show _ = _
              rw [← HRUN.out, HRM]
              unfold stepO
              rw [toList_size, hfo]
              rfl
            clear HRM hfo
            go_wp2_with fail
            refine (HFT.out _).mono ?_
            rintro en w0 ⟨rfl, hw0⟩
            rw [hw0]
            clear hw0 w0
            go_wp2
            refine wp_region_any (by kernel_rfl) ?_
            refine region_facts (fun W => Below wr.heap.size wr W) (GV (fun i => match i with | 0 => .bool true | 1 => .bool false | 2 => .bool false | 3 => .agg #[.int .i64 o.m, .int .i64 o.c, .int .i64 o.t, .int .i64 o.ec, .bool o.sd, .bool o.ok, .bool o.sp, (Value.slice va o.rs.length vcap)] | 4 => .string x | 5 => .int .u8 (K0 : Int) | 6 => .int .i64 (K0 : Int) | 7 => .string B | 8 => .int .i64 (B.size : Int) | 9 => .bool false | 10 => .bool true | 11 => .bool true | _ => undef) (fun _ => none)) (n := 63) (by kernel_rfl) rfl (by kernel_rfl) (GV_later _ _) ?_ ?_ ((Below.refl _ _).drew) (Nat.le_refl _)
            · skip
              refine ⟨?_, ?_, ?_, ?_, ?_, ?_, ?_, ?_, ?_, ?_, ?_, ?_, trivial⟩
              · intro ac w1 hS hT hB hD K hK
                rw [if_pos (by rfl)]
                have d6 : ac.tmps.getD 6 undef = .bool true := hB 6 (by kernel_rfl)
                clear hB hD hT
                go_simp
                exact hK _ _ hS (Below.refl _ _) rfl
              · intro ac w1 hS hT hB hD K hK
                rw [if_pos (by rfl)]
                have d28 : ac.tmps.getD 28 undef = .bool true := hD ⟨0, .data⟩ (by simp) rfl _ 28 rfl rfl
                clear hB hD hT
                go_simp
                exact hK _ _ hS (Below.refl _ _) rfl
              · intro ac w1 hS hT hB hD K hK
                rw [if_pos (by rfl)]
                have d29 : ac.tmps.getD 29 undef = .bool false := hD ⟨1, .data⟩ (by simp) rfl _ 29 rfl rfl
                clear hB hD hT
                go_simp
                exact hK _ _ hS (Below.refl _ _) rfl
              · intro ac w1 hS hT hB hD K hK
                have g30 : ac.tmps.getD 30 undef = .bool false := hD ⟨2, .guard⟩ (by simp) rfl _ 30 rfl rfl
                rw [if_pos (want_t (j := 2) (d := 30) rfl rfl g30)]
                clear g30
                have d4 : ac.tmps.getD 4 undef = .pointer (some ⟨w.heap.size + 1, 0, none⟩) := hB 4 (by kernel_rfl)
                clear hB hD hT
                have hc := (HA.out.later hS).eight.1
                go_simp
                exact hK _ _ hS (Below.refl _ _) rfl
              · intro ac w1 hS hT hB hD K hK
                have g30 : ac.tmps.getD 30 undef = .bool false := hD ⟨2, .guard⟩ (by simp) rfl _ 30 rfl rfl
                rw [if_pos (want_t (j := 2) (d := 30) rfl rfl g30)]
                clear g30
                have d0 : ac.tmps.getD 0 undef = .string x := hB 0 (by kernel_rfl)
                clear hB hD hT
                go_simp
                exact hK _ _ hS (Below.refl _ _) rfl
              · intro ac w1 hS hT hB hD K hK
                have g30 : ac.tmps.getD 30 undef = .bool false := hD ⟨2, .guard⟩ (by simp) rfl _ 30 rfl rfl
                rw [if_pos (want_t (j := 2) (d := 30) rfl rfl g30)]
                clear g30
                have d32 : ac.tmps.getD 32 undef = .string x := hD ⟨4, .data⟩ (by simp) rfl _ 32 rfl rfl
                clear hB hD hT
                have hj0 : (0 : Int) < (x.size : Int) := by have := HX0.out; omega
                go_simp
                exact hK _ _ hS (Below.refl _ _) rfl
              · intro ac w1 hS hT hB hD K hK
                have g30 : ac.tmps.getD 30 undef = .bool false := hD ⟨2, .guard⟩ (by simp) rfl _ 30 rfl rfl
                rw [if_pos (want_t (j := 2) (d := 30) rfl rfl g30)]
                clear g30
                have d33 : ac.tmps.getD 33 undef = .int .u8 (K0 : Int) := hD ⟨5, .data⟩ (by simp) rfl _ 33 rfl rfl
                clear hB hD hT
                have hw0 : IntKind.i64.wrap (K0 : Int) = (K0 : Int) := by rw [IntKind.wrap_i64]; omega
                go_simp
                exact hK _ _ hS (Below.refl _ _) rfl
              · intro ac w1 hS hT hB hD K hK
                have g30 : ac.tmps.getD 30 undef = .bool false := hD ⟨2, .guard⟩ (by simp) rfl _ 30 rfl rfl
                rw [if_pos (want_t (j := 2) (d := 30) rfl rfl g30)]
                clear g30
                have d5 : ac.tmps.getD 5 undef = .string B := hB 5 (by kernel_rfl)
                clear hB hD hT
                go_simp
                exact hK _ _ hS (Below.refl _ _) rfl
              · intro ac w1 hS hT hB hD K hK
                have g30 : ac.tmps.getD 30 undef = .bool false := hD ⟨2, .guard⟩ (by simp) rfl _ 30 rfl rfl
                rw [if_pos (want_t (j := 2) (d := 30) rfl rfl g30)]
                clear g30
                have d35 : ac.tmps.getD 35 undef = .string B := hD ⟨7, .data⟩ (by simp) rfl _ 35 rfl rfl
                clear hB hD hT
                go_simp
                exact hK _ _ hS (Below.refl _ _) rfl
              · intro ac w1 hS hT hB hD K hK
                have g30 : ac.tmps.getD 30 undef = .bool false := hD ⟨2, .guard⟩ (by simp) rfl _ 30 rfl rfl
                rw [if_pos (want_t (j := 2) (d := 30) rfl rfl g30)]
                clear g30
                have d31 : ac.tmps.getD 31 undef = .agg #[.int .i64 o.m, .int .i64 o.c, .int .i64 o.t, .int .i64 o.ec, .bool o.sd, .bool o.ok, .bool o.sp, (Value.slice va o.rs.length vcap)] := hD ⟨3, .data⟩ (by simp) rfl _ 31 rfl rfl
                have d34 : ac.tmps.getD 34 undef = .int .i64 (K0 : Int) := hD ⟨6, .data⟩ (by simp) rfl _ 34 rfl rfl
                have d36 : ac.tmps.getD 36 undef = .int .i64 (B.size : Int) := hD ⟨8, .data⟩ (by simp) rfl _ 36 rfl rfl
                clear hB hD hT
                go_simp
                refine (HFO.out _).mono ?_
                rintro e w' ⟨rfl, hb⟩
                exact hK _ _ (bt hS hb) hb rfl
              · intro ac w1 hS hT hB hD K hK
                have g30 : ac.tmps.getD 30 undef = .bool false := hD ⟨2, .guard⟩ (by simp) rfl _ 30 rfl rfl
                rw [if_pos (want_t (j := 2) (d := 30) rfl rfl g30)]
                clear g30
                have d37 : ac.tmps.getD 37 undef = .bool false := hD ⟨9, .data⟩ (by simp) rfl _ 37 rfl rfl
                clear hB hD hT
                go_simp
                exact hK _ _ hS (Below.refl _ _) rfl
              · intro ac w1 hS hT hB hD K hK
                rw [if_pos (by rfl)]
                have d30 : ac.tmps.getD 30 undef = .bool false := hD ⟨2, .data⟩ (by simp) rfl _ 30 rfl rfl
                have d38 : ac.tmps.getD 38 undef = .bool true := hD ⟨10, .data⟩ (by simp) rfl _ 38 rfl rfl
                clear hB hD hT
                go_simp
                exact hK _ _ hS (Below.refl _ _) rfl
            · intro ac w8 hS8 hT hdf hB hF
              obtain ⟨⟨l⟩, df⟩ := ac
              match l, hT with
              | x0 :: x1 :: x2 :: x3 :: x4 :: x5 :: x6 :: x7 :: x8 :: x9 :: x10 :: x11 :: x12 :: x13 :: x14 :: x15 :: x16 :: x17 :: x18 :: x19 :: x20 :: x21 :: x22 :: x23 :: x24 :: x25 :: x26 :: x27 :: x28 :: x29 :: x30 :: x31 :: x32 :: x33 :: x34 :: x35 :: x36 :: x37 :: x38 :: x39 :: x40 :: x41 :: x42 :: x43 :: x44 :: x45 :: x46 :: x47 :: x48 :: x49 :: x50 :: x51 :: x52 :: x53 :: x54 :: x55 :: x56 :: x57 :: x58 :: x59 :: x60 :: x61 :: x62 :: [], _ =>
                have s0 : x0 = .string x := hB 0 (by kernel_rfl)
                have s1 : x1 = undef := hB 1 (by kernel_rfl)
                have s2 : x2 = .pointer (some ⟨w.heap.size, 0, none⟩) := hB 2 (by kernel_rfl)
                have s4 : x4 = .pointer (some ⟨w.heap.size + 1, 0, none⟩) := hB 4 (by kernel_rfl)
                have s5 : x5 = .string B := hB 5 (by kernel_rfl)
                have s6 : x6 = .bool true := hB 6 (by kernel_rfl)
                have s7 : x7 = .string s := hB 7 (by kernel_rfl)
                have s8 : x8 = .int .i64 (s.size : Int) := hB 8 (by kernel_rfl)
                have s9 : x9 = .bool false := hB 9 (by kernel_rfl)
                have s10 : x10 = undef := hB 10 (by kernel_rfl)
                have s58 : x58 = undef := hB 58 (by kernel_rfl)
                have s59 : x59 = undef := hB 59 (by kernel_rfl)
                have s60 : x60 = undef := hB 60 (by kernel_rfl)
                have s61 : x61 = undef := hB 61 (by kernel_rfl)
                have s62 : x62 = undef := hB 62 (by kernel_rfl)
                subst s0 s1 s2 s4 s5 s6 s7 s8 s9 s10 s58 s59 s60 s61 s62
                have s39 : x39 = .bool true := hF 11 _ 39 rfl rfl
                have sdf : df = [] := hdf
                subst s39 sdf
                clear hB hF hT
                obtain ⟨⟨r0, r1, r2, r3, r4, r5, r6, r7⟩, ⟨g0, g1, g2, g3, g4, g5, g6, g7⟩, -⟩ := (HR.out.later hS8).eight
                go_wp2
                exact bodyPost_ret (v := .tuple #[.agg #[.int .i64 0, .int .i64 0, .int .i64 0, .int .i64 0, .bool false, .bool false, .bool false, .slice none 0 0], .int .i64 70]) (by simp [results, Tryz.results88, go_sem, r0, r1, r2, r3, r4, r5, r6, r7]) rfl (by rw [HRN.out]; exact ⟨rfl, below8 (bt hbl hS8) (Nat.le_refl _) _ _ _ _ _ _ _ _⟩)
        · have HRN : Hid (okO RN = none) := by
            show _ = _
            rw [← HRUN.out, HRM, hf]
            rfl
          have HFT : Hid (∀ W, Calls Tryz.prog 102 #[.string x] W fun e w' => e = .returned (.tuple #[.string ⟨#[]⟩, .bool false]) ∧ w' = W) := fun W => first_f x W hx40 hf
          clear HRM hf
          go_wp2_with fail
          refine (HFT.out _).mono ?_
          rintro en w0 ⟨rfl, hw0⟩
          rw [hw0]
          clear hw0 w0
          go_wp2
          go_quiet (fail)
          have hq := below_drewN (Below.refl wr.heap.size wr) nq
          obtain ⟨⟨r0, r1, r2, r3, r4, r5, r6, r7⟩, ⟨g0, g1, g2, g3, g4, g5, g6, g7⟩, -⟩ := (HR.out.later hq).eight
          go_wp2
          exact bodyPost_ret (v := .tuple #[.agg #[.int .i64 0, .int .i64 0, .int .i64 0, .int .i64 0, .bool false, .bool false, .bool false, .slice none 0 0], .int .i64 70]) (by simp [results, Tryz.results88, go_sem, r0, r1, r2, r3, r4, r5, r6, r7]) rfl (by rw [HRN.out]; exact ⟨rfl, below8 (bt hbl hq) (Nat.le_refl _) _ _ _ _ _ _ _ _⟩)
end Go.Proofs.YthjbmloemmggaaaGreatDoor
