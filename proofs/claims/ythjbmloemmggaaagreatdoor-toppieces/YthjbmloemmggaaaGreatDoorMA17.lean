/- the texts Ok, Ol, in part, merged by program -/
import Derived.Test.YthjbmloemmggaaaGreatDoorRows
import Derived.WalkKit
import Derived.WalkSpells
import Derived.RegionTactic
import Derived.Below
import Derived.Laws.OwnMore
import Derived.Laws.AppendOwn
import Derived.Laws.AppendOwnNone
import Derived.Deep.LoopGhost
import Derived.Lib.Repeat
import Derived.Deep.RegionHeld3
import Derived.Deep.QuietTactic
import Derived.BigQuiet
import Derived.WalkSmall
import Derived.Laws.StructEq
import Derived.BigRegion
import Derived.Test.YthjbmloemmggaaaGreatDoorMA01
import Derived.Test.YthjbmloemmggaaaGreatDoorMA02
import Derived.Test.YthjbmloemmggaaaGreatDoorMA16
namespace Go.Proofs.YthjbmloemmggaaaGreatDoor
open Go.RowKit
set_option maxRecDepth 100000

structure Op where
  m : Int
  c : Int
  t : Int
  ec : Int
  sd : Bool
  ok : Bool
  sp : Bool
  rs : List (Int × Int)
def Op.zero : Op := ⟨0, 0, 0, 0, false, false, false, []⟩
def pairsL (b : List UInt8) : List (Int × Int) := (List.range (b.length / 8)).map fun i => (numL ((b.drop (i * 8)).take 4), numL ((b.drop (i * 8 + 4)).take 4))
def followsB (o : Op) (kind : Int) (n : Nat) : Bool :=
  if kind = 5 then decide (n ≠ 0 ∧ n % 8 = 0) && decide (o.rs.length = 0)
  else if kind = 2 then decide (n = 2) && !(o.m != 0)
  else if kind = 3 then decide (n = 1) && !o.sd
  else if kind = 4 then decide (n = 0) && !o.ok
  else if kind = 8 then decide (n = 8) && !o.sp
  else true
def takeO (o : Op) (kind : Int) (b : List UInt8) : Op :=
  if kind = 5 then { o with rs := pairsL b }
  else if kind = 2 then { o with m := numL b }
  else if kind = 3 then { o with sd := true, c := numL b }
  else if kind = 4 then { o with ok := true }
  else if kind = 8 then { o with sp := true, t := numL (b.take 4), ec := numL (b.drop 4) }
  else o
def saysB (kind : Int) (b : List UInt8) : Bool := !(decide (kind = 2) && decide (numL b = 0))
def stepO (o : Op) (kind : Int) (b : List UInt8) : Option Op := if (followsB o kind b.length && saysB kind b) = true then some (takeO o kind b) else none
def runO : Nat → List UInt8 → Op → Option Op
  | 0, _, o => some o
  | _ + 1, [], o => some o
  | f + 1, k :: l, o =>
    if k = 0 then some o else if k = 1 then runO f l o else
      match l with
      | [] => none
      | n :: l' => if n.toNat < 2 ∨ l'.length + 2 < n.toNat then none else match stepO o (k.toNat : Int) (l'.take (n.toNat - 2)) with
        | none => none
        | some o' => runO f (l'.drop (n.toNat - 2)) o'
def Op.may (o : Op) : Bool := mayO o.m o.c o.t o.ec o.sd o.ok o.sp o.rs
def decO (l : List UInt8) : Option Op := if 40 < l.length then none else match runO 41 l Op.zero with
  | none => none
  | some o => if o.may = true then some o else none
theorem runO_fuel : ∀ (f : Nat) (l : List UInt8) (o : Op) (g : Nat), l.length < f → l.length < g → runO f l o = runO g l o
  | 0, l, _, _, h, _ => absurd h (Nat.not_lt_zero _)
  | f + 1, [], o, g, _, h => by
    cases g with
    | zero => exact absurd h (Nat.not_lt_zero _)
    | succ g => rfl
  | f + 1, k :: l, o, g, h1, h2 => by
    cases g with
    | zero => exact absurd h2 (Nat.not_lt_zero _)
    | succ g =>
      simp only [List.length_cons] at h1 h2
      simp only [runO]
      by_cases e0 : k = 0
      · rw [if_pos e0, if_pos e0]
      · rw [if_neg e0, if_neg e0]
        by_cases e1 : k = 1
        · rw [if_pos e1, if_pos e1]; exact runO_fuel f l o g (by omega) (by omega)
        · rw [if_neg e1, if_neg e1]
          cases l with
          | nil => rfl
          | cons n l' =>
            simp only [List.length_cons] at h1 h2
            simp only
            by_cases e2 : n.toNat < 2 ∨ l'.length + 2 < n.toNat
            · rw [if_pos e2, if_pos e2]
            · rw [if_neg e2, if_neg e2]
              cases stepO o (k.toNat : Int) (l'.take (n.toNat - 2)) with
              | none => rfl
              | some o' => exact runO_fuel f _ o' g (by rw [List.length_drop]; omega) (by rw [List.length_drop]; omega)

theorem get_o (s : ByteArray) (off k : Int) (w : World) (hs : s.size ≤ maxLen) : Calls Tryz.prog 116 #[.string s, .int .i64 off, .int .i64 k] w fun e w' => e = .returned (.int .i64 (getV s off k)) ∧ Below w.heap.size w w' := by
  go_enter Tryz.func116, Tryz.ntmps116
  go_wp2_with fail
  refine (get_any _ _ _ _ hs).mono ?_
  rintro e w' ⟨rfl, hb⟩
  go_wp2
  go_ret
  exact ⟨rfl, hb⟩
theorem getV_t (s : ByteArray) (off k : Nat) (k1 : 1 ≤ k) (k6 : k ≤ 6) (h : off + k ≤ s.size) : getV s off k = numL ((s.data.toList.drop off).take k) := by
  unfold getV getB
  rw [if_pos (decide_eq_true ⟨by omega, by omega, by omega, by omega⟩)]
  unfold numS
  congr 1
  rw [show ((off : Int)).toNat = off by omega, show ((off : Int) + (k : Int)).toNat = off + k by omega]
  rw [ByteArray.data_extract, Array.toList_extract, List.extract_eq_take_drop]
  congr 1
  omega
def firstB (s : ByteArray) : Bool := decide (2 ≤ s.size ∧ 2 ≤ (s.data.toList.getD 1 0).toNat ∧ (s.data.toList.getD 1 0).toNat ≤ s.size)
def firstN (s : ByteArray) : Nat := (s.data.toList.getD 1 0).toNat
theorem byte1 (s : ByteArray) (h : 1 < s.size) : (s[1].toNat : Int) = (firstN s : Int) := by
  unfold firstN
  have h' : 1 < s.data.toList.length := by simpa using h
  rw [List.getD_eq_getElem?_getD, List.getElem?_eq_getElem h']
  rfl
theorem first_t (s : ByteArray) (w : World) (hs : s.size ≤ 40) (h : firstB s = true) : Calls Tryz.prog 102 #[.string s] w fun e w' => e = .returned (.tuple #[.string (s.extract 2 (firstN s)), .bool true]) ∧ w' = w := by
  unfold firstB at h
  obtain ⟨h1, h2, h3⟩ := of_decide_eq_true h
  have hb := byte1 s (by omega)
  have h2' : 2 ≤ firstN s := h2
  have h3' : firstN s ≤ s.size := h3
  have g1 : (2 : Int) ≤ (s.size : Int) := by omega
  have g2 : (s.size : Int) ≤ 40 := by omega
  have g3 : (2 : Int) ≤ (firstN s : Int) := by omega
  have g4 : (firstN s : Int) ≤ (s.size : Int) := by omega
  have g5 : (1 : Int) < (s.size : Int) := by omega
  generalize firstN s = n at *
  clear h h2 h3 h2' h3'
  go_enter Tryz.func102, Tryz.ntmps102
  go_wp2
  go_ret2
  exact ⟨rfl, rfl⟩
theorem first_f (s : ByteArray) (w : World) (hs : s.size ≤ 40) (h : firstB s = false) : Calls Tryz.prog 102 #[.string s] w fun e w' => e = .returned (.tuple #[.string ⟨#[]⟩, .bool false]) ∧ w' = w := by
  unfold firstB at h
  have h := of_decide_eq_false h
  have g2 : (s.size : Int) ≤ 40 := by omega
  by_cases h1 : 2 ≤ s.size
  · have hb := byte1 s (by omega)
    have g1 : (2 : Int) ≤ (s.size : Int) := by omega
    have g5 : (1 : Int) < (s.size : Int) := by omega
    have g6 : firstN s < 2 ∨ s.size < firstN s := by
      unfold firstN
      omega
    have g9 : (firstN s : Int) ≤ 255 := by unfold firstN; have := (s.data.toList.getD 1 0).toNat_lt; omega
    generalize firstN s = n at *
    clear h
    rcases g6 with g6 | g6
    · have g7 : (n : Int) < 2 := by omega
      go_enter Tryz.func102, Tryz.ntmps102
      go_wp2
      go_ret2
      exact ⟨rfl, rfl⟩
    · have g7 : (s.size : Int) < (n : Int) := by omega
      by_cases g8 : (n : Int) < 2
      · exfalso; omega
      · go_enter Tryz.func102, Tryz.ntmps102
        go_wp2
        go_ret2
        exact ⟨rfl, rfl⟩
  · have g1 : (s.size : Int) < 2 := by omega
    go_enter Tryz.func102, Tryz.ntmps102
    go_wp2
    go_ret2
    exact ⟨rfl, rfl⟩
theorem follows_2 (m c t ec : Int) (sd ok sp : Bool) (a : Option Addr) (cap : Nat) (rs : List (Int × Int)) (n : Nat) (w : World) (hn : n ≤ 40) :
    Calls Tryz.prog 103 #[.agg #[.int .i64 m, .int .i64 c, .int .i64 t, .int .i64 ec, .bool sd, .bool ok, .bool sp, (.slice a rs.length cap)], .int .i64 2, .int .i64 n] w fun e w' => e = .returned (.bool (decide (n = 2) && !(m != 0))) ∧ Below w.heap.size w w' := by
  have hA := At.box w #[.int .i64 m, .int .i64 c, .int .i64 t, .int .i64 ec, .bool sd, .bool ok, .bool sp, (.slice a rs.length cap)] 52
  have hl := bel1 w (.cells #[.int .i64 m, .int .i64 c, .int .i64 t, .int .i64 ec, .bool sd, .bool ok, .bool sp, (.slice a rs.length cap)] 52)
  obtain ⟨⟨c0, c1, c2, c3, c4, c5, c6, c7⟩, -, -⟩ := hA.eight
  have hn' : (n : Int) ≤ 40 := by omega
  by_cases h : n = 2
  · subst h
    rcases Bool.eq_false_or_eq_true (m != 0) with hh | hh
    all_goals
      have hq := fun W => has_2 m c t ec sd ok sp a rs.length cap W
      rw [hh] at hq
      rw [hh]
      have HQ : Hid (∀ W, Calls Tryz.prog 115 #[.agg #[.int .i64 m, .int .i64 c, .int .i64 t, .int .i64 ec, .bool sd, .bool ok, .bool sp, (.slice a rs.length cap)], .int .i64 2] W fun e w' => e = .returned (.bool _) ∧ Below W.heap.size W w') := hq
      clear hh hq
      go_enter Tryz.func103, Tryz.ntmps103
      go_wp2_with fail
      refine (fixed_2 _).mono ?_
      rintro e w1 ⟨rfl, rfl⟩
      go_wp2_with fail
      refine (HQ.out _).mono ?_
      rintro e w2 ⟨rfl, hb⟩
      go_wp2
      go_ret
      exact ⟨rfl, bt hl hb⟩
  · have hne : ¬ (n : Int) = 2 := by omega
    rw [decide_eq_false h, Bool.false_and]
    clear h
    go_enter Tryz.func103, Tryz.ntmps103
    go_wp2_with fail
    refine (fixed_2 _).mono ?_
    rintro e w1 ⟨rfl, rfl⟩
    go_wp2
    go_ret
    exact ⟨rfl, hl⟩
theorem follows_3 (m c t ec : Int) (sd ok sp : Bool) (a : Option Addr) (cap : Nat) (rs : List (Int × Int)) (n : Nat) (w : World) (hn : n ≤ 40) :
    Calls Tryz.prog 103 #[.agg #[.int .i64 m, .int .i64 c, .int .i64 t, .int .i64 ec, .bool sd, .bool ok, .bool sp, (.slice a rs.length cap)], .int .i64 3, .int .i64 n] w fun e w' => e = .returned (.bool (decide (n = 1) && !(sd))) ∧ Below w.heap.size w w' := by
  have hA := At.box w #[.int .i64 m, .int .i64 c, .int .i64 t, .int .i64 ec, .bool sd, .bool ok, .bool sp, (.slice a rs.length cap)] 52
  have hl := bel1 w (.cells #[.int .i64 m, .int .i64 c, .int .i64 t, .int .i64 ec, .bool sd, .bool ok, .bool sp, (.slice a rs.length cap)] 52)
  obtain ⟨⟨c0, c1, c2, c3, c4, c5, c6, c7⟩, -, -⟩ := hA.eight
  have hn' : (n : Int) ≤ 40 := by omega
  by_cases h : n = 1
  · subst h
    cases sd
    all_goals
      go_enter Tryz.func103, Tryz.ntmps103
      go_wp2_with fail
      refine (fixed_3 _).mono ?_
      rintro e w1 ⟨rfl, rfl⟩
      go_wp2_with fail
      refine (has_3 _ _ _ _ _ _ _ _ _ _ _).mono ?_
      rintro e w2 ⟨rfl, hb⟩
      go_wp2
      go_ret
      exact ⟨rfl, bt hl hb⟩
  · have hne : ¬ (n : Int) = 1 := by omega
    rw [decide_eq_false h, Bool.false_and]
    clear h
    go_enter Tryz.func103, Tryz.ntmps103
    go_wp2_with fail
    refine (fixed_3 _).mono ?_
    rintro e w1 ⟨rfl, rfl⟩
    go_wp2
    go_ret
    exact ⟨rfl, hl⟩
theorem follows_4 (m c t ec : Int) (sd ok sp : Bool) (a : Option Addr) (cap : Nat) (rs : List (Int × Int)) (n : Nat) (w : World) (hn : n ≤ 40) :
    Calls Tryz.prog 103 #[.agg #[.int .i64 m, .int .i64 c, .int .i64 t, .int .i64 ec, .bool sd, .bool ok, .bool sp, (.slice a rs.length cap)], .int .i64 4, .int .i64 n] w fun e w' => e = .returned (.bool (decide (n = 0) && !(ok))) ∧ Below w.heap.size w w' := by
  have hA := At.box w #[.int .i64 m, .int .i64 c, .int .i64 t, .int .i64 ec, .bool sd, .bool ok, .bool sp, (.slice a rs.length cap)] 52
  have hl := bel1 w (.cells #[.int .i64 m, .int .i64 c, .int .i64 t, .int .i64 ec, .bool sd, .bool ok, .bool sp, (.slice a rs.length cap)] 52)
  obtain ⟨⟨c0, c1, c2, c3, c4, c5, c6, c7⟩, -, -⟩ := hA.eight
  have hn' : (n : Int) ≤ 40 := by omega
  by_cases h : n = 0
  · subst h
    cases ok
    all_goals
      go_enter Tryz.func103, Tryz.ntmps103
      go_wp2_with fail
      refine (fixed_4 _).mono ?_
      rintro e w1 ⟨rfl, rfl⟩
      go_wp2_with fail
      refine (has_4 _ _ _ _ _ _ _ _ _ _ _).mono ?_
      rintro e w2 ⟨rfl, hb⟩
      go_wp2
      go_ret
      exact ⟨rfl, bt hl hb⟩
  · have hne : ¬ (n : Int) = 0 := by omega
    rw [decide_eq_false h, Bool.false_and]
    clear h
    go_enter Tryz.func103, Tryz.ntmps103
    go_wp2_with fail
    refine (fixed_4 _).mono ?_
    rintro e w1 ⟨rfl, rfl⟩
    go_wp2
    go_ret
    exact ⟨rfl, hl⟩
theorem follows_8 (m c t ec : Int) (sd ok sp : Bool) (a : Option Addr) (cap : Nat) (rs : List (Int × Int)) (n : Nat) (w : World) (hn : n ≤ 40) :
    Calls Tryz.prog 103 #[.agg #[.int .i64 m, .int .i64 c, .int .i64 t, .int .i64 ec, .bool sd, .bool ok, .bool sp, (.slice a rs.length cap)], .int .i64 8, .int .i64 n] w fun e w' => e = .returned (.bool (decide (n = 8) && !(sp))) ∧ Below w.heap.size w w' := by
  have hA := At.box w #[.int .i64 m, .int .i64 c, .int .i64 t, .int .i64 ec, .bool sd, .bool ok, .bool sp, (.slice a rs.length cap)] 52
  have hl := bel1 w (.cells #[.int .i64 m, .int .i64 c, .int .i64 t, .int .i64 ec, .bool sd, .bool ok, .bool sp, (.slice a rs.length cap)] 52)
  obtain ⟨⟨c0, c1, c2, c3, c4, c5, c6, c7⟩, -, -⟩ := hA.eight
  have hn' : (n : Int) ≤ 40 := by omega
  by_cases h : n = 8
  · subst h
    cases sp
    all_goals
      go_enter Tryz.func103, Tryz.ntmps103
      go_wp2_with fail
      refine (fixed_8 _).mono ?_
      rintro e w1 ⟨rfl, rfl⟩
      go_wp2_with fail
      refine (has_8 _ _ _ _ _ _ _ _ _ _ _).mono ?_
      rintro e w2 ⟨rfl, hb⟩
      go_wp2
      go_ret
      exact ⟨rfl, bt hl hb⟩
  · have hne : ¬ (n : Int) = 8 := by omega
    rw [decide_eq_false h, Bool.false_and]
    clear h
    go_enter Tryz.func103, Tryz.ntmps103
    go_wp2_with fail
    refine (fixed_8 _).mono ?_
    rintro e w1 ⟨rfl, rfl⟩
    go_wp2
    go_ret
    exact ⟨rfl, hl⟩
theorem follows_5 (m c t ec : Int) (sd ok sp : Bool) (a : Option Addr) (cap : Nat) (rs : List (Int × Int)) (n : Nat) (w : World) (hn : n ≤ 40) :
    Calls Tryz.prog 103 #[.agg #[.int .i64 m, .int .i64 c, .int .i64 t, .int .i64 ec, .bool sd, .bool ok, .bool sp, (.slice a rs.length cap)], .int .i64 5, .int .i64 n] w fun e w' => e = .returned (.bool (decide (n ≠ 0 ∧ n % 8 = 0) && decide (rs.length = 0))) ∧ Below w.heap.size w w' := by
  have hA := At.box w #[.int .i64 m, .int .i64 c, .int .i64 t, .int .i64 ec, .bool sd, .bool ok, .bool sp, (.slice a rs.length cap)] 52
  have hl := bel1 w (.cells #[.int .i64 m, .int .i64 c, .int .i64 t, .int .i64 ec, .bool sd, .bool ok, .bool sp, (.slice a rs.length cap)] 52)
  obtain ⟨⟨c0, c1, c2, c3, c4, c5, c6, c7⟩, -, -⟩ := hA.eight
  have hn' : (n : Int) ≤ 40 := by omega
  by_cases h0 : n = 0
  · subst h0
    rw [decide_eq_false (by omega), Bool.false_and]
    go_enter Tryz.func103, Tryz.ntmps103
    go_wp2
    go_ret
    exact ⟨rfl, hl⟩
  · have hne : ¬ (n : Int) = 0 := by omega
    have hn0 : (0 : Int) ≤ (n : Int) := by omega
    by_cases h8 : n % 8 = 0
    · have h8' : (n : Int) % 8 = 0 := by omega
      rw [decide_eq_true ⟨h0, h8⟩, Bool.true_and]
      have hb : decide (rs.length = 0) = !(decide (0 < rs.length)) := by
        rw [← decide_not]; exact decide_eq_decide.2 (by omega)
      rw [hb]
      clear hb
      rcases Bool.eq_false_or_eq_true (decide (0 < rs.length)) with hh | hh
      all_goals
        have hq := fun W => has_5 m c t ec sd ok sp a rs.length cap W
        rw [hh] at hq
        rw [hh]
        have HQ : Hid (∀ W, Calls Tryz.prog 115 #[.agg #[.int .i64 m, .int .i64 c, .int .i64 t, .int .i64 ec, .bool sd, .bool ok, .bool sp, (.slice a rs.length cap)], .int .i64 5] W fun e w' => e = .returned (.bool _) ∧ Below W.heap.size W w') := hq
        clear hh hq h8 h0
        go_enter Tryz.func103, Tryz.ntmps103
        go_wp2_with fail
        refine (fixed_5 _).mono ?_
        rintro e w1 ⟨rfl, rfl⟩
        go_wp2_with fail
        refine (HQ.out _).mono ?_
        rintro e w2 ⟨rfl, hb⟩
        go_wp2
        go_ret
        exact ⟨rfl, bt hl hb⟩
    · have h8' : ¬ (n : Int) % 8 = 0 := by omega
      rw [decide_eq_false (by omega), Bool.false_and]
      clear h8 h0
      go_enter Tryz.func103, Tryz.ntmps103
      go_wp2_with fail
      refine (fixed_5 _).mono ?_
      rintro e w1 ⟨rfl, rfl⟩
      go_wp2
      go_ret
      exact ⟨rfl, hl⟩
theorem follows_any (o : Op) (a : Option Addr) (cap : Nat) (kind : Int) (n : Nat) (w : World) (hn : n ≤ 40) :
    Calls Tryz.prog 103 #[.agg #[.int .i64 o.m, .int .i64 o.c, .int .i64 o.t, .int .i64 o.ec, .bool o.sd, .bool o.ok, .bool o.sp, .slice a o.rs.length cap], .int .i64 kind, .int .i64 n] w fun e w' => e = .returned (.bool (followsB o kind n)) ∧ Below w.heap.size w w' := by
  obtain ⟨m, c, t, ec, sd, ok, sp, rs⟩ := o
  show Calls Tryz.prog 103 #[.agg #[.int .i64 m, .int .i64 c, .int .i64 t, .int .i64 ec, .bool sd, .bool ok, .bool sp, (.slice a rs.length cap)], .int .i64 kind, .int .i64 n] w _
  unfold followsB
  by_cases h5 : kind = 5
  · subst h5; rw [if_pos rfl]; exact follows_5 m c t ec sd ok sp a cap rs n w hn
  rw [if_neg h5]
  by_cases h2 : kind = 2
  · subst h2; rw [if_pos rfl]; exact follows_2 m c t ec sd ok sp a cap rs n w hn
  rw [if_neg h2]
  by_cases h3 : kind = 3
  · subst h3; rw [if_pos rfl]; exact follows_3 m c t ec sd ok sp a cap rs n w hn
  rw [if_neg h3]
  by_cases h4 : kind = 4
  · subst h4; rw [if_pos rfl]; exact follows_4 m c t ec sd ok sp a cap rs n w hn
  rw [if_neg h4]
  by_cases h8 : kind = 8
  · subst h8; rw [if_pos rfl]; exact follows_8 m c t ec sd ok sp a cap rs n w hn
  rw [if_neg h8]
  have hl := bel1 w (.cells #[.int .i64 m, .int .i64 c, .int .i64 t, .int .i64 ec, .bool sd, .bool ok, .bool sp, (.slice a rs.length cap)] 52)
  go_enter Tryz.func103, Tryz.ntmps103
  go_wp2
  go_ret
  exact ⟨rfl, hl⟩
end Go.Proofs.YthjbmloemmggaaaGreatDoor

namespace Go.Proofs.YthjbmloemmggaaaGreatDoor
open Go.RowKit
set_option maxRecDepth 100000

theorem two_news {X : World} {g : Nat} {x y : Int} (h0 : X.cell? ⟨g, 0, none⟩ = some (.int .i64 x)) (h1 : X.cell? ⟨g, 1, none⟩ = some (.int .i64 y)) : ∀ j u, [Value.int .i64 x, .int .i64 y][j]? = some u → X.cell? ((⟨g, 0, none⟩ : Addr).add j) = some u := by
  intro j u hu
  have hj : j < 2 := (List.getElem?_eq_some_iff.1 hu).1
  obtain rfl | rfl : j = 0 ∨ j = 1 := by omega
  · obtain rfl := Option.some.inj hu; exact h0
  · obtain rfl := Option.some.inj hu; exact h1
theorem toList_size (b : ByteArray) : b.data.toList.length = b.size := by simp
set_option maxRecDepth 100000 in
set_option maxHeartbeats 2000000 in
theorem read_3 (m c t ec : Int) (sd ok sp : Bool) (a : Option Addr) (cap : Nat) (rs : List (Int × Int)) (R0 : Nat) (w : World) (hown : w.ownsRow R0 180 2 (.slice a rs.length cap) rs.length (flatR rs)) (b : ByteArray) (hs : b.size = 1) :
    Calls Tryz.prog 104 #[.agg #[.int .i64 m, .int .i64 c, .int .i64 t, .int .i64 ec, .bool sd, .bool ok, .bool sp, (.slice a rs.length cap)], .int .i64 3, .string b] w fun en w' => en = .returned (.tuple #[.agg #[.int .i64 m, .int .i64 ((numL ((b.data.toList.drop 0).take 1))), .int .i64 t, .int .i64 ec, .bool true, .bool ok, .bool sp, .slice a rs.length cap], .bool true]) ∧ w'.ownsRow R0 180 2 (.slice a rs.length cap) rs.length (flatR rs) ∧ Below w.heap.size w w' := by
  have hb1 := bel1 w (.cells #[.int .i64 m, .int .i64 c, .int .i64 t, .int .i64 ec, .bool sd, .bool ok, .bool sp, (.slice a rs.length cap)] 52)
  have hb2 := bel1 (w.alloc (.cells #[.int .i64 m, .int .i64 c, .int .i64 t, .int .i64 ec, .bool sd, .bool ok, .bool sp, (.slice a rs.length cap)] 52)) (.cells #[.int .i64 0, .int .i64 0, .int .i64 0, .int .i64 0, .bool false, .bool false, .bool false, .slice none 0 0] 52)
  have hA := (At.box w #[.int .i64 m, .int .i64 c, .int .i64 t, .int .i64 ec, .bool sd, .bool ok, .bool sp, (.slice a rs.length cap)] 52).later hb2
  have hR := At.box2 w (.cells #[.int .i64 m, .int .i64 c, .int .i64 t, .int .i64 ec, .bool sd, .bool ok, .bool sp, (.slice a rs.length cap)] 52) #[.int .i64 0, .int .i64 0, .int .i64 0, .int .i64 0, .bool false, .bool false, .bool false, .slice none 0 0] 52
  have hl := bt hb1 hb2
  obtain ⟨X0, hn0⟩ : ∃ x, x = numL ((b.data.toList.drop 0).take 1) := ⟨_, rfl⟩
  have hg0 : ∀ W, Calls Tryz.prog 116 #[.string b, .int .i64 0, .int .i64 1] W fun e w' => e = .returned (.int .i64 X0) ∧ Below W.heap.size W w' := fun W => by
    have := get_o b 0 1 W (by unfold maxLen; omega)
    rw [show getV b (0 : Int) (1 : Int) = numL ((b.data.toList.drop 0).take 1) from getV_t b 0 1 (by decide) (by decide) (by omega), ← hn0] at this
    exact this
  rw [← hn0]
  have HN0 : Hid (X0 = numL ((b.data.toList.drop 0).take 1)) := hn0
  clear hn0
  obtain ⟨⟨c0, c1, c2, c3, c4, c5, c6, c7⟩, -, -⟩ := hA.eight
  go_enter Tryz.func104, Tryz.ntmps104
  go_wp2_with fail
  refine (hg0 _).mono ?_
  rintro en w1 ⟨rfl, hb⟩
  replace hl := bt hl hb
  replace hA := hA.later hb
  replace hR := hR.later hb
  clear c0 c1 c2 c3 c4 c5 c6 c7 hb hb1 hb2
  obtain ⟨⟨c0, c1, c2, c3, c4, c5, c6, c7⟩, ⟨f0, f1, f2, f3, f4, f5, f6, f7⟩, -⟩ := hA.eight
  obtain ⟨⟨r0, r1, r2, r3, r4, r5, r6, r7⟩, ⟨g0, g1, g2, g3, g4, g5, g6, g7⟩, -⟩ := hR.eight
  go_wp2
  have hBB := below8 ((hl.setCell (p := ⟨w.heap.size, 4, none⟩) (Nat.le_refl _) (.bool true)).setCell (p := ⟨w.heap.size, 1, none⟩) (Nat.le_refl _) (.int .i64 X0)) (Nat.le_succ _) (.int .i64 m) (.int .i64 X0) (.int .i64 t) (.int .i64 ec) (.bool true) (.bool ok) (.bool sp) (.slice a rs.length cap)
  exact bodyPost_ret (v := .tuple #[.agg #[.int .i64 m, .int .i64 X0, .int .i64 t, .int .i64 ec, .bool true, .bool ok, .bool sp, .slice a rs.length cap], .bool true]) (by simp [results, Tryz.results104, go_sem, r0, r1, r2, r3, r4, r5, r6, r7]) rfl ⟨rfl, own_later hown hBB, hBB⟩
set_option maxRecDepth 100000 in
set_option maxHeartbeats 2000000 in
theorem read_4 (m c t ec : Int) (sd ok sp : Bool) (a : Option Addr) (cap : Nat) (rs : List (Int × Int)) (R0 : Nat) (w : World) (hown : w.ownsRow R0 180 2 (.slice a rs.length cap) rs.length (flatR rs)) (b : ByteArray) :
    Calls Tryz.prog 104 #[.agg #[.int .i64 m, .int .i64 c, .int .i64 t, .int .i64 ec, .bool sd, .bool ok, .bool sp, (.slice a rs.length cap)], .int .i64 4, .string b] w fun en w' => en = .returned (.tuple #[.agg #[.int .i64 m, .int .i64 c, .int .i64 t, .int .i64 ec, .bool sd, .bool true, .bool sp, .slice a rs.length cap], .bool true]) ∧ w'.ownsRow R0 180 2 (.slice a rs.length cap) rs.length (flatR rs) ∧ Below w.heap.size w w' := by
  have hb1 := bel1 w (.cells #[.int .i64 m, .int .i64 c, .int .i64 t, .int .i64 ec, .bool sd, .bool ok, .bool sp, (.slice a rs.length cap)] 52)
  have hb2 := bel1 (w.alloc (.cells #[.int .i64 m, .int .i64 c, .int .i64 t, .int .i64 ec, .bool sd, .bool ok, .bool sp, (.slice a rs.length cap)] 52)) (.cells #[.int .i64 0, .int .i64 0, .int .i64 0, .int .i64 0, .bool false, .bool false, .bool false, .slice none 0 0] 52)
  have hA := (At.box w #[.int .i64 m, .int .i64 c, .int .i64 t, .int .i64 ec, .bool sd, .bool ok, .bool sp, (.slice a rs.length cap)] 52).later hb2
  have hR := At.box2 w (.cells #[.int .i64 m, .int .i64 c, .int .i64 t, .int .i64 ec, .bool sd, .bool ok, .bool sp, (.slice a rs.length cap)] 52) #[.int .i64 0, .int .i64 0, .int .i64 0, .int .i64 0, .bool false, .bool false, .bool false, .slice none 0 0] 52
  have hl := bt hb1 hb2
  obtain ⟨⟨c0, c1, c2, c3, c4, c5, c6, c7⟩, ⟨f0, f1, f2, f3, f4, f5, f6, f7⟩, -⟩ := hA.eight
  obtain ⟨⟨r0, r1, r2, r3, r4, r5, r6, r7⟩, ⟨g0, g1, g2, g3, g4, g5, g6, g7⟩, -⟩ := hR.eight
  go_enter Tryz.func104, Tryz.ntmps104
  go_wp2
  have hBB := bt (bel1 w (.cells (#[.int .i64 m, .int .i64 c, .int .i64 t, .int .i64 ec, .bool sd, .bool true, .bool sp, .slice a rs.length cap]) 52)) (bel1 _ (.cells (#[.int .i64 m, .int .i64 c, .int .i64 t, .int .i64 ec, .bool sd, .bool true, .bool sp, .slice a rs.length cap]) 52))
  exact bodyPost_ret (v := .tuple #[.agg #[.int .i64 m, .int .i64 c, .int .i64 t, .int .i64 ec, .bool sd, .bool true, .bool sp, .slice a rs.length cap], .bool true]) (by simp [results, Tryz.results104, go_sem]) rfl ⟨rfl, own_later hown hBB, hBB⟩
set_option maxRecDepth 100000 in
set_option maxHeartbeats 2000000 in
theorem read_8 (m c t ec : Int) (sd ok sp : Bool) (a : Option Addr) (cap : Nat) (rs : List (Int × Int)) (R0 : Nat) (w : World) (hown : w.ownsRow R0 180 2 (.slice a rs.length cap) rs.length (flatR rs)) (b : ByteArray) (hs : b.size = 8) :
    Calls Tryz.prog 104 #[.agg #[.int .i64 m, .int .i64 c, .int .i64 t, .int .i64 ec, .bool sd, .bool ok, .bool sp, (.slice a rs.length cap)], .int .i64 8, .string b] w fun en w' => en = .returned (.tuple #[.agg #[.int .i64 m, .int .i64 c, .int .i64 ((numL ((b.data.toList.drop 0).take 4))), .int .i64 ((numL ((b.data.toList.drop 4).take 4))), .bool sd, .bool ok, .bool true, .slice a rs.length cap], .bool true]) ∧ w'.ownsRow R0 180 2 (.slice a rs.length cap) rs.length (flatR rs) ∧ Below w.heap.size w w' := by
  have hb1 := bel1 w (.cells #[.int .i64 m, .int .i64 c, .int .i64 t, .int .i64 ec, .bool sd, .bool ok, .bool sp, (.slice a rs.length cap)] 52)
  have hb2 := bel1 (w.alloc (.cells #[.int .i64 m, .int .i64 c, .int .i64 t, .int .i64 ec, .bool sd, .bool ok, .bool sp, (.slice a rs.length cap)] 52)) (.cells #[.int .i64 0, .int .i64 0, .int .i64 0, .int .i64 0, .bool false, .bool false, .bool false, .slice none 0 0] 52)
  have hA := (At.box w #[.int .i64 m, .int .i64 c, .int .i64 t, .int .i64 ec, .bool sd, .bool ok, .bool sp, (.slice a rs.length cap)] 52).later hb2
  have hR := At.box2 w (.cells #[.int .i64 m, .int .i64 c, .int .i64 t, .int .i64 ec, .bool sd, .bool ok, .bool sp, (.slice a rs.length cap)] 52) #[.int .i64 0, .int .i64 0, .int .i64 0, .int .i64 0, .bool false, .bool false, .bool false, .slice none 0 0] 52
  have hl := bt hb1 hb2
  obtain ⟨X0, hn0⟩ : ∃ x, x = numL ((b.data.toList.drop 0).take 4) := ⟨_, rfl⟩
  have hg0 : ∀ W, Calls Tryz.prog 116 #[.string b, .int .i64 0, .int .i64 4] W fun e w' => e = .returned (.int .i64 X0) ∧ Below W.heap.size W w' := fun W => by
    have := get_o b 0 4 W (by unfold maxLen; omega)
    rw [show getV b (0 : Int) (4 : Int) = numL ((b.data.toList.drop 0).take 4) from getV_t b 0 4 (by decide) (by decide) (by omega), ← hn0] at this
    exact this
  obtain ⟨X1, hn1⟩ : ∃ x, x = numL ((b.data.toList.drop 4).take 4) := ⟨_, rfl⟩
  have hg1 : ∀ W, Calls Tryz.prog 116 #[.string b, .int .i64 4, .int .i64 4] W fun e w' => e = .returned (.int .i64 X1) ∧ Below W.heap.size W w' := fun W => by
    have := get_o b 4 4 W (by unfold maxLen; omega)
    rw [show getV b (4 : Int) (4 : Int) = numL ((b.data.toList.drop 4).take 4) from getV_t b 4 4 (by decide) (by decide) (by omega), ← hn1] at this
    exact this
  rw [← hn0, ← hn1]
  clear hn0 hn1
  obtain ⟨⟨c0, c1, c2, c3, c4, c5, c6, c7⟩, -, -⟩ := hA.eight
  go_enter Tryz.func104, Tryz.ntmps104
  go_wp2_with fail
  refine (hg0 _).mono ?_
  rintro en w1 ⟨rfl, hb⟩
  replace hl := bt hl hb
  replace hA := hA.later hb
  replace hR := hR.later hb
  clear c0 c1 c2 c3 c4 c5 c6 c7 hb hb1 hb2
  go_wp2_with fail
  refine (hg1 _).mono ?_
  rintro en w2 ⟨rfl, hb⟩
  replace hl := bt hl hb
  replace hA := hA.later hb
  replace hR := hR.later hb
  clear hb
  obtain ⟨⟨c0, c1, c2, c3, c4, c5, c6, c7⟩, ⟨f0, f1, f2, f3, f4, f5, f6, f7⟩, -⟩ := hA.eight
  obtain ⟨⟨r0, r1, r2, r3, r4, r5, r6, r7⟩, ⟨g0, g1, g2, g3, g4, g5, g6, g7⟩, -⟩ := hR.eight
  go_wp2
  have hBB := below8 (((hl.setCell (p := ⟨w.heap.size, 6, none⟩) (Nat.le_refl _) (.bool true)).setCell (p := ⟨w.heap.size, 2, none⟩) (Nat.le_refl _) (.int .i64 X0)).setCell (p := ⟨w.heap.size, 3, none⟩) (Nat.le_refl _) (.int .i64 X1)) (Nat.le_succ _) (.int .i64 m) (.int .i64 c) (.int .i64 X0) (.int .i64 X1) (.bool sd) (.bool ok) (.bool true) (.slice a rs.length cap)
  exact bodyPost_ret (v := .tuple #[.agg #[.int .i64 m, .int .i64 c, .int .i64 X0, .int .i64 X1, .bool sd, .bool ok, .bool true, .slice a rs.length cap], .bool true]) (by simp [results, Tryz.results104, go_sem, r0, r1, r2, r3, r4, r5, r6, r7]) rfl ⟨rfl, own_later hown hBB, hBB⟩
set_option maxRecDepth 100000 in
set_option maxHeartbeats 2000000 in
theorem read_x (m c t ec : Int) (sd ok sp : Bool) (a : Option Addr) (cap : Nat) (rs : List (Int × Int)) (R0 : Nat) (w : World) (hown : w.ownsRow R0 180 2 (.slice a rs.length cap) rs.length (flatR rs)) (b : ByteArray) (kind : Int) (h2 : ¬ kind = 2) (h3 : ¬ kind = 3) (h4 : ¬ kind = 4) (h8 : ¬ kind = 8) (h5 : ¬ kind = 5) :
    Calls Tryz.prog 104 #[.agg #[.int .i64 m, .int .i64 c, .int .i64 t, .int .i64 ec, .bool sd, .bool ok, .bool sp, (.slice a rs.length cap)], .int .i64 kind, .string b] w fun en w' => en = .returned (.tuple #[.agg #[.int .i64 m, .int .i64 c, .int .i64 t, .int .i64 ec, .bool sd, .bool ok, .bool sp, .slice a rs.length cap], .bool true]) ∧ w'.ownsRow R0 180 2 (.slice a rs.length cap) rs.length (flatR rs) ∧ Below w.heap.size w w' := by
  have hb1 := bel1 w (.cells #[.int .i64 m, .int .i64 c, .int .i64 t, .int .i64 ec, .bool sd, .bool ok, .bool sp, (.slice a rs.length cap)] 52)
  have hb2 := bel1 (w.alloc (.cells #[.int .i64 m, .int .i64 c, .int .i64 t, .int .i64 ec, .bool sd, .bool ok, .bool sp, (.slice a rs.length cap)] 52)) (.cells #[.int .i64 0, .int .i64 0, .int .i64 0, .int .i64 0, .bool false, .bool false, .bool false, .slice none 0 0] 52)
  have hA := (At.box w #[.int .i64 m, .int .i64 c, .int .i64 t, .int .i64 ec, .bool sd, .bool ok, .bool sp, (.slice a rs.length cap)] 52).later hb2
  have hR := At.box2 w (.cells #[.int .i64 m, .int .i64 c, .int .i64 t, .int .i64 ec, .bool sd, .bool ok, .bool sp, (.slice a rs.length cap)] 52) #[.int .i64 0, .int .i64 0, .int .i64 0, .int .i64 0, .bool false, .bool false, .bool false, .slice none 0 0] 52
  have hl := bt hb1 hb2
  obtain ⟨⟨c0, c1, c2, c3, c4, c5, c6, c7⟩, ⟨f0, f1, f2, f3, f4, f5, f6, f7⟩, -⟩ := hA.eight
  obtain ⟨⟨r0, r1, r2, r3, r4, r5, r6, r7⟩, ⟨g0, g1, g2, g3, g4, g5, g6, g7⟩, -⟩ := hR.eight
  go_enter Tryz.func104, Tryz.ntmps104
  go_wp2
  have hBB := bt (bel1 w (.cells (#[.int .i64 m, .int .i64 c, .int .i64 t, .int .i64 ec, .bool sd, .bool ok, .bool sp, .slice a rs.length cap]) 52)) (bel1 _ (.cells (#[.int .i64 m, .int .i64 c, .int .i64 t, .int .i64 ec, .bool sd, .bool ok, .bool sp, .slice a rs.length cap]) 52))
  exact bodyPost_ret (v := .tuple #[.agg #[.int .i64 m, .int .i64 c, .int .i64 t, .int .i64 ec, .bool sd, .bool ok, .bool sp, .slice a rs.length cap], .bool true]) (by simp [results, Tryz.results104, go_sem]) rfl ⟨rfl, own_later hown hBB, hBB⟩
set_option maxRecDepth 100000 in
set_option maxHeartbeats 2000000 in
theorem read_2 (m c t ec : Int) (sd ok sp : Bool) (a : Option Addr) (cap : Nat) (rs : List (Int × Int)) (R0 : Nat) (w : World) (hown : w.ownsRow R0 180 2 (.slice a rs.length cap) rs.length (flatR rs)) (b : ByteArray) (hs : b.size = 2) :
    Calls Tryz.prog 104 #[.agg #[.int .i64 m, .int .i64 c, .int .i64 t, .int .i64 ec, .bool sd, .bool ok, .bool sp, (.slice a rs.length cap)], .int .i64 2, .string b] w fun en w' => en = .returned (.tuple #[.agg #[.int .i64 ((numL ((b.data.toList.drop 0).take 2))), .int .i64 c, .int .i64 t, .int .i64 ec, .bool sd, .bool ok, .bool sp, .slice a rs.length cap], .bool (numL ((b.data.toList.drop 0).take 2) != 0)]) ∧ w'.ownsRow R0 180 2 (.slice a rs.length cap) rs.length (flatR rs) ∧ Below w.heap.size w w' := by
  have hb1 := bel1 w (.cells #[.int .i64 m, .int .i64 c, .int .i64 t, .int .i64 ec, .bool sd, .bool ok, .bool sp, (.slice a rs.length cap)] 52)
  have hb2 := bel1 (w.alloc (.cells #[.int .i64 m, .int .i64 c, .int .i64 t, .int .i64 ec, .bool sd, .bool ok, .bool sp, (.slice a rs.length cap)] 52)) (.cells #[.int .i64 0, .int .i64 0, .int .i64 0, .int .i64 0, .bool false, .bool false, .bool false, .slice none 0 0] 52)
  have hA := (At.box w #[.int .i64 m, .int .i64 c, .int .i64 t, .int .i64 ec, .bool sd, .bool ok, .bool sp, (.slice a rs.length cap)] 52).later hb2
  have hR := At.box2 w (.cells #[.int .i64 m, .int .i64 c, .int .i64 t, .int .i64 ec, .bool sd, .bool ok, .bool sp, (.slice a rs.length cap)] 52) #[.int .i64 0, .int .i64 0, .int .i64 0, .int .i64 0, .bool false, .bool false, .bool false, .slice none 0 0] 52
  have hl := bt hb1 hb2
  obtain ⟨X0, hn0⟩ : ∃ x, x = numL ((b.data.toList.drop 0).take 2) := ⟨_, rfl⟩
  have hg0 : ∀ W, Calls Tryz.prog 116 #[.string b, .int .i64 0, .int .i64 2] W fun e w' => e = .returned (.int .i64 X0) ∧ Below W.heap.size W w' := fun W => by
    have := get_o b 0 2 W (by unfold maxLen; omega)
    rw [show getV b (0 : Int) (2 : Int) = numL ((b.data.toList.drop 0).take 2) from getV_t b 0 2 (by decide) (by decide) (by omega), ← hn0] at this
    exact this
  rw [← hn0]
  clear hn0
  obtain ⟨⟨c0, c1, c2, c3, c4, c5, c6, c7⟩, -, -⟩ := hA.eight
  go_enter Tryz.func104, Tryz.ntmps104
  go_wp2_with fail
  refine (hg0 _).mono ?_
  rintro en w1 ⟨rfl, hb⟩
  replace hl := bt hl hb
  replace hA := hA.later hb
  replace hR := hR.later hb
  clear c0 c1 c2 c3 c4 c5 c6 c7 hb hb1 hb2
  obtain ⟨⟨c0, c1, c2, c3, c4, c5, c6, c7⟩, ⟨f0, f1, f2, f3, f4, f5, f6, f7⟩, -⟩ := hA.eight
  obtain ⟨⟨r0, r1, r2, r3, r4, r5, r6, r7⟩, ⟨g0, g1, g2, g3, g4, g5, g6, g7⟩, -⟩ := hR.eight
  go_wp2
  go_region
  all_goals
    go_wp2
    have hBB := (below8 (hl.setCell (p := ⟨w.heap.size, 0, none⟩) (Nat.le_refl _) (.int .i64 X0)) (Nat.le_succ _) (.int .i64 X0) (.int .i64 c) (.int .i64 t) (.int .i64 ec) (.bool sd) (.bool ok) (.bool sp) (.slice a rs.length cap)).drew
    exact bodyPost_ret (v := .tuple #[.agg #[.int .i64 X0, .int .i64 c, .int .i64 t, .int .i64 ec, .bool sd, .bool ok, .bool sp, .slice a rs.length cap], .bool (X0 != 0)]) (by simp [results, Tryz.results104, go_sem, r0, r1, r2, r3, r4, r5, r6, r7]) rfl ⟨rfl, own_later hown hBB, hBB⟩
theorem pairs_at (b : ByteArray) (k : Nat) (hk : k < b.size / 8) : (pairsL b.data.toList)[k]? = some (numL ((b.data.toList.drop (k * 8)).take 4), numL ((b.data.toList.drop (k * 8 + 4)).take 4)) := by
  unfold pairsL
  rw [toList_size, List.getElem?_map, List.getElem?_range hk]
  rfl
theorem pairs_len (b : ByteArray) : (pairsL b.data.toList).length = b.size / 8 := by simp [pairsL]
theorem takeL_snoc {α : Type} (l : List α) (k : Nat) (x : α) (h : l[k]? = some x) : l.take (k + 1) = l.take k ++ [x] := by
  obtain ⟨hk, rfl⟩ := List.getElem?_eq_some_iff.1 h
  exact List.take_succ_eq_append_getElem hk
set_option maxRecDepth 100000 in
set_option maxHeartbeats 4000000 in
theorem read_5 (m c t ec : Int) (sd ok sp : Bool) (w : World) (b : ByteArray) (hs : b.size ≤ 40) (h0 : b.size ≠ 0) (h8 : b.size % 8 = 0) :
    Calls Tryz.prog 104 #[.agg #[.int .i64 m, .int .i64 c, .int .i64 t, .int .i64 ec, .bool sd, .bool ok, .bool sp, (.slice none 0 0)], .int .i64 5, .string b] w fun en w' => ∃ v', en = .returned (.tuple #[.agg #[.int .i64 m, .int .i64 c, .int .i64 t, .int .i64 ec, .bool sd, .bool ok, .bool sp, v'], .bool true]) ∧ w'.ownsRow w.heap.size 180 2 v' (pairsL b.data.toList).length (flatR (pairsL b.data.toList)) ∧ Below w.heap.size w w' := by
  obtain ⟨i0, hi, hz0, hz1, hz2⟩ := info_parts Tryz.info180
  have HI : Hid (Tryz.prog.info? 180 = some i0 ∧ i0.zero = some (.agg #[.int .i64 0, .int .i64 0]) ∧ i0.size = 2 ∧ i0.bytes = 16) := ⟨hi, hz0, hz1, hz2⟩
  clear hi hz0 hz1 hz2
  have hb1 := bel1 w (.cells #[.int .i64 m, .int .i64 c, .int .i64 t, .int .i64 ec, .bool sd, .bool ok, .bool sp, (.slice none 0 0)] 52)
  have hb2 := bel1 (w.alloc (.cells #[.int .i64 m, .int .i64 c, .int .i64 t, .int .i64 ec, .bool sd, .bool ok, .bool sp, (.slice none 0 0)] 52)) (.cells #[.int .i64 0, .int .i64 0, .int .i64 0, .int .i64 0, .bool false, .bool false, .bool false, .slice none 0 0] 52)
  have hA := (At.box w #[.int .i64 m, .int .i64 c, .int .i64 t, .int .i64 ec, .bool sd, .bool ok, .bool sp, (.slice none 0 0)] 52).later hb2
  have hR := At.box2 w (.cells #[.int .i64 m, .int .i64 c, .int .i64 t, .int .i64 ec, .bool sd, .bool ok, .bool sp, (.slice none 0 0)] 52) #[.int .i64 0, .int .i64 0, .int .i64 0, .int .i64 0, .bool false, .bool false, .bool false, .slice none 0 0] 52
  have hl := bt hb1 hb2
  have hsz : w.heap.size + 2 ≤ ((w.alloc (.cells #[.int .i64 m, .int .i64 c, .int .i64 t, .int .i64 ec, .bool sd, .bool ok, .bool sp, (.slice none 0 0)] 52)).alloc (.cells #[.int .i64 0, .int .i64 0, .int .i64 0, .int .i64 0, .bool false, .bool false, .bool false, .slice none 0 0] 52)).heap.size := by simp
  have HST : Hid (Below w.heap.size w ((w.alloc (.cells #[.int .i64 m, .int .i64 c, .int .i64 t, .int .i64 ec, .bool sd, .bool ok, .bool sp, (.slice none 0 0)] 52)).alloc (.cells #[.int .i64 0, .int .i64 0, .int .i64 0, .int .i64 0, .bool false, .bool false, .bool false, .slice none 0 0] 52)) ∧ w.heap.size + 2 ≤ ((w.alloc (.cells #[.int .i64 m, .int .i64 c, .int .i64 t, .int .i64 ec, .bool sd, .bool ok, .bool sp, (.slice none 0 0)] 52)).alloc (.cells #[.int .i64 0, .int .i64 0, .int .i64 0, .int .i64 0, .bool false, .bool false, .bool false, .slice none 0 0] 52)).heap.size ∧ At ((w.alloc (.cells #[.int .i64 m, .int .i64 c, .int .i64 t, .int .i64 ec, .bool sd, .bool ok, .bool sp, (.slice none 0 0)] 52)).alloc (.cells #[.int .i64 0, .int .i64 0, .int .i64 0, .int .i64 0, .bool false, .bool false, .bool false, .slice none 0 0] 52)) w.heap.size #[.int .i64 m, .int .i64 c, .int .i64 t, .int .i64 ec, .bool sd, .bool ok, .bool sp, (.slice none 0 0)] ∧ At ((w.alloc (.cells #[.int .i64 m, .int .i64 c, .int .i64 t, .int .i64 ec, .bool sd, .bool ok, .bool sp, (.slice none 0 0)] 52)).alloc (.cells #[.int .i64 0, .int .i64 0, .int .i64 0, .int .i64 0, .bool false, .bool false, .bool false, .slice none 0 0] 52)) (w.heap.size + 1) #[.int .i64 0, .int .i64 0, .int .i64 0, .int .i64 0, .bool false, .bool false, .bool false, .slice none 0 0]) := ⟨hl, hsz, hA, hR⟩
  clear hb1 hb2 hA hR hl hsz
  obtain ⟨N, hN⟩ : ∃ N, N = b.size / 8 := ⟨_, rfl⟩
  have HN : Hid (b.size = N * 8) := by show _ = _; omega
  have hN1 : 1 ≤ N := by omega
  have hN5 : N ≤ 5 := by omega
  have hbs : (b.size : Int) = (N : Int) * 8 := by omega
  have hpl := pairs_len b
  rw [← hN] at hpl
  have HPL : Hid ((pairsL b.data.toList).length = N) := hpl
  have HAT : Hid (∀ k, k < N → (pairsL b.data.toList)[k]? = some (numL ((b.data.toList.drop (k * 8)).take 4), numL ((b.data.toList.drop (k * 8 + 4)).take 4))) := fun k hk => pairs_at b k (by omega)
  clear hN hpl h8 h0
  go_enter Tryz.func104, Tryz.ntmps104
  go_wp2
  go_loopw [8] (fun s W => ∃ (k : Nat) (v : Value), k ≤ N ∧ s = .int .i64 ((k * 8 : Nat) : Int) ∧ Below w.heap.size w W ∧ w.heap.size + 2 ≤ W.heap.size ∧ At W w.heap.size #[.int .i64 m, .int .i64 c, .int .i64 t, .int .i64 ec, .bool sd, .bool ok, .bool sp, v] ∧ At W (w.heap.size + 1) #[.int .i64 0, .int .i64 0, .int .i64 0, .int .i64 0, .bool false, .bool false, .bool false, .slice none 0 0] ∧ W.ownsRow (w.heap.size + 2) 180 2 v k (flatR ((pairsL b.data.toList).take k))) (fun s _ => N * 8 - (intOf s).toNat)
  case atStart => exact ⟨0, .slice none 0 0, Nat.zero_le _, by simp, HST.out.1, HST.out.2.1, HST.out.2.2.1, HST.out.2.2.2, World.ownsRow_nil _ _ _ _⟩
  case round =>
    obtain ⟨k, v, hk, rfl, hbl, hsz, hA, hR, hown⟩ := hrel
    clear HST
    by_cases hlt : k < N
    · obtain ⟨p, hp⟩ : ∃ p, p = k * 8 := ⟨_, rfl⟩
      rw [← hp]
      have hpk := HAT.out k hlt
      rw [← hp] at hpk
      have HTK := takeL_snoc _ k _ hpk
      have hp4 : p + 8 ≤ b.size := by omega
      have HGX0 := fun W => get_o b p 4 W (by unfold maxLen; omega)
      have HGY0 := fun W => get_o b ((p : Int) + 4) 4 W (by unfold maxLen; omega)
      have eX : getV b (p : Int) 4 = numL ((b.data.toList.drop p).take 4) := getV_t b p 4 (by decide) (by decide) (by omega)
      have eY : getV b ((p : Int) + 4) 4 = numL ((b.data.toList.drop (p + 4)).take 4) := by have := getV_t b (p + 4) 4 (by decide) (by decide) (by omega); rw [← this]; rfl
      rw [eX] at HGX0
      rw [eY] at HGY0
      generalize numL ((b.data.toList.drop p).take 4) = X at *
      generalize numL ((b.data.toList.drop (p + 4)).take 4) = Y at *
      have HGX : Hid (∀ W, Calls Tryz.prog 116 #[.string b, .int .i64 (p : Int), .int .i64 4] W fun e w' => e = .returned (.int .i64 X) ∧ Below W.heap.size W w') := HGX0
      have HGY : Hid (∀ W, Calls Tryz.prog 116 #[.string b, .int .i64 ((p : Int) + 4), .int .i64 4] W fun e w' => e = .returned (.int .i64 Y) ∧ Below W.heap.size W w') := HGY0
      have HTKH : Hid ((pairsL b.data.toList).take (k + 1) = (pairsL b.data.toList).take k ++ [(X, Y)]) := HTK
      have HP : Hid (p = k * 8) := hp
      have g1 : (p : Int) < (b.size : Int) := by omega
      have g2 : (p : Int) ≤ 40 := by omega
      clear HGX0 HGY0 eX eY hpk HTK hp
      have HA : Hid (At wr w.heap.size #[.int .i64 m, .int .i64 c, .int .i64 t, .int .i64 ec, .bool sd, .bool ok, .bool sp, v]) := hA
      have HR : Hid (At wr (w.heap.size + 1) #[.int .i64 0, .int .i64 0, .int .i64 0, .int .i64 0, .bool false, .bool false, .bool false, .slice none 0 0]) := hR
      have HO : Hid (wr.ownsRow (w.heap.size + 2) 180 2 v k (flatR ((pairsL b.data.toList).take k))) := hown
      clear hA hR hown
      go_wp2
      refine wp_region_any (by kernel_rfl) ?_
      refine region_facts_end (fun W => Below wr.heap.size wr W) (GE (fun i => match i with | 0 => .pointer (some ⟨w.heap.size, 7, none⟩) | 1 => v | 2 => .string b | 3 => .int .i64 (p : Int) | 4 => .int .i64 X | 5 => .string b | 6 => .int .i64 (p : Int) | 7 => .int .i64 ((p : Int) + 4) | 8 => .int .i64 Y | 9 => .agg #[.int .i64 X, .int .i64 Y] | _ => undef) (fun i => match i with | 10 => some (fun v W => ∃ g, v = .slice (some ⟨g, 0, none⟩) 1 1 ∧ g < W.heap.size ∧ W.cell? ⟨g, 0, none⟩ = some (.int .i64 X) ∧ W.cell? ⟨g, 1, none⟩ = some (.int .i64 Y)) | _ => none)) (n := 59) 11 8 (by kernel_rfl) (by kernel_rfl) rfl (by kernel_rfl) (GE_later _ _ (by
        intro i F hF v w w' h hb
        match i, hF with
        | 10, hF =>
          obtain rfl := Option.some.inj hF
          obtain ⟨g, hg, h1, h2, h3⟩ := h
          exact ⟨g, hg, Nat.lt_of_lt_of_le h1 hb.size, later hb h2, later hb h3⟩)) ?_ ?_ ((Below.refl _ _).drew) (Nat.le_refl _)
      · skip
        refine ⟨?_, ?_, ?_, ?_, ?_, ?_, ?_, ?_, ?_, ?_, ?_, trivial⟩
        · intro ac w1 hS hT hB hD K hK
          rw [if_pos (by rfl)]
          have d3 : ac.tmps.getD 3 undef = .pointer (some ⟨w.heap.size, 0, none⟩) := hB 3 (by kernel_rfl)
          clear hB hD hT
          go_simp
          exact hK _ _ hS (Below.refl _ _) rfl
        · intro ac w1 hS hT hB hD K hK
          rw [if_pos (by rfl)]
          have d45 : ac.tmps.getD 45 undef = .pointer (some ⟨w.heap.size, 7, none⟩) := hD ⟨0, .data⟩ (by simp) rfl _ 45 rfl rfl
          clear hB hD hT
          have hc := (HA.out.later hS).eight.1
          go_simp
          exact hK _ _ hS (Below.refl _ _) rfl
        · intro ac w1 hS hT hB hD K hK
          rw [if_pos (by rfl)]
          have d2 : ac.tmps.getD 2 undef = .string b := hB 2 (by kernel_rfl)
          clear hB hD hT
          go_simp
          exact hK _ _ hS (Below.refl _ _) rfl
        · intro ac w1 hS hT hB hD K hK
          rw [if_pos (by rfl)]
          have d8 : ac.tmps.getD 8 undef = .int .i64 (p : Int) := hB 8 (by kernel_rfl)
          clear hB hD hT
          go_simp
          exact hK _ _ hS (Below.refl _ _) rfl
        · intro ac w1 hS hT hB hD K hK
          rw [if_pos (by rfl)]
          have d47 : ac.tmps.getD 47 undef = .string b := hD ⟨2, .data⟩ (by simp) rfl _ 47 rfl rfl
          have d48 : ac.tmps.getD 48 undef = .int .i64 (p : Int) := hD ⟨3, .data⟩ (by simp) rfl _ 48 rfl rfl
          clear hB hD hT
          go_simp
          refine (HGX.out _).mono ?_
          rintro e w' ⟨rfl, hb⟩
          exact hK _ _ (bt hS hb) hb rfl
        · intro ac w1 hS hT hB hD K hK
          rw [if_pos (by rfl)]
          have d2 : ac.tmps.getD 2 undef = .string b := hB 2 (by kernel_rfl)
          clear hB hD hT
          go_simp
          exact hK _ _ hS (Below.refl _ _) rfl
        · intro ac w1 hS hT hB hD K hK
          rw [if_pos (by rfl)]
          have d8 : ac.tmps.getD 8 undef = .int .i64 (p : Int) := hB 8 (by kernel_rfl)
          clear hB hD hT
          go_simp
          exact hK _ _ hS (Below.refl _ _) rfl
        · intro ac w1 hS hT hB hD K hK
          rw [if_pos (by rfl)]
          have d51 : ac.tmps.getD 51 undef = .int .i64 (p : Int) := hD ⟨6, .data⟩ (by simp) rfl _ 51 rfl rfl
          clear hB hD hT
          have hw1 : IntKind.i64.wrap ((p : Int) + 4) = (p : Int) + 4 := by rw [IntKind.wrap_i64]; omega
          go_simp
          exact hK _ _ hS (Below.refl _ _) rfl
        · intro ac w1 hS hT hB hD K hK
          rw [if_pos (by rfl)]
          have d50 : ac.tmps.getD 50 undef = .string b := hD ⟨5, .data⟩ (by simp) rfl _ 50 rfl rfl
          have d52 : ac.tmps.getD 52 undef = .int .i64 ((p : Int) + 4) := hD ⟨7, .data⟩ (by simp) rfl _ 52 rfl rfl
          clear hB hD hT
          go_simp
          refine (HGY.out _).mono ?_
          rintro e w' ⟨rfl, hb⟩
          exact hK _ _ (bt hS hb) hb rfl
        · intro ac w1 hS hT hB hD K hK
          rw [if_pos (by rfl)]
          have d49 : ac.tmps.getD 49 undef = .int .i64 X := hD ⟨4, .data⟩ (by simp) rfl _ 49 rfl rfl
          have d53 : ac.tmps.getD 53 undef = .int .i64 Y := hD ⟨8, .data⟩ (by simp) rfl _ 53 rfl rfl
          clear hB hD
          obtain ⟨⟨l⟩, df⟩ := ac
          match l, hT with
          | x0 :: x1 :: x2 :: x3 :: x4 :: x5 :: x6 :: x7 :: x8 :: x9 :: x10 :: x11 :: x12 :: x13 :: x14 :: x15 :: x16 :: x17 :: x18 :: x19 :: x20 :: x21 :: x22 :: x23 :: x24 :: x25 :: x26 :: x27 :: x28 :: x29 :: x30 :: x31 :: x32 :: x33 :: x34 :: x35 :: x36 :: x37 :: x38 :: x39 :: x40 :: x41 :: x42 :: x43 :: x44 :: x45 :: x46 :: x47 :: x48 :: x49 :: x50 :: x51 :: x52 :: x53 :: x54 :: x55 :: x56 :: x57 :: x58 :: [], _ =>
            have q49 : x49 = .int .i64 X := d49
            have q53 : x53 = .int .i64 Y := d53
            clear d49 d53
            subst q49 q53
            go_simp
            exact hK _ _ hS (Below.refl _ _) rfl
        · intro ac w1 hS hT hB hD K hK
          rw [if_pos (by rfl)]
          have d54 : ac.tmps.getD 54 undef = .agg #[.int .i64 X, .int .i64 Y] := hD ⟨9, .data⟩ (by simp) rfl _ 54 rfl rfl
          clear hB hD
          obtain ⟨⟨l⟩, df⟩ := ac
          match l, hT with
          | x0 :: x1 :: x2 :: x3 :: x4 :: x5 :: x6 :: x7 :: x8 :: x9 :: x10 :: x11 :: x12 :: x13 :: x14 :: x15 :: x16 :: x17 :: x18 :: x19 :: x20 :: x21 :: x22 :: x23 :: x24 :: x25 :: x26 :: x27 :: x28 :: x29 :: x30 :: x31 :: x32 :: x33 :: x34 :: x35 :: x36 :: x37 :: x38 :: x39 :: x40 :: x41 :: x42 :: x43 :: x44 :: x45 :: x46 :: x47 :: x48 :: x49 :: x50 :: x51 :: x52 :: x53 :: x54 :: x55 :: x56 :: x57 :: x58 :: [], _ =>
            have q54 : x54 = .agg #[.int .i64 X, .int .i64 Y] := d54
            clear d54
            subst q54
            go_simp
            exact hK _ _ (bt hS (bel1 _ _)) (bel1 _ _) ⟨_, rfl, by simp, ((At.box w1 #[.int .i64 X, .int .i64 Y] 180).2 0 _ rfl).1, ((At.box w1 #[.int .i64 X, .int .i64 Y] 180).2 1 _ rfl).1⟩
      · intro ac w1 hS hT hdf hB hF
        obtain ⟨⟨l⟩, df⟩ := ac
        match l, hT with
        | x0 :: x1 :: x2 :: x3 :: x4 :: x5 :: x6 :: x7 :: x8 :: x9 :: x10 :: x11 :: x12 :: x13 :: x14 :: x15 :: x16 :: x17 :: x18 :: x19 :: x20 :: x21 :: x22 :: x23 :: x24 :: x25 :: x26 :: x27 :: x28 :: x29 :: x30 :: x31 :: x32 :: x33 :: x34 :: x35 :: x36 :: x37 :: x38 :: x39 :: x40 :: x41 :: x42 :: x43 :: x44 :: x45 :: x46 :: x47 :: x48 :: x49 :: x50 :: x51 :: x52 :: x53 :: x54 :: x55 :: x56 :: x57 :: x58 :: [], _ =>
          have s0 : x0 = .agg #[.int .i64 m, .int .i64 c, .int .i64 t, .int .i64 ec, .bool sd, .bool ok, .bool sp, (.slice none 0 0)] := hB 0 (by kernel_rfl)
          have s1 : x1 = .int .i64 5 := hB 1 (by kernel_rfl)
          have s2 : x2 = .string b := hB 2 (by kernel_rfl)
          have s3 : x3 = .pointer (some ⟨w.heap.size, 0, none⟩) := hB 3 (by kernel_rfl)
          have s4 : x4 = undef := hB 4 (by kernel_rfl)
          have s5 : x5 = undef := hB 5 (by kernel_rfl)
          have s6 : x6 = .pointer (some ⟨w.heap.size + 1, 0, none⟩) := hB 6 (by kernel_rfl)
          have s7 : x7 = .bool false := hB 7 (by kernel_rfl)
          have s8 : x8 = .int .i64 (p : Int) := hB 8 (by kernel_rfl)
          have s9 : x9 = .int .i64 5 := hB 9 (by kernel_rfl)
          have s10 : x10 = .bool false := hB 10 (by kernel_rfl)
          have s11 : x11 = .bool false := hB 11 (by kernel_rfl)
          have s12 : x12 = undef := hB 12 (by kernel_rfl)
          have s13 : x13 = undef := hB 13 (by kernel_rfl)
          have s14 : x14 = undef := hB 14 (by kernel_rfl)
          have s15 : x15 = undef := hB 15 (by kernel_rfl)
          have s16 : x16 = undef := hB 16 (by kernel_rfl)
          have s17 : x17 = undef := hB 17 (by kernel_rfl)
          have s18 : x18 = undef := hB 18 (by kernel_rfl)
          have s19 : x19 = .bool false := hB 19 (by kernel_rfl)
          have s20 : x20 = .bool false := hB 20 (by kernel_rfl)
          have s21 : x21 = undef := hB 21 (by kernel_rfl)
          have s22 : x22 = undef := hB 22 (by kernel_rfl)
          have s23 : x23 = undef := hB 23 (by kernel_rfl)
          have s24 : x24 = undef := hB 24 (by kernel_rfl)
          have s25 : x25 = .bool false := hB 25 (by kernel_rfl)
          have s26 : x26 = .bool false := hB 26 (by kernel_rfl)
          have s27 : x27 = undef := hB 27 (by kernel_rfl)
          have s28 : x28 = .bool false := hB 28 (by kernel_rfl)
          have s29 : x29 = .bool false := hB 29 (by kernel_rfl)
          have s30 : x30 = undef := hB 30 (by kernel_rfl)
          have s31 : x31 = undef := hB 31 (by kernel_rfl)
          have s32 : x32 = undef := hB 32 (by kernel_rfl)
          have s33 : x33 = undef := hB 33 (by kernel_rfl)
          have s34 : x34 = undef := hB 34 (by kernel_rfl)
          have s35 : x35 = undef := hB 35 (by kernel_rfl)
          have s36 : x36 = undef := hB 36 (by kernel_rfl)
          have s37 : x37 = .bool true := hB 37 (by kernel_rfl)
          have s38 : x38 = .bool true := hB 38 (by kernel_rfl)
          have s58 : x58 = undef := hB 58 (by kernel_rfl)
          subst s0 s1 s2 s3 s4 s5 s6 s7 s8 s9 s10 s11 s12 s13 s14 s15 s16 s17 s18 s19 s20 s21 s22 s23 s24 s25 s26 s27 s28 s29 s30 s31 s32 s33 s34 s35 s36 s37 s38 s58
          have s46 : x46 = v := hF 1 _ 46 (by decide) rfl rfl
          obtain ⟨g9, s55, hg9, e9, e9'⟩ : ∃ g, x55 = .slice (some ⟨g, 0, none⟩) 1 1 ∧ g < w1.heap.size ∧ w1.cell? ⟨g, 0, none⟩ = some (.int .i64 X) ∧ w1.cell? ⟨g, 1, none⟩ = some (.int .i64 Y) := hF 10 _ 55 (by decide) rfl rfl
          have sdf : df = [] := hdf
          subst s46 s55 sdf
          clear hB hF
          have hown1 := own_later HO.out hS
          have hsz1 := Nat.le_trans hsz hS.size
          intro Kc hKc
          rw [if_pos (by rfl)]
          refine wp_append_own w1 (.tmp 46) (.tmp 55) 50 (by rfl) (w.heap.size + 2) 180 i0 (.agg #[.int .i64 0, .int .i64 0]) 2 16 Tryz.underlying50 HI.out.1 HI.out.2.1 HI.out.2.2.1 HI.out.2.2.2 rfl (by decide) x46 k (flatR ((pairsL b.data.toList).take k)) (by rfl) hown1 ⟨g9, 0, none⟩ 1 1 [.int .i64 X, .int .i64 Y] (by rfl) rfl (two_news e9 e9') (by simp [Value.oneCell']) (by unfold maxLen; omega) (by omega) hsz1 ?_
          intro v9 w9 hown9 hgrow9 hnil9
          have hbg : Below (w.heap.size + 2) w1 w9 := (Below.refl _ _).grown hgrow9 hsz1 (fun q e => (hown1.lt q e).1)
          have hA9 := (HA.out.later hS).below hbg (by omega)
          have hR9 := (HR.out.later hS).below hbg (by omega)
          have hb9 : Below w.heap.size w w9 := (bt hbl hS).trans (hbg.mono (by omega))
          have hsz9 := Nat.le_trans hsz1 hbg.size
          replace hown9 : w9.ownsRow (w.heap.size + 2) 180 2 v9 (k + 1) (flatR ((pairsL b.data.toList).take (k + 1))) := by rw [HTKH.out, flatR_snoc]; exact hown9
          rcases id hown9.2 with ⟨-, hq⟩ | ⟨g, cap9, cur, rfl, hg, -⟩
          · omega
          clear hnil9 hgrow9 hbg hown1 hsz1 e9 e9' hg9 hS
          obtain ⟨⟨c0, c1, c2, c3, c4, c5, c6, c7⟩, ⟨f0, f1, f2, f3, f4, f5, f6, f7⟩, -⟩ := hA9.eight
          apply hKc
          clear hKc Kc
          intro Kc hKc
          rw [if_pos (by rfl)]
          go_simp
          apply hKc
          clear hKc Kc
          intro Kc hKc
          rw [if_pos (by rfl)]
          go_simp
          apply hKc
          clear hKc Kc
          refine TailOk_nil ?_
          go_wp2
          go_roundw
          case rel => exact ⟨k + 1, _, by omega, by rw [Nat.add_mul, ← HP.out]; go_num, hb9.setCell (Nat.le_refl _) _, by rw [World.size_setCell]; exact hsz9, hA9.set 7 _, hR9.keep (by omega) 7 _, own_setCell hown9 w.heap.size 7 _ (by omega)⟩
          case measure => simp [intOf]; omega
    · have hkN : k = N := by omega
      subst hkN
      have hg : ¬ ((k * 8 : Nat) : Int) < (b.size : Int) := by omega
      rcases id hown.2 with ⟨-, hq⟩ | ⟨g, cap9, cur, rfl, hg9, -⟩
      · omega
      rw [List.take_of_length_le (by rw [HPL.out]; exact Nat.le_refl _)] at hown
      have HO : Hid (wr.ownsRow (w.heap.size + 2) 180 2 (.slice (some ⟨g, 0, none⟩) k cap9) k (flatR (pairsL b.data.toList))) := hown
      clear hown
      obtain ⟨⟨c0, c1, c2, c3, c4, c5, c6, c7⟩, ⟨f0, f1, f2, f3, f4, f5, f6, f7⟩, -⟩ := hA.eight
      obtain ⟨⟨r0, r1, r2, r3, r4, r5, r6, r7⟩, ⟨g0, g1, g2, g3, g4, g5, g6, g7⟩, -⟩ := hR.eight
      go_wp2
      exact bodyPost_ret (v := .tuple #[.agg #[.int .i64 m, .int .i64 c, .int .i64 t, .int .i64 ec, .bool sd, .bool ok, .bool sp, .slice (some ⟨g, 0, none⟩) k cap9], .bool true]) (by simp [results, Tryz.results104, go_sem, r0, r1, r2, r3, r4, r5, r6, r7]) rfl ⟨_, rfl, by rw [HPL.out]; exact own_mono (own_set8 HO.out (w.heap.size + 1) (by omega) _ _ _ _ _ _ _ _) (by omega), below8 hbl (Nat.le_succ _) _ _ _ _ _ _ _ _⟩
end Go.Proofs.YthjbmloemmggaaaGreatDoor
