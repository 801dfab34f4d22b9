/- Reading options as plain data, one behind the other; and the contracts of get, first and follows of package opts: each returns just the value named here; nothing that was there turns. -/
import Derived.Test.YtecoknenkjgmjabDoorOj
namespace Go.Proofs.YtecoknenkjgmjabDoor
open Go.RowKit
set_option maxRecDepth 100000

/-- Options as plain data. -/
structure Op where
  m : Int
  c : Int
  t : Int
  ec : Int
  sd : Bool
  ok : Bool
  sp : Bool
  rs : List (Int × Int)
def Op.zero : Op := ⟨0, 0, 0, 0, false, false, false, []⟩
def pairsL (b : List UInt8) : List (Int × Int) := (List.range (b.length / 8)).map fun i => (numL ((b.drop (i * 8)).take 4), numL ((b.drop (i * 8 + 4)).take 4))
/-- May an option of that kind, with so many bytes, follow? -/
def followsB (o : Op) (kind : Int) (n : Nat) : Bool :=
  if kind = 5 then decide (n ≠ 0 ∧ n % 8 = 0) && decide (o.rs.length = 0)
  else if kind = 2 then decide (n = 2) && !(o.m != 0)
  else if kind = 3 then decide (n = 1) && !o.sd
  else if kind = 4 then decide (n = 0) && !o.ok
  else if kind = 8 then decide (n = 8) && !o.sp
  else true
/-- The options with one more, that may follow. -/
def takeO (o : Op) (kind : Int) (b : List UInt8) : Op :=
  if kind = 5 then { o with rs := pairsL b }
  else if kind = 2 then { o with m := numL b }
  else if kind = 3 then { o with sd := true, c := numL b }
  else if kind = 4 then { o with ok := true }
  else if kind = 8 then { o with sp := true, t := numL (b.take 4), ec := numL (b.drop 4) }
  else o
def saysB (kind : Int) (b : List UInt8) : Bool := !(decide (kind = 2) && decide (numL b = 0))
def stepO (o : Op) (kind : Int) (b : List UInt8) : Option Op := if (followsB o kind b.length && saysB kind b) = true then some (takeO o kind b) else none
def runO : Nat → List UInt8 → Op → Option Op
  | 0, _, o => some o
  | _ + 1, [], o => some o
  | f + 1, k :: l, o =>
    if k = 0 then some o else if k = 1 then runO f l o else
      match l with
      | [] => none
      | n :: l' => if n.toNat < 2 ∨ l'.length + 2 < n.toNat then none else match stepO o (k.toNat : Int) (l'.take (n.toNat - 2)) with
        | none => none
        | some o' => runO f (l'.drop (n.toNat - 2)) o'
def Op.may (o : Op) : Bool := mayO o.m o.c o.t o.ec o.sd o.ok o.sp o.rs
def decO (l : List UInt8) : Option Op := if 40 < l.length then none else match runO 41 l Op.zero with
  | none => none
  | some o => if o.may = true then some o else none
theorem runO_fuel : ∀ (f : Nat) (l : List UInt8) (o : Op) (g : Nat), l.length < f → l.length < g → runO f l o = runO g l o
  | 0, l, _, _, h, _ => absurd h (Nat.not_lt_zero _)
  | f + 1, [], o, g, _, h => by
    cases g with
    | zero => exact absurd h (Nat.not_lt_zero _)
    | succ g => rfl
  | f + 1, k :: l, o, g, h1, h2 => by
    cases g with
    | zero => exact absurd h2 (Nat.not_lt_zero _)
    | succ g =>
      simp only [List.length_cons] at h1 h2
      simp only [runO]
      by_cases e0 : k = 0
      · rw [if_pos e0, if_pos e0]
      · rw [if_neg e0, if_neg e0]
        by_cases e1 : k = 1
        · rw [if_pos e1, if_pos e1]; exact runO_fuel f l o g (by omega) (by omega)
        · rw [if_neg e1, if_neg e1]
          cases l with
          | nil => rfl
          | cons n l' =>
            simp only [List.length_cons] at h1 h2
            simp only
            by_cases e2 : n.toNat < 2 ∨ l'.length + 2 < n.toNat
            · rw [if_pos e2, if_pos e2]
            · rw [if_neg e2, if_neg e2]
              cases stepO o (k.toNat : Int) (l'.take (n.toNat - 2)) with
              | none => rfl
              | some o' => exact runO_fuel f _ o' g (by rw [List.length_drop]; omega) (by rw [List.length_drop]; omega)

theorem get_o (s : ByteArray) (off k : Int) (w : World) (hs : s.size ≤ maxLen) : Calls Tryd.prog 82 #[.string s, .int .i64 off, .int .i64 k] w fun e w' => e = .returned (.int .i64 (getV s off k)) ∧ Below w.heap.size w w' := by
  go_enter Tryd.func82, Tryd.ntmps82
  go_wp2_with fail
  refine (get_any _ _ _ _ hs).mono ?_
  rintro e w' ⟨rfl, hb⟩
  go_wp2
  go_ret
  exact ⟨rfl, hb⟩
theorem getV_t (s : ByteArray) (off k : Nat) (k1 : 1 ≤ k) (k6 : k ≤ 6) (h : off + k ≤ s.size) : getV s off k = numL ((s.data.toList.drop off).take k) := by
  unfold getV getB
  rw [if_pos (decide_eq_true ⟨by omega, by omega, by omega, by omega⟩)]
  unfold numS
  congr 1
  rw [show ((off : Int)).toNat = off by omega, show ((off : Int) + (k : Int)).toNat = off + k by omega]
  rw [ByteArray.data_extract, Array.toList_extract, List.extract_eq_take_drop]
  congr 1
  omega
def firstB (s : ByteArray) : Bool := decide (2 ≤ s.size ∧ 2 ≤ (s.data.toList.getD 1 0).toNat ∧ (s.data.toList.getD 1 0).toNat ≤ s.size)
def firstN (s : ByteArray) : Nat := (s.data.toList.getD 1 0).toNat
theorem byte1 (s : ByteArray) (h : 1 < s.size) : (s[1].toNat : Int) = (firstN s : Int) := by
  unfold firstN
  have h' : 1 < s.data.toList.length := by simpa using h
  rw [List.getD_eq_getElem?_getD, List.getElem?_eq_getElem h']
  rfl
theorem first_t (s : ByteArray) (w : World) (hs : s.size ≤ 40) (h : firstB s = true) : Calls Tryd.prog 60 #[.string s] w fun e w' => e = .returned (.tuple #[.string (s.extract 2 (firstN s)), .bool true]) ∧ w' = w := by
  unfold firstB at h
  obtain ⟨h1, h2, h3⟩ := of_decide_eq_true h
  have hb := byte1 s (by omega)
  have h2' : 2 ≤ firstN s := h2
  have h3' : firstN s ≤ s.size := h3
  have g1 : (2 : Int) ≤ (s.size : Int) := by omega
  have g2 : (s.size : Int) ≤ 40 := by omega
  have g3 : (2 : Int) ≤ (firstN s : Int) := by omega
  have g4 : (firstN s : Int) ≤ (s.size : Int) := by omega
  have g5 : (1 : Int) < (s.size : Int) := by omega
  generalize firstN s = n at *
  clear h h2 h3 h2' h3'
  go_enter Tryd.func60, Tryd.ntmps60
  go_wp2
  go_ret2
  exact ⟨rfl, rfl⟩
theorem first_f (s : ByteArray) (w : World) (hs : s.size ≤ 40) (h : firstB s = false) : Calls Tryd.prog 60 #[.string s] w fun e w' => e = .returned (.tuple #[.string ⟨#[]⟩, .bool false]) ∧ w' = w := by
  unfold firstB at h
  have h := of_decide_eq_false h
  have g2 : (s.size : Int) ≤ 40 := by omega
  by_cases h1 : 2 ≤ s.size
  · have hb := byte1 s (by omega)
    have g1 : (2 : Int) ≤ (s.size : Int) := by omega
    have g5 : (1 : Int) < (s.size : Int) := by omega
    have g6 : firstN s < 2 ∨ s.size < firstN s := by
      unfold firstN
      omega
    have g9 : (firstN s : Int) ≤ 255 := by unfold firstN; have := (s.data.toList.getD 1 0).toNat_lt; omega
    generalize firstN s = n at *
    clear h
    rcases g6 with g6 | g6
    · have g7 : (n : Int) < 2 := by omega
      go_enter Tryd.func60, Tryd.ntmps60
      go_wp2
      go_ret2
      exact ⟨rfl, rfl⟩
    · have g7 : (s.size : Int) < (n : Int) := by omega
      by_cases g8 : (n : Int) < 2
      · exfalso; omega
      · go_enter Tryd.func60, Tryd.ntmps60
        go_wp2
        go_ret2
        exact ⟨rfl, rfl⟩
  · have g1 : (s.size : Int) < 2 := by omega
    go_enter Tryd.func60, Tryd.ntmps60
    go_wp2
    go_ret2
    exact ⟨rfl, rfl⟩
theorem follows_2 (m c t ec : Int) (sd ok sp : Bool) (a : Option Addr) (cap : Nat) (rs : List (Int × Int)) (n : Nat) (w : World) (hn : n ≤ 40) :
    Calls Tryd.prog 61 #[.agg #[.int .i64 m, .int .i64 c, .int .i64 t, .int .i64 ec, .bool sd, .bool ok, .bool sp, (.slice a rs.length cap)], .int .i64 2, .int .i64 n] w fun e w' => e = .returned (.bool (decide (n = 2) && !(m != 0))) ∧ Below w.heap.size w w' := by
  have hA := At.box w #[.int .i64 m, .int .i64 c, .int .i64 t, .int .i64 ec, .bool sd, .bool ok, .bool sp, (.slice a rs.length cap)] 26
  have hl := bel1 w (.cells #[.int .i64 m, .int .i64 c, .int .i64 t, .int .i64 ec, .bool sd, .bool ok, .bool sp, (.slice a rs.length cap)] 26)
  obtain ⟨⟨c0, c1, c2, c3, c4, c5, c6, c7⟩, -, -⟩ := hA.eight
  have hn' : (n : Int) ≤ 40 := by omega
  by_cases h : n = 2
  · subst h
    rcases Bool.eq_false_or_eq_true (m != 0) with hh | hh
    all_goals
      have hq := fun W => has_2 m c t ec sd ok sp a rs.length cap W
      rw [hh] at hq
      rw [hh]
      have HQ : Hid (∀ W, Calls Tryd.prog 73 #[.agg #[.int .i64 m, .int .i64 c, .int .i64 t, .int .i64 ec, .bool sd, .bool ok, .bool sp, (.slice a rs.length cap)], .int .i64 2] W fun e w' => e = .returned (.bool _) ∧ Below W.heap.size W w') := hq
      clear hh hq
      go_enter Tryd.func61, Tryd.ntmps61
      go_wp2_with fail
      refine (fixed_2 _).mono ?_
      rintro e w1 ⟨rfl, rfl⟩
      go_wp2_with fail
      refine (HQ.out _).mono ?_
      rintro e w2 ⟨rfl, hb⟩
      go_wp2
      go_ret
      exact ⟨rfl, bt hl hb⟩
  · have hne : ¬ (n : Int) = 2 := by omega
    rw [decide_eq_false h, Bool.false_and]
    clear h
    go_enter Tryd.func61, Tryd.ntmps61
    go_wp2_with fail
    refine (fixed_2 _).mono ?_
    rintro e w1 ⟨rfl, rfl⟩
    go_wp2
    go_ret
    exact ⟨rfl, hl⟩
theorem follows_3 (m c t ec : Int) (sd ok sp : Bool) (a : Option Addr) (cap : Nat) (rs : List (Int × Int)) (n : Nat) (w : World) (hn : n ≤ 40) :
    Calls Tryd.prog 61 #[.agg #[.int .i64 m, .int .i64 c, .int .i64 t, .int .i64 ec, .bool sd, .bool ok, .bool sp, (.slice a rs.length cap)], .int .i64 3, .int .i64 n] w fun e w' => e = .returned (.bool (decide (n = 1) && !(sd))) ∧ Below w.heap.size w w' := by
  have hA := At.box w #[.int .i64 m, .int .i64 c, .int .i64 t, .int .i64 ec, .bool sd, .bool ok, .bool sp, (.slice a rs.length cap)] 26
  have hl := bel1 w (.cells #[.int .i64 m, .int .i64 c, .int .i64 t, .int .i64 ec, .bool sd, .bool ok, .bool sp, (.slice a rs.length cap)] 26)
  obtain ⟨⟨c0, c1, c2, c3, c4, c5, c6, c7⟩, -, -⟩ := hA.eight
  have hn' : (n : Int) ≤ 40 := by omega
  by_cases h : n = 1
  · subst h
    cases sd
    all_goals
      go_enter Tryd.func61, Tryd.ntmps61
      go_wp2_with fail
      refine (fixed_3 _).mono ?_
      rintro e w1 ⟨rfl, rfl⟩
      go_wp2_with fail
      refine (has_3 _ _ _ _ _ _ _ _ _ _ _).mono ?_
      rintro e w2 ⟨rfl, hb⟩
      go_wp2
      go_ret
      exact ⟨rfl, bt hl hb⟩
  · have hne : ¬ (n : Int) = 1 := by omega
    rw [decide_eq_false h, Bool.false_and]
    clear h
    go_enter Tryd.func61, Tryd.ntmps61
    go_wp2_with fail
    refine (fixed_3 _).mono ?_
    rintro e w1 ⟨rfl, rfl⟩
    go_wp2
    go_ret
    exact ⟨rfl, hl⟩
theorem follows_4 (m c t ec : Int) (sd ok sp : Bool) (a : Option Addr) (cap : Nat) (rs : List (Int × Int)) (n : Nat) (w : World) (hn : n ≤ 40) :
    Calls Tryd.prog 61 #[.agg #[.int .i64 m, .int .i64 c, .int .i64 t, .int .i64 ec, .bool sd, .bool ok, .bool sp, (.slice a rs.length cap)], .int .i64 4, .int .i64 n] w fun e w' => e = .returned (.bool (decide (n = 0) && !(ok))) ∧ Below w.heap.size w w' := by
  have hA := At.box w #[.int .i64 m, .int .i64 c, .int .i64 t, .int .i64 ec, .bool sd, .bool ok, .bool sp, (.slice a rs.length cap)] 26
  have hl := bel1 w (.cells #[.int .i64 m, .int .i64 c, .int .i64 t, .int .i64 ec, .bool sd, .bool ok, .bool sp, (.slice a rs.length cap)] 26)
  obtain ⟨⟨c0, c1, c2, c3, c4, c5, c6, c7⟩, -, -⟩ := hA.eight
  have hn' : (n : Int) ≤ 40 := by omega
  by_cases h : n = 0
  · subst h
    cases ok
    all_goals
      go_enter Tryd.func61, Tryd.ntmps61
      go_wp2_with fail
      refine (fixed_4 _).mono ?_
      rintro e w1 ⟨rfl, rfl⟩
      go_wp2_with fail
      refine (has_4 _ _ _ _ _ _ _ _ _ _ _).mono ?_
      rintro e w2 ⟨rfl, hb⟩
      go_wp2
      go_ret
      exact ⟨rfl, bt hl hb⟩
  · have hne : ¬ (n : Int) = 0 := by omega
    rw [decide_eq_false h, Bool.false_and]
    clear h
    go_enter Tryd.func61, Tryd.ntmps61
    go_wp2_with fail
    refine (fixed_4 _).mono ?_
    rintro e w1 ⟨rfl, rfl⟩
    go_wp2
    go_ret
    exact ⟨rfl, hl⟩
theorem follows_8 (m c t ec : Int) (sd ok sp : Bool) (a : Option Addr) (cap : Nat) (rs : List (Int × Int)) (n : Nat) (w : World) (hn : n ≤ 40) :
    Calls Tryd.prog 61 #[.agg #[.int .i64 m, .int .i64 c, .int .i64 t, .int .i64 ec, .bool sd, .bool ok, .bool sp, (.slice a rs.length cap)], .int .i64 8, .int .i64 n] w fun e w' => e = .returned (.bool (decide (n = 8) && !(sp))) ∧ Below w.heap.size w w' := by
  have hA := At.box w #[.int .i64 m, .int .i64 c, .int .i64 t, .int .i64 ec, .bool sd, .bool ok, .bool sp, (.slice a rs.length cap)] 26
  have hl := bel1 w (.cells #[.int .i64 m, .int .i64 c, .int .i64 t, .int .i64 ec, .bool sd, .bool ok, .bool sp, (.slice a rs.length cap)] 26)
  obtain ⟨⟨c0, c1, c2, c3, c4, c5, c6, c7⟩, -, -⟩ := hA.eight
  have hn' : (n : Int) ≤ 40 := by omega
  by_cases h : n = 8
  · subst h
    cases sp
    all_goals
      go_enter Tryd.func61, Tryd.ntmps61
      go_wp2_with fail
      refine (fixed_8 _).mono ?_
      rintro e w1 ⟨rfl, rfl⟩
      go_wp2_with fail
      refine (has_8 _ _ _ _ _ _ _ _ _ _ _).mono ?_
      rintro e w2 ⟨rfl, hb⟩
      go_wp2
      go_ret
      exact ⟨rfl, bt hl hb⟩
  · have hne : ¬ (n : Int) = 8 := by omega
    rw [decide_eq_false h, Bool.false_and]
    clear h
    go_enter Tryd.func61, Tryd.ntmps61
    go_wp2_with fail
    refine (fixed_8 _).mono ?_
    rintro e w1 ⟨rfl, rfl⟩
    go_wp2
    go_ret
    exact ⟨rfl, hl⟩
theorem follows_5 (m c t ec : Int) (sd ok sp : Bool) (a : Option Addr) (cap : Nat) (rs : List (Int × Int)) (n : Nat) (w : World) (hn : n ≤ 40) :
    Calls Tryd.prog 61 #[.agg #[.int .i64 m, .int .i64 c, .int .i64 t, .int .i64 ec, .bool sd, .bool ok, .bool sp, (.slice a rs.length cap)], .int .i64 5, .int .i64 n] w fun e w' => e = .returned (.bool (decide (n ≠ 0 ∧ n % 8 = 0) && decide (rs.length = 0))) ∧ Below w.heap.size w w' := by
  have hA := At.box w #[.int .i64 m, .int .i64 c, .int .i64 t, .int .i64 ec, .bool sd, .bool ok, .bool sp, (.slice a rs.length cap)] 26
  have hl := bel1 w (.cells #[.int .i64 m, .int .i64 c, .int .i64 t, .int .i64 ec, .bool sd, .bool ok, .bool sp, (.slice a rs.length cap)] 26)
  obtain ⟨⟨c0, c1, c2, c3, c4, c5, c6, c7⟩, -, -⟩ := hA.eight
  have hn' : (n : Int) ≤ 40 := by omega
  by_cases h0 : n = 0
  · subst h0
    rw [decide_eq_false (by omega), Bool.false_and]
    go_enter Tryd.func61, Tryd.ntmps61
    go_wp2
    go_ret
    exact ⟨rfl, hl⟩
  · have hne : ¬ (n : Int) = 0 := by omega
    have hn0 : (0 : Int) ≤ (n : Int) := by omega
    by_cases h8 : n % 8 = 0
    · have h8' : (n : Int) % 8 = 0 := by omega
      rw [decide_eq_true ⟨h0, h8⟩, Bool.true_and]
      have hb : decide (rs.length = 0) = !(decide (0 < rs.length)) := by
        rw [← decide_not]; exact decide_eq_decide.2 (by omega)
      rw [hb]
      clear hb
      rcases Bool.eq_false_or_eq_true (decide (0 < rs.length)) with hh | hh
      all_goals
        have hq := fun W => has_5 m c t ec sd ok sp a rs.length cap W
        rw [hh] at hq
        rw [hh]
        have HQ : Hid (∀ W, Calls Tryd.prog 73 #[.agg #[.int .i64 m, .int .i64 c, .int .i64 t, .int .i64 ec, .bool sd, .bool ok, .bool sp, (.slice a rs.length cap)], .int .i64 5] W fun e w' => e = .returned (.bool _) ∧ Below W.heap.size W w') := hq
        clear hh hq h8 h0
        go_enter Tryd.func61, Tryd.ntmps61
        go_wp2_with fail
        refine (fixed_5 _).mono ?_
        rintro e w1 ⟨rfl, rfl⟩
        go_wp2_with fail
        refine (HQ.out _).mono ?_
        rintro e w2 ⟨rfl, hb⟩
        go_wp2
        go_ret
        exact ⟨rfl, bt hl hb⟩
    · have h8' : ¬ (n : Int) % 8 = 0 := by omega
      rw [decide_eq_false (by omega), Bool.false_and]
      clear h8 h0
      go_enter Tryd.func61, Tryd.ntmps61
      go_wp2_with fail
      refine (fixed_5 _).mono ?_
      rintro e w1 ⟨rfl, rfl⟩
      go_wp2
      go_ret
      exact ⟨rfl, hl⟩
theorem follows_any (o : Op) (a : Option Addr) (cap : Nat) (kind : Int) (n : Nat) (w : World) (hn : n ≤ 40) :
    Calls Tryd.prog 61 #[.agg #[.int .i64 o.m, .int .i64 o.c, .int .i64 o.t, .int .i64 o.ec, .bool o.sd, .bool o.ok, .bool o.sp, .slice a o.rs.length cap], .int .i64 kind, .int .i64 n] w fun e w' => e = .returned (.bool (followsB o kind n)) ∧ Below w.heap.size w w' := by
  obtain ⟨m, c, t, ec, sd, ok, sp, rs⟩ := o
  show Calls Tryd.prog 61 #[.agg #[.int .i64 m, .int .i64 c, .int .i64 t, .int .i64 ec, .bool sd, .bool ok, .bool sp, (.slice a rs.length cap)], .int .i64 kind, .int .i64 n] w _
  unfold followsB
  by_cases h5 : kind = 5
  · subst h5; rw [if_pos rfl]; exact follows_5 m c t ec sd ok sp a cap rs n w hn
  rw [if_neg h5]
  by_cases h2 : kind = 2
  · subst h2; rw [if_pos rfl]; exact follows_2 m c t ec sd ok sp a cap rs n w hn
  rw [if_neg h2]
  by_cases h3 : kind = 3
  · subst h3; rw [if_pos rfl]; exact follows_3 m c t ec sd ok sp a cap rs n w hn
  rw [if_neg h3]
  by_cases h4 : kind = 4
  · subst h4; rw [if_pos rfl]; exact follows_4 m c t ec sd ok sp a cap rs n w hn
  rw [if_neg h4]
  by_cases h8 : kind = 8
  · subst h8; rw [if_pos rfl]; exact follows_8 m c t ec sd ok sp a cap rs n w hn
  rw [if_neg h8]
  have hl := bel1 w (.cells #[.int .i64 m, .int .i64 c, .int .i64 t, .int .i64 ec, .bool sd, .bool ok, .bool sp, (.slice a rs.length cap)] 26)
  go_enter Tryd.func61, Tryd.ntmps61
  go_wp2
  go_ret
  exact ⟨rfl, hl⟩
end Go.Proofs.YtecoknenkjgmjabDoor
