/- the texts Oa, Ob, Oc, Rep, Od, Oe, Of, Oh, Ok, in part, merged by program -/
import Derived.Test.YtkpdmgoldngdaabGreatDoorProg
import Derived.Test.YtkpdmgoldngdaabGreatDoorRows
import Derived.Laws.OwnMore
import Derived.Laws.AppendOwn
import Derived.Laws.AppendOwnNone
import Derived.WalkKit
import Derived.WalkSpells
import Derived.Deep.LoopGhost
import Derived.Shelf.Strings.Repeat
import Derived.Deep.RegionHeld3
import Derived.Deep.QuietTactic
import Derived.BigQuiet
import Derived.WalkSmall
import Derived.Laws.StructEq
import Derived.RegionTactic
import Derived.Below
import Derived.Test.YtkpdmgoldngdaabGreatDoorMA01
namespace Go.Proofs.YtkpdmgoldngdaabGreatDoor
open Go.RowKit
set_option maxRecDepth 100000

theorem bel1 (w : World) (o : Obj) : Below w.heap.size w (w.alloc o) := (Below.refl _ _).alloc (Nat.le_refl _) o
theorem later {w x : World} {a : Addr} {v : Value} (hb : Below w.heap.size w x) (h : w.cell? a = some v) : x.cell? a = some v := (hb.cell (World.block_lt_of_cell? _ _ h)).trans h
def At (W : World) (b : Nat) (vs : Array Value) : Prop := b < W.heap.size ∧ ∀ i v, vs[i]? = some v → W.cell? ⟨b, i, none⟩ = some v ∧ W.frozen? ⟨b, i, none⟩ = false
theorem At.box (w : World) (vs : Array Value) (t : TypeId) : At (w.alloc (.cells vs t)) w.heap.size vs := by
  refine ⟨by simp, fun i v h => ⟨?_, ?_⟩⟩
  · simp [World.cell?_alloc_new, h]
  · rw [frozen?_alloc_cells]; simp [World.frozen?]
theorem At.later {W x : World} {b : Nat} {vs : Array Value} (h : At W b vs) (hb : Below W.heap.size W x) : At x b vs :=
  ⟨Nat.lt_of_lt_of_le h.1 hb.size, fun i v hi => ⟨YtkpdmgoldngdaabGreatDoor.later hb (h.2 i v hi).1, (hb.frozen (p := ⟨b, i, none⟩) h.1).trans (h.2 i v hi).2⟩⟩
theorem At.box2 (w : World) (o : Obj) (vs : Array Value) (t : TypeId) : At ((w.alloc o).alloc (.cells vs t)) (w.heap.size + 1) vs := by have := At.box (w.alloc o) vs t; rwa [World.size_alloc] at this
theorem At.set {W : World} {b : Nat} {vs : Array Value} (h : At W b vs) (i : Nat) (u : Value) : At (W.setCell ⟨b, i, none⟩ u) b (vs.setIfInBounds i u) := by
  refine ⟨by rw [World.size_setCell]; exact h.1, fun j v hj => ?_⟩
  rw [World.frozen?_setCell]
  rw [Array.getElem?_setIfInBounds] at hj
  by_cases e : i = j
  · subst e
    rw [if_pos rfl] at hj
    by_cases l : i < vs.size
    · rw [if_pos l] at hj
      cases hj
      obtain ⟨c, f⟩ := h.2 i vs[i] (Array.getElem?_eq_getElem l)
      exact ⟨World.cell?_setCell_same _ _ _ c, f⟩
    · rw [if_neg l] at hj
      cases hj
  · rw [if_neg e] at hj
    obtain ⟨c, f⟩ := h.2 j v hj
    exact ⟨(World.cell?_setCell_other _ _ _ _ (by intro q; cases q; exact e rfl)).trans c, f⟩
theorem At.keep {W : World} {b c : Nat} {vs : Array Value} (h : At W c vs) (hne : b ≠ c) (i : Nat) (u : Value) : At (W.setCell ⟨b, i, none⟩ u) c vs := by
  refine ⟨by rw [World.size_setCell]; exact h.1, fun j v hj => ?_⟩
  rw [World.frozen?_setCell]
  obtain ⟨k, f⟩ := h.2 j v hj
  exact ⟨(World.cell?_setCell_other _ _ _ _ (by intro q; cases q; exact hne rfl)).trans k, f⟩
theorem At.eight {W : World} {b : Nat} {v0 v1 v2 v3 v4 v5 v6 v7 : Value} (h : At W b #[v0, v1, v2, v3, v4, v5, v6, v7]) : (W.cell? ⟨b, 0, none⟩ = some v0 ∧ W.cell? ⟨b, 1, none⟩ = some v1 ∧ W.cell? ⟨b, 2, none⟩ = some v2 ∧ W.cell? ⟨b, 3, none⟩ = some v3 ∧ W.cell? ⟨b, 4, none⟩ = some v4 ∧ W.cell? ⟨b, 5, none⟩ = some v5 ∧ W.cell? ⟨b, 6, none⟩ = some v6 ∧ W.cell? ⟨b, 7, none⟩ = some v7) ∧ (W.frozen? ⟨b, 0, none⟩ = false ∧ W.frozen? ⟨b, 1, none⟩ = false ∧ W.frozen? ⟨b, 2, none⟩ = false ∧ W.frozen? ⟨b, 3, none⟩ = false ∧ W.frozen? ⟨b, 4, none⟩ = false ∧ W.frozen? ⟨b, 5, none⟩ = false ∧ W.frozen? ⟨b, 6, none⟩ = false ∧ W.frozen? ⟨b, 7, none⟩ = false) ∧ b < W.heap.size :=
  ⟨⟨(h.2 0 _ rfl).1, (h.2 1 _ rfl).1, (h.2 2 _ rfl).1, (h.2 3 _ rfl).1, (h.2 4 _ rfl).1, (h.2 5 _ rfl).1, (h.2 6 _ rfl).1, (h.2 7 _ rfl).1⟩, ⟨(h.2 0 _ rfl).2, (h.2 1 _ rfl).2, (h.2 2 _ rfl).2, (h.2 3 _ rfl).2, (h.2 4 _ rfl).2, (h.2 5 _ rfl).2, (h.2 6 _ rfl).2, (h.2 7 _ rfl).2⟩, h.1⟩
theorem below8 {w W : World} {b : Nat} (h : Below w.heap.size w W) (hb : w.heap.size ≤ b) (v0 v1 v2 v3 v4 v5 v6 v7 : Value) : Below w.heap.size w ((((((((W.setCell ⟨b, 0, none⟩ v0).setCell ⟨b, 1, none⟩ v1).setCell ⟨b, 2, none⟩ v2).setCell ⟨b, 3, none⟩ v3).setCell ⟨b, 4, none⟩ v4).setCell ⟨b, 5, none⟩ v5).setCell ⟨b, 6, none⟩ v6).setCell ⟨b, 7, none⟩ v7) :=
  (((((((h.setCell hb _).setCell hb _).setCell hb _).setCell hb _).setCell hb _).setCell hb _).setCell hb _).setCell hb _
theorem At.set8 {W : World} {b : Nat} {v0 v1 v2 v3 v4 v5 v6 v7 : Value} (h : At W b #[v0, v1, v2, v3, v4, v5, v6, v7]) (u0 u1 u2 u3 u4 u5 u6 u7 : Value) : At ((((((((W.setCell ⟨b, 0, none⟩ u0).setCell ⟨b, 1, none⟩ u1).setCell ⟨b, 2, none⟩ u2).setCell ⟨b, 3, none⟩ u3).setCell ⟨b, 4, none⟩ u4).setCell ⟨b, 5, none⟩ u5).setCell ⟨b, 6, none⟩ u6).setCell ⟨b, 7, none⟩ u7) b #[u0, u1, u2, u3, u4, u5, u6, u7] := by
  have h0 : At _ b #[u0, v1, v2, v3, v4, v5, v6, v7] := h.set 0 u0
  have h1 : At _ b #[u0, u1, v2, v3, v4, v5, v6, v7] := h0.set 1 u1
  have h2 : At _ b #[u0, u1, u2, v3, v4, v5, v6, v7] := h1.set 2 u2
  have h3 : At _ b #[u0, u1, u2, u3, v4, v5, v6, v7] := h2.set 3 u3
  have h4 : At _ b #[u0, u1, u2, u3, u4, v5, v6, v7] := h3.set 4 u4
  have h5 : At _ b #[u0, u1, u2, u3, u4, u5, v6, v7] := h4.set 5 u5
  have h6 : At _ b #[u0, u1, u2, u3, u4, u5, u6, v7] := h5.set 6 u6
  have h7 : At _ b #[u0, u1, u2, u3, u4, u5, u6, u7] := h6.set 7 u7
  exact h7
theorem At.keep8 {W : World} {b c : Nat} {vs : Array Value} (h : At W c vs) (hne : b ≠ c) (u0 u1 u2 u3 u4 u5 u6 u7 : Value) : At ((((((((W.setCell ⟨b, 0, none⟩ u0).setCell ⟨b, 1, none⟩ u1).setCell ⟨b, 2, none⟩ u2).setCell ⟨b, 3, none⟩ u3).setCell ⟨b, 4, none⟩ u4).setCell ⟨b, 5, none⟩ u5).setCell ⟨b, 6, none⟩ u6).setCell ⟨b, 7, none⟩ u7) c vs :=
  (((((((h.keep hne 0 u0).keep hne 1 u1).keep hne 2 u2).keep hne 3 u3).keep hne 4 u4).keep hne 5 u5).keep hne 6 u6).keep hne 7 u7
theorem grownBy_setCell (w : World) (a : Addr) (v : Value) : w.grownBy (w.setCell a v) (some a.block) :=
  ⟨rfl, rfl, rfl, by simp [World.setCell], fun k _ hk => by
    have hne : a.block ≠ k := fun e => hk (by rw [e])
    simp only [World.setCell]
    simp [Array.getElem?_modify, hne]⟩
theorem own_setCell {w : World} {base : Nat} {e : TypeId} {size n : Nat} {v : Value} {xs : List Value} (h : w.ownsRow base e size v n xs) (b j : Nat) (u : Value) (hb : b < base) : (w.setCell ⟨b, j, none⟩ u).ownsRow base e size v n xs :=
  h.kept (grownBy_setCell w ⟨b, j, none⟩ u) (by
    cases hv : v.ownBlock with
    | none => exact .inl rfl
    | some k => exact .inr (fun e => by have := (h.lt k hv).1; simp at e; omega))
theorem own_mono {w : World} {base base' : Nat} {e : TypeId} {size n : Nat} {v : Value} {xs : List Value} (h : w.ownsRow base e size v n xs) (hb : base' ≤ base) : w.ownsRow base' e size v n xs := by
  refine ⟨h.1, ?_⟩
  rcases h.2 with h | ⟨g, cap, cur, hv, hg, rest⟩
  · exact .inl h
  · exact .inr ⟨g, cap, cur, hv, by omega, rest⟩
theorem own_later {w x : World} {base : Nat} {e : TypeId} {size n : Nat} {v : Value} {xs : List Value} (h : w.ownsRow base e size v n xs) (hb : Below w.heap.size w x) : x.ownsRow base e size v n xs := by
  refine ⟨h.1, ?_⟩
  rcases h.2 with h | ⟨g, cap, cur, hv, hg, hc, rest⟩
  · exact .inl h
  · refine .inr ⟨g, cap, cur, hv, hg, ?_, rest⟩
    rw [hb.block g (Array.getElem?_eq_some_iff.1 hc).1]
    exact hc

def Ord (w : World) : Prop := w.cell? ⟨0, 0, none⟩ = some (.int .i64 2) ∧ w.cell? ⟨0, 1, none⟩ = some (.int .i64 3) ∧ w.cell? ⟨0, 2, none⟩ = some (.int .i64 4) ∧ w.cell? ⟨0, 3, none⟩ = some (.int .i64 8) ∧ w.cell? ⟨0, 4, none⟩ = some (.int .i64 5)
theorem Ord.later {w x : World} (h : Ord w) (hb : Below w.heap.size w x) : Ord x :=
  ⟨YtkpdmgoldngdaabGreatDoor.later hb h.1, YtkpdmgoldngdaabGreatDoor.later hb h.2.1, YtkpdmgoldngdaabGreatDoor.later hb h.2.2.1, YtkpdmgoldngdaabGreatDoor.later hb h.2.2.2.1, YtkpdmgoldngdaabGreatDoor.later hb h.2.2.2.2⟩

def Rgs (W : World) (v : Value) (rs : List (Int × Int)) : Prop :=
  ∃ (a : Option Addr) (cap : Nat), v = .slice a rs.length cap ∧ (rs.length ≤ cap ∧ (a = none → cap = 0)) ∧ (rs = [] ∨ ∃ b off, a = some ⟨b, off, none⟩ ∧ ∀ j r, rs[j]? = some r → W.cell? ⟨b, off + j * 2, none⟩ = some (.int .i64 r.1) ∧ W.cell? ⟨b, off + j * 2 + 1, none⟩ = some (.int .i64 r.2))
theorem Rgs.later {w x : World} {v : Value} {rs : List (Int × Int)} (h : Rgs w v rs) (hb : Below w.heap.size w x) : Rgs x v rs := by
  obtain ⟨a, cap, hv, hc, h⟩ := h
  refine ⟨a, cap, hv, hc, ?_⟩
  rcases h with h | ⟨b, off, ha, hx⟩
  · exact .inl h
  · exact .inr ⟨b, off, ha, fun j r hr => ⟨YtkpdmgoldngdaabGreatDoor.later hb (hx j r hr).1, YtkpdmgoldngdaabGreatDoor.later hb (hx j r hr).2⟩⟩
theorem Rgs.nil (W : World) : Rgs W (.slice none 0 0) [] := ⟨none, 0, rfl, ⟨Nat.le_refl _, fun _ => rfl⟩, .inl rfl⟩
def flatR (rs : List (Int × Int)) : List Value := rs.flatMap fun r => [.int .i64 r.1, .int .i64 r.2]
theorem flatR_snoc (rs : List (Int × Int)) (r : Int × Int) : flatR (rs ++ [r]) = flatR rs ++ [.int .i64 r.1, .int .i64 r.2] := by simp [flatR]
theorem flatR_at (rs : List (Int × Int)) (j : Nat) (r : Int × Int) (h : rs[j]? = some r) : (flatR rs)[j * 2]? = some (.int .i64 r.1) ∧ (flatR rs)[j * 2 + 1]? = some (.int .i64 r.2) := by
  induction rs generalizing j with
  | nil => simp at h
  | cons q rs ih =>
    have e : flatR (q :: rs) = .int .i64 q.1 :: .int .i64 q.2 :: flatR rs := rfl
    rw [e]
    cases j with
    | zero =>
      simp only [List.getElem?_cons_zero, Option.some.injEq] at h
      subst h
      exact ⟨rfl, rfl⟩
    | succ j =>
      simp only [List.getElem?_cons_succ] at h
      rw [show (j + 1) * 2 = j * 2 + 1 + 1 by omega]
      simpa using ih j h
theorem own_slice {w : World} {base n : Nat} {v : Value} {xs : List Value} (h : w.ownsRow base 97 2 v n xs) : ∃ o cap, v = .slice o n cap ∧ n ≤ cap ∧ (0 < n → ∃ g, o = some ⟨g, 0, none⟩) := by
  rcases h.2 with ⟨rfl, rfl⟩ | ⟨g, cap, cur, rfl, -, -, hn, -⟩
  · exact ⟨none, 0, rfl, Nat.le_refl _, fun h => absurd h (by omega)⟩
  · exact ⟨_, cap, rfl, hn, fun _ => ⟨g, rfl⟩⟩
theorem Rgs.of_own {w : World} {base : Nat} {v : Value} {rs : List (Int × Int)} (h : w.ownsRow base 97 2 v rs.length (flatR rs)) : Rgs w v rs := by
  rcases h.2 with ⟨rfl, h0⟩ | ⟨g, cap, cur, rfl, -, -, hn, -⟩
  · rw [List.eq_nil_of_length_eq_zero h0]; exact Rgs.nil w
  · refine ⟨some ⟨g, 0, none⟩, cap, rfl, ⟨hn, fun h => by cases h⟩, .inr ⟨g, 0, rfl, fun j r hr => ?_⟩⟩
    have hj := (List.getElem?_eq_some_iff.1 hr).1
    obtain ⟨r1, r2⟩ := flatR_at rs j r hr
    rw [Nat.zero_add]
    exact ⟨(h.cellAt (j * 2) (by omega)).trans r1, (h.cellAt (j * 2 + 1) (by omega)).trans r2⟩
def fitsB (n most : Int) : Bool := decide (0 ≤ n ∧ n ≤ most)
def rgB (r : Int × Int) : Bool := numB r.1 && numB r.2 && !decide (r.1 = r.2)
def lenK (m : Int) (sd ok sp : Bool) (n k : Nat) : Nat :=
  n * 8 + (if 0 < k ∧ m ≠ 0 then 4 else 0) + (if 1 < k ∧ sd = true then 3 else 0) + (if 2 < k ∧ ok = true then 2 else 0) + (if 3 < k ∧ sp = true then 10 else 0) + (if 4 < k ∧ 0 < n then 2 else 0)
def longN (m : Int) (sd ok sp : Bool) (n : Nat) : Nat := (lenK m sd ok sp n 5 + 3) / 4 * 4
def mayO (m c t ec : Int) (sd ok sp : Bool) (rs : List (Int × Int)) : Bool :=
  fitsB m 65535 && fitsB c 14 && (sd || decide (c = 0)) && numB t && numB ec && (sp || (decide (t = 0) && decide (ec = 0))) && decide (longN m sd ok sp rs.length ≤ 40) && !(rs.any fun r => !rgB r)
def codeO (b : Bool) : Int := if b = true then 0 else 70
theorem codeO_t : codeO true = 0 := rfl
theorem codeO_f : codeO false = 70 := rfl
theorem lenK_le (m : Int) (sd ok sp : Bool) (n k : Nat) : n * 8 ≤ lenK m sd ok sp n k ∧ lenK m sd ok sp n k ≤ n * 8 + 21 := by
  unfold lenK
  refine ⟨by omega, ?_⟩
  repeat' split
  all_goals omega
end Go.Proofs.YtkpdmgoldngdaabGreatDoor

namespace Go.Proofs.YtkpdmgoldngdaabGreatDoor
open Go.RowKit
set_option maxRecDepth 100000

theorem fits_any (n most : Int) (w : World) : Calls Tryz.prog 87 #[.int .i64 n, .int .i64 most] w fun e w' => e = .returned (.bool (fitsB n most)) ∧ w' = w := by
  unfold fitsB
  by_cases h0 : 0 ≤ n
  · by_cases h1 : n ≤ most
    · rw [decide_eq_true ⟨h0, h1⟩]
      go_enter Tryz.func87, Tryz.ntmps87
      go_wp2
      go_ret
      exact ⟨rfl, rfl⟩
    · rw [decide_eq_false (by omega)]
      go_enter Tryz.func87, Tryz.ntmps87
      go_wp2
      go_ret
      exact ⟨rfl, rfl⟩
  · rw [decide_eq_false (by omega)]
    go_enter Tryz.func87, Tryz.ntmps87
    go_wp2
    go_ret
    exact ⟨rfl, rfl⟩
theorem number_any (n : Int) (w : World) : Calls Tryz.prog 88 #[.int .i64 n] w fun e w' => e = .returned (.bool (numB n)) ∧ w' = w := by
  have c1 : codeOf true = 0 := rfl
  have c2 : codeOf false = 1 := rfl
  rcases Bool.eq_false_or_eq_true (numB n) with h | h
  all_goals
    go_enter Tryz.func88, Tryz.ntmps88
    go_wp2_with fail
    refine (check_any _ _).mono ?_
    rw [h]
    rintro e w' ⟨rfl, rfl⟩
    go_wp2
    go_ret
    exact ⟨by rw [h]; rfl, rfl⟩
theorem fixed_2 (w : World) : Calls Tryz.prog 96 #[.int .i64 2] w fun e w' => e = .returned (.int .i64 2) ∧ w' = w := by
  go_enter Tryz.func96, Tryz.ntmps96
  go_wp2
  go_ret
  exact ⟨rfl, rfl⟩
theorem fixed_3 (w : World) : Calls Tryz.prog 96 #[.int .i64 3] w fun e w' => e = .returned (.int .i64 1) ∧ w' = w := by
  go_enter Tryz.func96, Tryz.ntmps96
  go_wp2
  go_ret
  exact ⟨rfl, rfl⟩
theorem fixed_4 (w : World) : Calls Tryz.prog 96 #[.int .i64 4] w fun e w' => e = .returned (.int .i64 0) ∧ w' = w := by
  go_enter Tryz.func96, Tryz.ntmps96
  go_wp2
  go_ret
  exact ⟨rfl, rfl⟩
theorem fixed_8 (w : World) : Calls Tryz.prog 96 #[.int .i64 8] w fun e w' => e = .returned (.int .i64 8) ∧ w' = w := by
  go_enter Tryz.func96, Tryz.ntmps96
  go_wp2
  go_ret
  exact ⟨rfl, rfl⟩
theorem fixed_5 (w : World) : Calls Tryz.prog 96 #[.int .i64 5] w fun e w' => e = .returned (.int .i64 0) ∧ w' = w := by
  go_enter Tryz.func96, Tryz.ntmps96
  go_wp2
  go_ret
  exact ⟨rfl, rfl⟩
theorem has_2 (m c t ec : Int) (sd ok sp : Bool) (a : Option Addr) (n cap : Nat) (w : World) :
    Calls Tryz.prog 70 #[.agg #[.int .i64 m, .int .i64 c, .int .i64 t, .int .i64 ec, .bool sd, .bool ok, .bool sp, (.slice a n cap)], .int .i64 2] w fun e w' => e = .returned (.bool (m != 0)) ∧ Below w.heap.size w w' := by
  obtain ⟨⟨c0, c1, c2, c3, c4, c5, c6, c7⟩, -, -⟩ := (At.box w #[.int .i64 m, .int .i64 c, .int .i64 t, .int .i64 ec, .bool sd, .bool ok, .bool sp, (.slice a n cap)] 33).eight
  have hl := bel1 w (.cells #[.int .i64 m, .int .i64 c, .int .i64 t, .int .i64 ec, .bool sd, .bool ok, .bool sp, (.slice a n cap)] 33)
  go_enter Tryz.func70, Tryz.ntmps70
  go_wp2
  go_ret
  exact ⟨by simp, hl⟩
theorem has_3 (m c t ec : Int) (sd ok sp : Bool) (a : Option Addr) (n cap : Nat) (w : World) :
    Calls Tryz.prog 70 #[.agg #[.int .i64 m, .int .i64 c, .int .i64 t, .int .i64 ec, .bool sd, .bool ok, .bool sp, (.slice a n cap)], .int .i64 3] w fun e w' => e = .returned (.bool sd) ∧ Below w.heap.size w w' := by
  obtain ⟨⟨c0, c1, c2, c3, c4, c5, c6, c7⟩, -, -⟩ := (At.box w #[.int .i64 m, .int .i64 c, .int .i64 t, .int .i64 ec, .bool sd, .bool ok, .bool sp, (.slice a n cap)] 33).eight
  have hl := bel1 w (.cells #[.int .i64 m, .int .i64 c, .int .i64 t, .int .i64 ec, .bool sd, .bool ok, .bool sp, (.slice a n cap)] 33)
  go_enter Tryz.func70, Tryz.ntmps70
  go_wp2
  go_ret
  exact ⟨by simp, hl⟩
theorem has_4 (m c t ec : Int) (sd ok sp : Bool) (a : Option Addr) (n cap : Nat) (w : World) :
    Calls Tryz.prog 70 #[.agg #[.int .i64 m, .int .i64 c, .int .i64 t, .int .i64 ec, .bool sd, .bool ok, .bool sp, (.slice a n cap)], .int .i64 4] w fun e w' => e = .returned (.bool ok) ∧ Below w.heap.size w w' := by
  obtain ⟨⟨c0, c1, c2, c3, c4, c5, c6, c7⟩, -, -⟩ := (At.box w #[.int .i64 m, .int .i64 c, .int .i64 t, .int .i64 ec, .bool sd, .bool ok, .bool sp, (.slice a n cap)] 33).eight
  have hl := bel1 w (.cells #[.int .i64 m, .int .i64 c, .int .i64 t, .int .i64 ec, .bool sd, .bool ok, .bool sp, (.slice a n cap)] 33)
  go_enter Tryz.func70, Tryz.ntmps70
  go_wp2
  go_ret
  exact ⟨by simp, hl⟩
theorem has_8 (m c t ec : Int) (sd ok sp : Bool) (a : Option Addr) (n cap : Nat) (w : World) :
    Calls Tryz.prog 70 #[.agg #[.int .i64 m, .int .i64 c, .int .i64 t, .int .i64 ec, .bool sd, .bool ok, .bool sp, (.slice a n cap)], .int .i64 8] w fun e w' => e = .returned (.bool sp) ∧ Below w.heap.size w w' := by
  obtain ⟨⟨c0, c1, c2, c3, c4, c5, c6, c7⟩, -, -⟩ := (At.box w #[.int .i64 m, .int .i64 c, .int .i64 t, .int .i64 ec, .bool sd, .bool ok, .bool sp, (.slice a n cap)] 33).eight
  have hl := bel1 w (.cells #[.int .i64 m, .int .i64 c, .int .i64 t, .int .i64 ec, .bool sd, .bool ok, .bool sp, (.slice a n cap)] 33)
  go_enter Tryz.func70, Tryz.ntmps70
  go_wp2
  go_ret
  exact ⟨by simp, hl⟩
theorem has_5 (m c t ec : Int) (sd ok sp : Bool) (a : Option Addr) (n cap : Nat) (w : World) :
    Calls Tryz.prog 70 #[.agg #[.int .i64 m, .int .i64 c, .int .i64 t, .int .i64 ec, .bool sd, .bool ok, .bool sp, (.slice a n cap)], .int .i64 5] w fun e w' => e = .returned (.bool (decide (0 < n))) ∧ Below w.heap.size w w' := by
  obtain ⟨⟨c0, c1, c2, c3, c4, c5, c6, c7⟩, -, -⟩ := (At.box w #[.int .i64 m, .int .i64 c, .int .i64 t, .int .i64 ec, .bool sd, .bool ok, .bool sp, (.slice a n cap)] 33).eight
  have hl := bel1 w (.cells #[.int .i64 m, .int .i64 c, .int .i64 t, .int .i64 ec, .bool sd, .bool ok, .bool sp, (.slice a n cap)] 33)
  go_enter Tryz.func70, Tryz.ntmps70
  go_wp2
  go_ret
  exact ⟨by simp, hl⟩
theorem ix_0 (w : World) : (Instr.index 120 (.agg #[.int .i64 2, .int .i64 3, .int .i64 4, .int .i64 8, .int .i64 5]) (.int .i64 0)).run Tryz.prog w = .ok (.int .i64 2) w := by kernel_rfl
theorem ix_1 (w : World) : (Instr.index 120 (.agg #[.int .i64 2, .int .i64 3, .int .i64 4, .int .i64 8, .int .i64 5]) (.int .i64 1)).run Tryz.prog w = .ok (.int .i64 3) w := by kernel_rfl
theorem ix_2 (w : World) : (Instr.index 120 (.agg #[.int .i64 2, .int .i64 3, .int .i64 4, .int .i64 8, .int .i64 5]) (.int .i64 2)).run Tryz.prog w = .ok (.int .i64 4) w := by kernel_rfl
theorem ix_3 (w : World) : (Instr.index 120 (.agg #[.int .i64 2, .int .i64 3, .int .i64 4, .int .i64 8, .int .i64 5]) (.int .i64 3)).run Tryz.prog w = .ok (.int .i64 8) w := by kernel_rfl
theorem ix_4 (w : World) : (Instr.index 120 (.agg #[.int .i64 2, .int .i64 3, .int .i64 4, .int .i64 8, .int .i64 5]) (.int .i64 4)).run Tryz.prog w = .ok (.int .i64 5) w := by kernel_rfl
set_option maxRecDepth 100000 in
set_option maxHeartbeats 2000000 in
theorem long_any (m c t ec : Int) (sd ok sp : Bool) (x : Option Addr) (n cap : Nat) (w : World) (hn : n ≤ 17592186044416) (hG : Ord w) :
    Calls Tryz.prog 74 #[.agg #[.int .i64 m, .int .i64 c, .int .i64 t, .int .i64 ec, .bool sd, .bool ok, .bool sp, (.slice x n cap)]] w fun e w' => e = .returned (.int .i64 (longN m sd ok sp n)) ∧ Below w.heap.size w w' := by
  have hA := At.box w #[.int .i64 m, .int .i64 c, .int .i64 t, .int .i64 ec, .bool sd, .bool ok, .bool sp, (.slice x n cap)] 33
  have hl := bel1 w (.cells #[.int .i64 m, .int .i64 c, .int .i64 t, .int .i64 ec, .bool sd, .bool ok, .bool sp, (.slice x n cap)] 33)
  have hn' : (n : Int) ≤ 17592186044416 := by omega
  obtain ⟨g0, g1, g2, g3, g4⟩ := hG.later hl
  obtain ⟨⟨c0, c1, c2, c3, c4, c5, c6, c7⟩, -, -⟩ := hA.eight
  have HA : Hid (At (w.alloc (.cells #[.int .i64 m, .int .i64 c, .int .i64 t, .int .i64 ec, .bool sd, .bool ok, .bool sp, (.slice x n cap)] 33)) w.heap.size #[.int .i64 m, .int .i64 c, .int .i64 t, .int .i64 ec, .bool sd, .bool ok, .bool sp, (.slice x n cap)]) := hA
  have HL : Hid (Below w.heap.size w (w.alloc (.cells #[.int .i64 m, .int .i64 c, .int .i64 t, .int .i64 ec, .bool sd, .bool ok, .bool sp, (.slice x n cap)] 33))) := hl
  clear hA hl hG
  go_enter Tryz.func74, Tryz.ntmps74
  go_wp2
  clear g0 g1 g2 g3 g4 c0 c1 c2 c3 c4 c5 c6 c7
  go_loopw [3, 11] (fun s i W => ∃ k : Nat, k ≤ 5 ∧ i = .int .i64 k ∧ s = .int .i64 (lenK m sd ok sp n k) ∧ Below (w.alloc (.cells #[.int .i64 m, .int .i64 c, .int .i64 t, .int .i64 ec, .bool sd, .bool ok, .bool sp, (.slice x n cap)] 33)).heap.size (w.alloc (.cells #[.int .i64 m, .int .i64 c, .int .i64 t, .int .i64 ec, .bool sd, .bool ok, .bool sp, (.slice x n cap)] 33)) W) (fun _ i _ => 5 - (intOf i).toNat)
  case atStart => exact ⟨0, by omega, rfl, by simp [lenK], Below.refl _ _⟩
  case round =>
    obtain ⟨k, hk, rfl, rfl, hbl⟩ := hrel
    obtain ⟨⟨c0, c1, c2, c3, c4, c5, c6, c7⟩, -, -⟩ := (HA.out.later hbl).eight
    have hle := (lenK_le m sd ok sp n k).2
    have hle' : ((lenK m sd ok sp n k : Nat) : Int) ≤ 140737488355400 := by omega
    have hle0 : (0 : Int) ≤ ((lenK m sd ok sp n k : Nat) : Int) := by omega
    obtain rfl | rfl | rfl | rfl | rfl | rfl : k = 0 ∨ k = 1 ∨ k = 2 ∨ k = 3 ∨ k = 4 ∨ k = 5 := by omega
    · have HT : Hid (m ≠ 0 → lenK m sd ok sp n 1 = lenK m sd ok sp n 0 + 4) := fun h => by simp [lenK, h]
      have HF : Hid (¬ (m ≠ 0) → lenK m sd ok sp n 1 = lenK m sd ok sp n 0) := fun h => by simp [lenK, h]
      have hix := ix_0 wr
      rcases Bool.eq_false_or_eq_true (m != 0) with hh | hh
      · go_wp2_with fail
        refine (has_2 _ _ _ _ _ _ _ x n cap _).mono ?_
        rw [hh]
        rintro e wa ⟨rfl, hb⟩
        go_wp2_with fail
        refine (fixed_2 _).mono ?_
        rintro e wb ⟨rfl, rfl⟩
        go_wp2
        go_roundw
        case rel => exact ⟨1, by omega, by go_num, by rw [HT.out (by simpa using hh)]; go_num, bt hbl hb⟩
        case measure => simp [intOf]
      · go_wp2_with fail
        refine (has_2 _ _ _ _ _ _ _ x n cap _).mono ?_
        rw [hh]
        rintro e wa ⟨rfl, hb⟩
        go_wp2
        go_roundw
        case rel => exact ⟨1, by omega, by go_num, by rw [HF.out (by simpa using hh)], bt hbl hb⟩
        case measure => simp [intOf]
    · have HT : Hid (sd = true → lenK m sd ok sp n 2 = lenK m sd ok sp n 1 + 3) := fun h => by simp [lenK, h]
      have HF : Hid (¬ (sd = true) → lenK m sd ok sp n 2 = lenK m sd ok sp n 1) := fun h => by simp [lenK, h]
      have hix := ix_1 wr
      rcases Bool.eq_false_or_eq_true sd with rfl | rfl
      · go_wp2_with fail
        refine (has_3 _ _ _ _ _ _ _ x n cap _).mono ?_
        rintro e wa ⟨rfl, hb⟩
        go_wp2_with fail
        refine (fixed_3 _).mono ?_
        rintro e wb ⟨rfl, rfl⟩
        go_wp2
        go_roundw
        case rel => exact ⟨2, by omega, by go_num, by rw [HT.out (by simp)]; go_num, bt hbl hb⟩
        case measure => simp [intOf]
      · go_wp2_with fail
        refine (has_3 _ _ _ _ _ _ _ x n cap _).mono ?_
        rintro e wa ⟨rfl, hb⟩
        go_wp2
        go_roundw
        case rel => exact ⟨2, by omega, by go_num, by rw [HF.out (by simp)], bt hbl hb⟩
        case measure => simp [intOf]
    · have HT : Hid (ok = true → lenK m sd ok sp n 3 = lenK m sd ok sp n 2 + 2) := fun h => by simp [lenK, h]
      have HF : Hid (¬ (ok = true) → lenK m sd ok sp n 3 = lenK m sd ok sp n 2) := fun h => by simp [lenK, h]
      have hix := ix_2 wr
      rcases Bool.eq_false_or_eq_true ok with rfl | rfl
      · go_wp2_with fail
        refine (has_4 _ _ _ _ _ _ _ x n cap _).mono ?_
        rintro e wa ⟨rfl, hb⟩
        go_wp2_with fail
        refine (fixed_4 _).mono ?_
        rintro e wb ⟨rfl, rfl⟩
        go_wp2
        go_roundw
        case rel => exact ⟨3, by omega, by go_num, by rw [HT.out (by simp)]; go_num, bt hbl hb⟩
        case measure => simp [intOf]
      · go_wp2_with fail
        refine (has_4 _ _ _ _ _ _ _ x n cap _).mono ?_
        rintro e wa ⟨rfl, hb⟩
        go_wp2
        go_roundw
        case rel => exact ⟨3, by omega, by go_num, by rw [HF.out (by simp)], bt hbl hb⟩
        case measure => simp [intOf]
    · have HT : Hid (sp = true → lenK m sd ok sp n 4 = lenK m sd ok sp n 3 + 10) := fun h => by simp [lenK, h]
      have HF : Hid (¬ (sp = true) → lenK m sd ok sp n 4 = lenK m sd ok sp n 3) := fun h => by simp [lenK, h]
      have hix := ix_3 wr
      rcases Bool.eq_false_or_eq_true sp with rfl | rfl
      · go_wp2_with fail
        refine (has_8 _ _ _ _ _ _ _ x n cap _).mono ?_
        rintro e wa ⟨rfl, hb⟩
        go_wp2_with fail
        refine (fixed_8 _).mono ?_
        rintro e wb ⟨rfl, rfl⟩
        go_wp2
        go_roundw
        case rel => exact ⟨4, by omega, by go_num, by rw [HT.out (by simp)]; go_num, bt hbl hb⟩
        case measure => simp [intOf]
      · go_wp2_with fail
        refine (has_8 _ _ _ _ _ _ _ x n cap _).mono ?_
        rintro e wa ⟨rfl, hb⟩
        go_wp2
        go_roundw
        case rel => exact ⟨4, by omega, by go_num, by rw [HF.out (by simp)], bt hbl hb⟩
        case measure => simp [intOf]
    · have HT : Hid (0 < n → lenK m sd ok sp n 5 = lenK m sd ok sp n 4 + 2) := fun h => by simp [lenK, h]
      have HF : Hid (¬ (0 < n) → lenK m sd ok sp n 5 = lenK m sd ok sp n 4) := fun h => by simp [lenK, h]
      have hix := ix_4 wr
      rcases Bool.eq_false_or_eq_true (decide (0 < n)) with hh | hh
      · go_wp2_with fail
        refine (has_5 _ _ _ _ _ _ _ x n cap _).mono ?_
        rw [hh]
        rintro e wa ⟨rfl, hb⟩
        go_wp2_with fail
        refine (fixed_5 _).mono ?_
        rintro e wb ⟨rfl, rfl⟩
        go_wp2
        go_roundw
        case rel => exact ⟨5, by omega, by go_num, by rw [HT.out (by simpa using hh)]; go_num, bt hbl hb⟩
        case measure => simp [intOf]
      · go_wp2_with fail
        refine (has_5 _ _ _ _ _ _ _ x n cap _).mono ?_
        rw [hh]
        rintro e wa ⟨rfl, hb⟩
        go_wp2
        go_roundw
        case rel => exact ⟨5, by omega, by go_num, by rw [HF.out (by simpa using hh)], bt hbl hb⟩
        case measure => simp [intOf]
    · have HE : Hid (((longN m sd ok sp n : Nat) : Int) = ((lenK m sd ok sp n 5 : Nat) + 4 - 1) / 4 * 4) := by
        show _ = _
        unfold longN
        omega
      go_wp2
      go_ret
      exact ⟨by rw [HE.out]; rfl, bt HL.out hbl⟩
theorem wrong_any (r : Int × Int) (w : World) : Calls Tryz.prog 90 #[.agg #[.int .i64 r.1, .int .i64 r.2]] w fun e w' => e = .returned (.bool (!rgB r)) ∧ Below w.heap.size w w' := by
  obtain ⟨x, y⟩ := r
  have hl := bel1 w (.cells #[.int .i64 x, .int .i64 y] 97)
  unfold rgB
  show Calls Tryz.prog 90 #[.agg #[.int .i64 x, .int .i64 y]] w fun e w' => e = .returned (.bool (!(numB x && numB y && !decide (x = y)))) ∧ Below w.heap.size w w'
  rcases Bool.eq_false_or_eq_true (numB x) with h | h
  · rcases Bool.eq_false_or_eq_true (numB y) with h2 | h2
    · by_cases h3 : x = y
      · subst h3
        clear h2
        go_enter Tryz.func90, Tryz.ntmps90
        go_wp2_with fail
        refine (number_any _ _).mono ?_
        rw [h]
        rintro e w' ⟨rfl, rfl⟩
        go_wp2_with fail
        refine (number_any _ _).mono ?_
        rw [h]
        rintro e w' ⟨rfl, rfl⟩
        go_wp2
        go_ret
        exact ⟨by simp [h], hl⟩
      · go_enter Tryz.func90, Tryz.ntmps90
        go_wp2_with fail
        refine (number_any _ _).mono ?_
        rw [h]
        rintro e w' ⟨rfl, rfl⟩
        go_wp2_with fail
        refine (number_any _ _).mono ?_
        rw [h2]
        rintro e w' ⟨rfl, rfl⟩
        go_wp2
        go_ret
        exact ⟨by simp [h, h2, h3], hl⟩
    · go_enter Tryz.func90, Tryz.ntmps90
      go_wp2_with fail
      refine (number_any _ _).mono ?_
      rw [h]
      rintro e w' ⟨rfl, rfl⟩
      go_wp2_with fail
      refine (number_any _ _).mono ?_
      rw [h2]
      rintro e w' ⟨rfl, rfl⟩
      go_wp2
      go_ret
      exact ⟨by simp [h, h2], hl⟩
  · go_enter Tryz.func90, Tryz.ntmps90
    go_wp2_with fail
    refine (number_any _ _).mono ?_
    rw [h]
    rintro e w' ⟨rfl, rfl⟩
    go_wp2
    go_ret
    exact ⟨by simp [h], hl⟩
end Go.Proofs.YtkpdmgoldngdaabGreatDoor

namespace Go.Proofs.YtkpdmgoldngdaabGreatDoor
open Go.RowKit
set_option maxRecDepth 100000

theorem any_step (rs : List (Int × Int)) (k : Nat) (r : Int × Int) (h : rs[k]? = some r) : ((rs.take (k + 1)).any fun r => !rgB r) = ((rs.take k).any (fun r => !rgB r) || !rgB r) := by
  obtain ⟨hk, rfl⟩ := List.getElem?_eq_some_iff.1 h
  rw [List.take_succ_eq_append_getElem hk, List.any_append]
  simp
theorem any_in (rs : List (Int × Int)) (k : Nat) (r : Int × Int) (h : rs[k]? = some r) (hr : rgB r = false) : (rs.any fun r => !rgB r) = true := by
  rw [List.any_eq_true]
  exact ⟨r, List.mem_of_getElem? h, by rw [hr]; rfl⟩
set_option maxHeartbeats 1000000 in
theorem idx_any (v : Value) (rs : List (Int × Int)) (w : World) (hv : Rgs w v rs) (hn : rs.length ≤ 17592186044416) :
    Calls Tryz.prog 110 #[v, .func (.func 90) #[] #[]] w fun e w' => (∃ i : Int, e = .returned (.int .i64 i) ∧ decide (0 ≤ i) = (rs.any fun r => !rgB r)) ∧ Below w.heap.size w w' := by
  obtain ⟨a, cap, rfl, hc, h⟩ := hv
  have hn' : (rs.length : Int) ≤ 17592186044416 := by omega
  rcases h with rfl | ⟨b, off, rfl, hx⟩
  · go_enter Tryz.func110, Tryz.ntmps110
    go_wp2
    go_loop [8] (fun i => i = .int .i64 0) (fun _ => 0)
    case atStart => rfl
    case round =>
      subst hrel
      go_wp2
      go_ret
      exact ⟨⟨-1, rfl, by decide⟩, Below.refl _ _⟩
  · have HX : Hid (∀ (j : Nat) (r : Int × Int), rs[j]? = some r → w.cell? ⟨b, off + j * 2, none⟩ = some (.int .i64 r.1) ∧ w.cell? ⟨b, off + j * 2 + 1, none⟩ = some (.int .i64 r.2)) := hx
    clear hx
    go_enter Tryz.func110, Tryz.ntmps110
    go_wp2
    go_loopw [8] (fun i W => ∃ k : Nat, k ≤ rs.length ∧ i = .int .i64 k ∧ ((rs.take k).any fun r => !rgB r) = false ∧ Below w.heap.size w W) (fun i _ => rs.length - (intOf i).toNat)
    case atStart => exact ⟨0, Nat.zero_le _, rfl, by simp, Below.refl _ _⟩
    case round =>
      obtain ⟨k, hk, rfl, hno, hbl⟩ := hrel
      by_cases hlt : k < rs.length
      · obtain ⟨r, hr⟩ : ∃ r, rs[k]? = some r := ⟨rs[k], List.getElem?_eq_getElem hlt⟩
        have HS : Hid (((rs.take (k + 1)).any fun r => !rgB r) = ((rs.take k).any (fun r => !rgB r) || !rgB r)) := any_step rs k r hr
        have HI : Hid (rgB r = false → (rs.any fun r => !rgB r) = true) := any_in rs k r hr
        have HN : Hid (((rs.take k).any fun r => !rgB r) = false) := hno
        obtain ⟨x1, x2⟩ := HX.out k r hr
        replace x1 := later hbl x1
        replace x2 := later hbl x2
        have l0 : (0 : Int) ≤ (k : Int) := by omega
        have l1 : (k : Int) < (rs.length : Int) := by omega
        clear hr hno
        rcases Bool.eq_false_or_eq_true (rgB r) with h | h
        · go_wp2_with fail
          refine (wrong_any r _).mono ?_
          rw [h]
          rintro e wa ⟨rfl, hb⟩
          go_wp2
          go_roundw
          case rel => exact ⟨k + 1, by omega, by go_num, by rw [HS.out, HN.out, h]; rfl, bt hbl hb⟩
          case measure => simp [intOf]; omega
        · go_wp2_with fail
          refine (wrong_any r _).mono ?_
          rw [h]
          rintro e wa ⟨rfl, hb⟩
          go_wp2
          go_ret
          exact ⟨⟨k, rfl, by rw [HI.out h]; exact decide_eq_true (by omega)⟩, bt hbl hb⟩
      · have hk' : k = rs.length := by omega
        subst hk'
        rw [List.take_length] at hno
        have HN : Hid ((rs.any fun r => !rgB r) = false) := hno
        clear hno
        go_wp2
        go_ret
        exact ⟨⟨-1, rfl, by rw [HN.out]; rfl⟩, hbl⟩
theorem cont_any (v : Value) (rs : List (Int × Int)) (w : World) (hv : Rgs w v rs) (hn : rs.length ≤ 17592186044416) :
    Calls Tryz.prog 89 #[v, .func (.func 90) #[] #[]] w fun e w' => e = .returned (.bool (rs.any fun r => !rgB r)) ∧ Below w.heap.size w w' := by
  generalize hB : (rs.any fun r => !rgB r) = B
  have hi := idx_any v rs w hv hn
  rw [hB] at hi
  clear hB hv
  go_enter Tryz.func89, Tryz.ntmps89
  go_wp2_with fail
  refine hi.mono ?_
  rintro e wa ⟨⟨i, rfl, hB⟩, hb⟩
  have HB : Hid (decide (0 ≤ i) = B) := hB
  clear hB hi
  go_wp2
  go_ret
  exact ⟨by rw [← HB.out]; simp, hb⟩

set_option maxRecDepth 100000 in
set_option maxHeartbeats 4000000 in
theorem may_any (m c t ec : Int) (sd ok sp : Bool) (v : Value) (rs : List (Int × Int)) (w : World) (hv : Rgs w v rs) (hn : rs.length ≤ 17592186044416) (hG : Ord w) :
    Calls Tryz.prog 69 #[.agg #[.int .i64 m, .int .i64 c, .int .i64 t, .int .i64 ec, .bool sd, .bool ok, .bool sp, v]] w fun e w' => e = .returned (.bool (mayO m c t ec sd ok sp rs)) ∧ Below w.heap.size w w' := by
  obtain ⟨x, cap, hvx, -⟩ := id hv
  subst hvx
  have hA := At.box w (#[.int .i64 m, .int .i64 c, .int .i64 t, .int .i64 ec, .bool sd, .bool ok, .bool sp, .slice x rs.length cap]) 33
  have hl := bel1 w (.cells (#[.int .i64 m, .int .i64 c, .int .i64 t, .int .i64 ec, .bool sd, .bool ok, .bool sp, .slice x rs.length cap]) 33)
  obtain ⟨⟨c0, c1, c2, c3, c4, c5, c6, c7⟩, -, -⟩ := hA.eight
  have HG := hG.later hl
  have HV := hv.later hl
  have hM : mayO m c t ec sd ok sp rs = (fitsB m 65535 && fitsB c 14 && (sd || decide (c = 0)) && numB t && numB ec && (sp || (decide (t = 0) && decide (ec = 0))) && decide ((longN m sd ok sp rs.length : Int) ≤ 40) && !(rs.any fun r => !rgB r)) := by
    unfold mayO
    have e1 : decide (longN m sd ok sp rs.length ≤ 40) = decide ((longN m sd ok sp rs.length : Int) ≤ 40) := decide_eq_decide.2 (by omega)
    rw [e1]
  rw [hM]
  have HL := fun W (h : Ord W) => long_any m c t ec sd ok sp x rs.length cap W hn h
  have HC := fun W (h : Rgs W (.slice x rs.length cap) rs) => cont_any _ rs W h hn
  generalize (rs.any fun r => !rgB r) = B at HC ⊢
  generalize longN m sd ok sp rs.length = L at HL ⊢
  clear hM hv hG hn
  have HLH : Hid (∀ W, Ord W → Calls Tryz.prog 74 #[.agg (#[.int .i64 m, .int .i64 c, .int .i64 t, .int .i64 ec, .bool sd, .bool ok, .bool sp, .slice x rs.length cap])] W fun e w' => e = .returned (.int .i64 (L : Int)) ∧ Below W.heap.size W w') := HL
  have HCH : Hid (∀ W, Rgs W (.slice x rs.length cap) rs → Calls Tryz.prog 89 #[.slice x rs.length cap, .func (.func 90) #[] #[]] W fun e w' => e = .returned (.bool B) ∧ Below W.heap.size W w') := HC
  clear HL HC
  generalize hf1 : fitsB m 65535 = F1
  generalize hf2 : fitsB c 14 = F2
  generalize hf3 : numB t = F3
  generalize hf4 : numB ec = F4
  have Q1 := fun W => fits_any m 65535 W
  have Q2 := fun W => fits_any c 14 W
  have Q3 := fun W => number_any t W
  have Q4 := fun W => number_any ec W
  rw [hf1] at Q1; rw [hf2] at Q2; rw [hf3] at Q3; rw [hf4] at Q4
  clear hf1 hf2 hf3 hf4
  have R1 : Hid (∀ W, Calls Tryz.prog 87 #[.int .i64 m, .int .i64 65535] W fun e w' => e = .returned (.bool F1) ∧ w' = W) := Q1
  have R2 : Hid (∀ W, Calls Tryz.prog 87 #[.int .i64 c, .int .i64 14] W fun e w' => e = .returned (.bool F2) ∧ w' = W) := Q2
  have R3 : Hid (∀ W, Calls Tryz.prog 88 #[.int .i64 t] W fun e w' => e = .returned (.bool F3) ∧ w' = W) := Q3
  have R4 : Hid (∀ W, Calls Tryz.prog 88 #[.int .i64 ec] W fun e w' => e = .returned (.bool F4) ∧ w' = W) := Q4
  clear Q1 Q2 Q3 Q4
  cases F1
  · go_enter Tryz.func69, Tryz.ntmps69
    go_wp2_with fail
    refine (R1.out _).mono ?_
    rintro e w' ⟨rfl, rfl⟩
    go_wp2
    go_ret
    exact ⟨by simp [*], hl⟩
  cases F2
  · go_enter Tryz.func69, Tryz.ntmps69
    go_wp2_with fail
    refine (R1.out _).mono ?_
    rintro e w' ⟨rfl, rfl⟩
    go_wp2_with fail
    refine (R2.out _).mono ?_
    rintro e w' ⟨rfl, rfl⟩
    go_wp2
    go_ret
    exact ⟨by simp [*], hl⟩
  cases sd
  · by_cases hc : c = 0
    · subst hc
      cases F3
      · go_enter Tryz.func69, Tryz.ntmps69
        go_wp2_with fail
        refine (R1.out _).mono ?_
        rintro e w' ⟨rfl, rfl⟩
        go_wp2_with fail
        refine (R2.out _).mono ?_
        rintro e w' ⟨rfl, rfl⟩
        go_wp2_with fail
        refine (R3.out _).mono ?_
        rintro e w' ⟨rfl, rfl⟩
        go_wp2
        go_ret
        exact ⟨by simp [*], hl⟩
      cases F4
      · go_enter Tryz.func69, Tryz.ntmps69
        go_wp2_with fail
        refine (R1.out _).mono ?_
        rintro e w' ⟨rfl, rfl⟩
        go_wp2_with fail
        refine (R2.out _).mono ?_
        rintro e w' ⟨rfl, rfl⟩
        go_wp2_with fail
        refine (R3.out _).mono ?_
        rintro e w' ⟨rfl, rfl⟩
        go_wp2_with fail
        refine (R4.out _).mono ?_
        rintro e w' ⟨rfl, rfl⟩
        go_wp2
        go_ret
        exact ⟨by simp [*], hl⟩
      cases sp
      · by_cases ht : t = 0
        · subst ht
          by_cases he : ec = 0
          · subst he
            by_cases hL : (L : Int) ≤ 40
            · cases B
              · go_enter Tryz.func69, Tryz.ntmps69
                go_wp2_with fail
                refine (R1.out _).mono ?_
                rintro e w' ⟨rfl, rfl⟩
                go_wp2_with fail
                refine (R2.out _).mono ?_
                rintro e w' ⟨rfl, rfl⟩
                go_wp2_with fail
                refine (R3.out _).mono ?_
                rintro e w' ⟨rfl, rfl⟩
                go_wp2_with fail
                refine (R4.out _).mono ?_
                rintro e w' ⟨rfl, rfl⟩
                go_wp2_with fail
                refine (HLH.out _ HG).mono ?_
                rintro e wa ⟨rfl, hb⟩
                obtain ⟨⟨d0, d1, d2, d3, d4, d5, d6, d7⟩, -, -⟩ := (hA.later hb).eight
                go_wp2_with fail
                refine (HCH.out _ (HV.later hb)).mono ?_
                rintro e wb ⟨rfl, hb2⟩
                go_wp2
                go_ret
                exact ⟨by simp [*], bt (bt hl hb) hb2⟩
              · go_enter Tryz.func69, Tryz.ntmps69
                go_wp2_with fail
                refine (R1.out _).mono ?_
                rintro e w' ⟨rfl, rfl⟩
                go_wp2_with fail
                refine (R2.out _).mono ?_
                rintro e w' ⟨rfl, rfl⟩
                go_wp2_with fail
                refine (R3.out _).mono ?_
                rintro e w' ⟨rfl, rfl⟩
                go_wp2_with fail
                refine (R4.out _).mono ?_
                rintro e w' ⟨rfl, rfl⟩
                go_wp2_with fail
                refine (HLH.out _ HG).mono ?_
                rintro e wa ⟨rfl, hb⟩
                obtain ⟨⟨d0, d1, d2, d3, d4, d5, d6, d7⟩, -, -⟩ := (hA.later hb).eight
                go_wp2_with fail
                refine (HCH.out _ (HV.later hb)).mono ?_
                rintro e wb ⟨rfl, hb2⟩
                go_wp2
                go_ret
                exact ⟨by simp [*], bt (bt hl hb) hb2⟩
            · go_enter Tryz.func69, Tryz.ntmps69
              go_wp2_with fail
              refine (R1.out _).mono ?_
              rintro e w' ⟨rfl, rfl⟩
              go_wp2_with fail
              refine (R2.out _).mono ?_
              rintro e w' ⟨rfl, rfl⟩
              go_wp2_with fail
              refine (R3.out _).mono ?_
              rintro e w' ⟨rfl, rfl⟩
              go_wp2_with fail
              refine (R4.out _).mono ?_
              rintro e w' ⟨rfl, rfl⟩
              go_wp2_with fail
              refine (HLH.out _ HG).mono ?_
              rintro e wa ⟨rfl, hb⟩
              go_wp2
              go_ret
              exact ⟨by simp; intro h; exfalso; omega, bt hl hb⟩
          · go_enter Tryz.func69, Tryz.ntmps69
            go_wp2_with fail
            refine (R1.out _).mono ?_
            rintro e w' ⟨rfl, rfl⟩
            go_wp2_with fail
            refine (R2.out _).mono ?_
            rintro e w' ⟨rfl, rfl⟩
            go_wp2_with fail
            refine (R3.out _).mono ?_
            rintro e w' ⟨rfl, rfl⟩
            go_wp2_with fail
            refine (R4.out _).mono ?_
            rintro e w' ⟨rfl, rfl⟩
            go_wp2
            go_ret
            exact ⟨by simp [*], hl⟩
        · go_enter Tryz.func69, Tryz.ntmps69
          go_wp2_with fail
          refine (R1.out _).mono ?_
          rintro e w' ⟨rfl, rfl⟩
          go_wp2_with fail
          refine (R2.out _).mono ?_
          rintro e w' ⟨rfl, rfl⟩
          go_wp2_with fail
          refine (R3.out _).mono ?_
          rintro e w' ⟨rfl, rfl⟩
          go_wp2_with fail
          refine (R4.out _).mono ?_
          rintro e w' ⟨rfl, rfl⟩
          go_wp2
          go_ret
          exact ⟨by simp [*], hl⟩
      · skip
        by_cases hL : (L : Int) ≤ 40
        · cases B
          · go_enter Tryz.func69, Tryz.ntmps69
            go_wp2_with fail
            refine (R1.out _).mono ?_
            rintro e w' ⟨rfl, rfl⟩
            go_wp2_with fail
            refine (R2.out _).mono ?_
            rintro e w' ⟨rfl, rfl⟩
            go_wp2_with fail
            refine (R3.out _).mono ?_
            rintro e w' ⟨rfl, rfl⟩
            go_wp2_with fail
            refine (R4.out _).mono ?_
            rintro e w' ⟨rfl, rfl⟩
            go_wp2_with fail
            refine (HLH.out _ HG).mono ?_
            rintro e wa ⟨rfl, hb⟩
            obtain ⟨⟨d0, d1, d2, d3, d4, d5, d6, d7⟩, -, -⟩ := (hA.later hb).eight
            go_wp2_with fail
            refine (HCH.out _ (HV.later hb)).mono ?_
            rintro e wb ⟨rfl, hb2⟩
            go_wp2
            go_ret
            exact ⟨by simp [*], bt (bt hl hb) hb2⟩
          · go_enter Tryz.func69, Tryz.ntmps69
            go_wp2_with fail
            refine (R1.out _).mono ?_
            rintro e w' ⟨rfl, rfl⟩
            go_wp2_with fail
            refine (R2.out _).mono ?_
            rintro e w' ⟨rfl, rfl⟩
            go_wp2_with fail
            refine (R3.out _).mono ?_
            rintro e w' ⟨rfl, rfl⟩
            go_wp2_with fail
            refine (R4.out _).mono ?_
            rintro e w' ⟨rfl, rfl⟩
            go_wp2_with fail
            refine (HLH.out _ HG).mono ?_
            rintro e wa ⟨rfl, hb⟩
            obtain ⟨⟨d0, d1, d2, d3, d4, d5, d6, d7⟩, -, -⟩ := (hA.later hb).eight
            go_wp2_with fail
            refine (HCH.out _ (HV.later hb)).mono ?_
            rintro e wb ⟨rfl, hb2⟩
            go_wp2
            go_ret
            exact ⟨by simp [*], bt (bt hl hb) hb2⟩
        · go_enter Tryz.func69, Tryz.ntmps69
          go_wp2_with fail
          refine (R1.out _).mono ?_
          rintro e w' ⟨rfl, rfl⟩
          go_wp2_with fail
          refine (R2.out _).mono ?_
          rintro e w' ⟨rfl, rfl⟩
          go_wp2_with fail
          refine (R3.out _).mono ?_
          rintro e w' ⟨rfl, rfl⟩
          go_wp2_with fail
          refine (R4.out _).mono ?_
          rintro e w' ⟨rfl, rfl⟩
          go_wp2_with fail
          refine (HLH.out _ HG).mono ?_
          rintro e wa ⟨rfl, hb⟩
          go_wp2
          go_ret
          exact ⟨by simp; intro h; exfalso; omega, bt hl hb⟩
    · go_enter Tryz.func69, Tryz.ntmps69
      go_wp2_with fail
      refine (R1.out _).mono ?_
      rintro e w' ⟨rfl, rfl⟩
      go_wp2_with fail
      refine (R2.out _).mono ?_
      rintro e w' ⟨rfl, rfl⟩
      go_wp2
      go_ret
      exact ⟨by simp [*], hl⟩
  · skip
    cases F3
    · go_enter Tryz.func69, Tryz.ntmps69
      go_wp2_with fail
      refine (R1.out _).mono ?_
      rintro e w' ⟨rfl, rfl⟩
      go_wp2_with fail
      refine (R2.out _).mono ?_
      rintro e w' ⟨rfl, rfl⟩
      go_wp2_with fail
      refine (R3.out _).mono ?_
      rintro e w' ⟨rfl, rfl⟩
      go_wp2
      go_ret
      exact ⟨by simp [*], hl⟩
    cases F4
    · go_enter Tryz.func69, Tryz.ntmps69
      go_wp2_with fail
      refine (R1.out _).mono ?_
      rintro e w' ⟨rfl, rfl⟩
      go_wp2_with fail
      refine (R2.out _).mono ?_
      rintro e w' ⟨rfl, rfl⟩
      go_wp2_with fail
      refine (R3.out _).mono ?_
      rintro e w' ⟨rfl, rfl⟩
      go_wp2_with fail
      refine (R4.out _).mono ?_
      rintro e w' ⟨rfl, rfl⟩
      go_wp2
      go_ret
      exact ⟨by simp [*], hl⟩
    cases sp
    · by_cases ht : t = 0
      · subst ht
        by_cases he : ec = 0
        · subst he
          by_cases hL : (L : Int) ≤ 40
          · cases B
            · go_enter Tryz.func69, Tryz.ntmps69
              go_wp2_with fail
              refine (R1.out _).mono ?_
              rintro e w' ⟨rfl, rfl⟩
              go_wp2_with fail
              refine (R2.out _).mono ?_
              rintro e w' ⟨rfl, rfl⟩
              go_wp2_with fail
              refine (R3.out _).mono ?_
              rintro e w' ⟨rfl, rfl⟩
              go_wp2_with fail
              refine (R4.out _).mono ?_
              rintro e w' ⟨rfl, rfl⟩
              go_wp2_with fail
              refine (HLH.out _ HG).mono ?_
              rintro e wa ⟨rfl, hb⟩
              obtain ⟨⟨d0, d1, d2, d3, d4, d5, d6, d7⟩, -, -⟩ := (hA.later hb).eight
              go_wp2_with fail
              refine (HCH.out _ (HV.later hb)).mono ?_
              rintro e wb ⟨rfl, hb2⟩
              go_wp2
              go_ret
              exact ⟨by simp [*], bt (bt hl hb) hb2⟩
            · go_enter Tryz.func69, Tryz.ntmps69
              go_wp2_with fail
              refine (R1.out _).mono ?_
              rintro e w' ⟨rfl, rfl⟩
              go_wp2_with fail
              refine (R2.out _).mono ?_
              rintro e w' ⟨rfl, rfl⟩
              go_wp2_with fail
              refine (R3.out _).mono ?_
              rintro e w' ⟨rfl, rfl⟩
              go_wp2_with fail
              refine (R4.out _).mono ?_
              rintro e w' ⟨rfl, rfl⟩
              go_wp2_with fail
              refine (HLH.out _ HG).mono ?_
              rintro e wa ⟨rfl, hb⟩
              obtain ⟨⟨d0, d1, d2, d3, d4, d5, d6, d7⟩, -, -⟩ := (hA.later hb).eight
              go_wp2_with fail
              refine (HCH.out _ (HV.later hb)).mono ?_
              rintro e wb ⟨rfl, hb2⟩
              go_wp2
              go_ret
              exact ⟨by simp [*], bt (bt hl hb) hb2⟩
          · go_enter Tryz.func69, Tryz.ntmps69
            go_wp2_with fail
            refine (R1.out _).mono ?_
            rintro e w' ⟨rfl, rfl⟩
            go_wp2_with fail
            refine (R2.out _).mono ?_
            rintro e w' ⟨rfl, rfl⟩
            go_wp2_with fail
            refine (R3.out _).mono ?_
            rintro e w' ⟨rfl, rfl⟩
            go_wp2_with fail
            refine (R4.out _).mono ?_
            rintro e w' ⟨rfl, rfl⟩
            go_wp2_with fail
            refine (HLH.out _ HG).mono ?_
            rintro e wa ⟨rfl, hb⟩
            go_wp2
            go_ret
            exact ⟨by simp; intro h; exfalso; omega, bt hl hb⟩
        · go_enter Tryz.func69, Tryz.ntmps69
          go_wp2_with fail
          refine (R1.out _).mono ?_
          rintro e w' ⟨rfl, rfl⟩
          go_wp2_with fail
          refine (R2.out _).mono ?_
          rintro e w' ⟨rfl, rfl⟩
          go_wp2_with fail
          refine (R3.out _).mono ?_
          rintro e w' ⟨rfl, rfl⟩
          go_wp2_with fail
          refine (R4.out _).mono ?_
          rintro e w' ⟨rfl, rfl⟩
          go_wp2
          go_ret
          exact ⟨by simp [*], hl⟩
      · go_enter Tryz.func69, Tryz.ntmps69
        go_wp2_with fail
        refine (R1.out _).mono ?_
        rintro e w' ⟨rfl, rfl⟩
        go_wp2_with fail
        refine (R2.out _).mono ?_
        rintro e w' ⟨rfl, rfl⟩
        go_wp2_with fail
        refine (R3.out _).mono ?_
        rintro e w' ⟨rfl, rfl⟩
        go_wp2_with fail
        refine (R4.out _).mono ?_
        rintro e w' ⟨rfl, rfl⟩
        go_wp2
        go_ret
        exact ⟨by simp [*], hl⟩
    · skip
      by_cases hL : (L : Int) ≤ 40
      · cases B
        · go_enter Tryz.func69, Tryz.ntmps69
          go_wp2_with fail
          refine (R1.out _).mono ?_
          rintro e w' ⟨rfl, rfl⟩
          go_wp2_with fail
          refine (R2.out _).mono ?_
          rintro e w' ⟨rfl, rfl⟩
          go_wp2_with fail
          refine (R3.out _).mono ?_
          rintro e w' ⟨rfl, rfl⟩
          go_wp2_with fail
          refine (R4.out _).mono ?_
          rintro e w' ⟨rfl, rfl⟩
          go_wp2_with fail
          refine (HLH.out _ HG).mono ?_
          rintro e wa ⟨rfl, hb⟩
          obtain ⟨⟨d0, d1, d2, d3, d4, d5, d6, d7⟩, -, -⟩ := (hA.later hb).eight
          go_wp2_with fail
          refine (HCH.out _ (HV.later hb)).mono ?_
          rintro e wb ⟨rfl, hb2⟩
          go_wp2
          go_ret
          exact ⟨by simp [*], bt (bt hl hb) hb2⟩
        · go_enter Tryz.func69, Tryz.ntmps69
          go_wp2_with fail
          refine (R1.out _).mono ?_
          rintro e w' ⟨rfl, rfl⟩
          go_wp2_with fail
          refine (R2.out _).mono ?_
          rintro e w' ⟨rfl, rfl⟩
          go_wp2_with fail
          refine (R3.out _).mono ?_
          rintro e w' ⟨rfl, rfl⟩
          go_wp2_with fail
          refine (R4.out _).mono ?_
          rintro e w' ⟨rfl, rfl⟩
          go_wp2_with fail
          refine (HLH.out _ HG).mono ?_
          rintro e wa ⟨rfl, hb⟩
          obtain ⟨⟨d0, d1, d2, d3, d4, d5, d6, d7⟩, -, -⟩ := (hA.later hb).eight
          go_wp2_with fail
          refine (HCH.out _ (HV.later hb)).mono ?_
          rintro e wb ⟨rfl, hb2⟩
          go_wp2
          go_ret
          exact ⟨by simp [*], bt (bt hl hb) hb2⟩
      · go_enter Tryz.func69, Tryz.ntmps69
        go_wp2_with fail
        refine (R1.out _).mono ?_
        rintro e w' ⟨rfl, rfl⟩
        go_wp2_with fail
        refine (R2.out _).mono ?_
        rintro e w' ⟨rfl, rfl⟩
        go_wp2_with fail
        refine (R3.out _).mono ?_
        rintro e w' ⟨rfl, rfl⟩
        go_wp2_with fail
        refine (R4.out _).mono ?_
        rintro e w' ⟨rfl, rfl⟩
        go_wp2_with fail
        refine (HLH.out _ HG).mono ?_
        rintro e wa ⟨rfl, hb⟩
        go_wp2
        go_ret
        exact ⟨by simp; intro h; exfalso; omega, bt hl hb⟩
theorem check_o (m c t ec : Int) (sd ok sp : Bool) (v : Value) (rs : List (Int × Int)) (w : World) (hv : Rgs w v rs) (hn : rs.length ≤ 17592186044416) (hG : Ord w) :
    Calls Tryz.prog 35 #[.agg #[.int .i64 m, .int .i64 c, .int .i64 t, .int .i64 ec, .bool sd, .bool ok, .bool sp, v]] w fun e w' => e = .returned (.int .i64 (codeO (mayO m c t ec sd ok sp rs))) ∧ Below w.heap.size w w' := by
  obtain ⟨⟨c0, c1, c2, c3, c4, c5, c6, c7⟩, -, -⟩ := (At.box w #[.int .i64 m, .int .i64 c, .int .i64 t, .int .i64 ec, .bool sd, .bool ok, .bool sp, v] 33).eight
  have hl := bel1 w (.cells #[.int .i64 m, .int .i64 c, .int .i64 t, .int .i64 ec, .bool sd, .bool ok, .bool sp, v] 33)
  have hM := may_any m c t ec sd ok sp v rs _ (hv.later hl) hn (hG.later hl)
  rcases Bool.eq_false_or_eq_true (mayO m c t ec sd ok sp rs) with h | h
  all_goals
    rw [h] at hM ⊢
    go_enter Tryz.func35, Tryz.ntmps35
    go_wp2_with fail
    refine hM.mono ?_
    rintro e wa ⟨rfl, hb⟩
    go_wp2
    go_ret
    exact ⟨rfl, bt hl hb⟩
end Go.Proofs.YtkpdmgoldngdaabGreatDoor

namespace Go.Proofs.YtkpdmgoldngdaabGreatDoor
open Go.Shelf Go.RowKit
def Tryz.lays105_ren : Go.Shelf.Ren := ⟨fun | 105 => 73 | 212 => 91 | 99 => 58 | 165 => 92 | 166 => 93 | 170 => 94 | 169 => 95 | 263 => 111 | 264 => 112 | 206 => 77 | 240 => 113 | 241 => 114 | 276 => 124 | 277 => 125 | n => n, fun | 9 => 9 | 3 => 3 | 4 => 4 | 20 => 20 | 0 => 0 | 46 => 84 | 109 => 153 | 5 => 5 | 72 => 157 | 76 => 159 | 51 => 181 | 146 => 182 | 53 => 184 | 148 => 185 | 70 => 155 | 37 => 105 | 75 => 39 | 127 => 187 | 164 => 198 | 80 => 162 | n => n, fun | n => n⟩
theorem Tryz.lays105 : Go.Proofs.Lays.n105 Tryz.prog Tryz.lays105_ren := {
  mixed := by kernel_rfl
  f99 := Tryz.func58.trans (congrArg some (by kernel_rfl))
  f105 := Tryz.func73.trans (congrArg some (by kernel_rfl))
  f165 := Tryz.func92.trans (congrArg some (by kernel_rfl))
  f166 := Tryz.func93.trans (congrArg some (by kernel_rfl))
  f169 := Tryz.func95.trans (congrArg some (by kernel_rfl))
  f170 := Tryz.func94.trans (congrArg some (by kernel_rfl))
  f206 := Tryz.func77.trans (congrArg some (by kernel_rfl))
  f212 := Tryz.func91.trans (congrArg some (by kernel_rfl))
  f240 := Tryz.func113.trans (congrArg some (by kernel_rfl))
  f241 := Tryz.func114.trans (congrArg some (by kernel_rfl))
  f263 := Tryz.func111.trans (congrArg some (by kernel_rfl))
  f264 := Tryz.func112.trans (congrArg some (by kernel_rfl))
  f276 := Tryz.func124.trans (congrArg some (by kernel_rfl))
  f277 := Tryz.func125.trans (congrArg some (by kernel_rfl))
  t0 := Tryz.underlying0
  a0 := Tryz.isAgg0
  z0 := Tryz.sizeOf0
  v0 := Tryz.zeroValue0
  t3 := Tryz.underlying3
  a3 := Tryz.isAgg3
  z3 := Tryz.sizeOf3
  v3 := Tryz.zeroValue3
  t4 := Tryz.underlying4
  a4 := Tryz.isAgg4
  z4 := Tryz.sizeOf4
  v4 := Tryz.zeroValue4
  t5 := Tryz.underlying5
  a5 := Tryz.isAgg5
  z5 := Tryz.sizeOf5
  v5 := Tryz.zeroValue5
  t9 := Tryz.underlying9
  a9 := Tryz.isAgg9
  z9 := Tryz.sizeOf9
  v9 := Tryz.zeroValue9
  t20 := Tryz.underlying20
  a20 := Tryz.isAgg20
  z20 := Tryz.sizeOf20
  v20 := Tryz.zeroValue20
  t37 := Tryz.underlying105
  a37 := Tryz.isAgg105
  z37 := Tryz.sizeOf105
  v37 := Tryz.zeroValue105
  t46 := Tryz.underlying84
  a46 := Tryz.isAgg84
  z46 := Tryz.sizeOf84
  v46 := Tryz.zeroValue84
  t51 := Tryz.underlying181
  a51 := Tryz.isAgg181
  z51 := Tryz.sizeOf181
  v51 := Tryz.zeroValue181
  t53 := Tryz.underlying184
  a53 := Tryz.isAgg184
  z53 := Tryz.sizeOf184
  v53 := Tryz.zeroValue184
  t70 := Tryz.underlying155
  a70 := Tryz.isAgg155
  z70 := Tryz.sizeOf155
  v70 := Tryz.zeroValue155
  t72 := Tryz.underlying157
  a72 := Tryz.isAgg157
  z72 := Tryz.sizeOf157
  v72 := Tryz.zeroValue157
  t75 := Tryz.underlying39
  a75 := Tryz.isAgg39
  z75 := Tryz.sizeOf39
  v75 := Tryz.zeroValue39
  t76 := Tryz.underlying159
  a76 := Tryz.isAgg159
  z76 := Tryz.sizeOf159
  v76 := Tryz.zeroValue159
  t109 := Tryz.underlying153
  a109 := Tryz.isAgg153
  z109 := Tryz.sizeOf153
  v109 := Tryz.zeroValue153
  t127 := Tryz.underlying187
  a127 := Tryz.isAgg187
  z127 := Tryz.sizeOf187
  v127 := Tryz.zeroValue187
  t146 := Tryz.underlying182
  a146 := Tryz.isAgg182
  z146 := Tryz.sizeOf182
  v146 := Tryz.zeroValue182
  t148 := Tryz.underlying185
  a148 := Tryz.isAgg185
  z148 := Tryz.sizeOf185
  v148 := Tryz.zeroValue185
  t164 := Tryz.underlying198
  a164 := Tryz.isAgg198
  z164 := Tryz.sizeOf198
  v164 := Tryz.zeroValue198 }
theorem Tryz.Builder_Extra_105 : Builder.Extra Tryz.prog Tryz.lays105_ren := {
  sizeBuilder := by kernel_rfl
  liesBuilder := by kernel_rfl
  t5 := Tryz.underlying5
  a5 := Tryz.isAgg5
  z5 := Tryz.sizeOf5
  v5 := Tryz.zeroValue5
  infoByte := by kernel_rfl
  cellsByte := by kernel_rfl
  sizeByte := by kernel_rfl
  neB5 := by decide }
theorem Tryz.strings_Repeat (s : ByteArray) (c : Nat) (w : World) (hc : c ≤ 9223372036854775807) (hlen : s.size * c ≤ 140737488355328) :
    Calls Tryz.prog 73 #[.string s, .int .i64 c] w fun e w' => e = .returned (.string ⟨(Lib.repeatL s.data.toList c).toArray⟩) ∧ Below w.heap.size w w' := Any.strings_Repeat Tryz.lays105 Tryz.Builder_Extra_105 s c w hc hlen
end Go.Proofs.YtkpdmgoldngdaabGreatDoor

namespace Go.Proofs.YtkpdmgoldngdaabGreatDoor
open Go.RowKit
set_option maxRecDepth 100000

theorem app_data (a b : ByteArray) : (a ++ b).data.toList = a.data.toList ++ b.data.toList := by rw [ByteArray.data_append, Array.toList_append]
def rgL (rs : List (Int × Int)) : List UInt8 := rs.flatMap fun r => txtL r.1 4 ++ txtL r.2 4
def rgS (rs : List (Int × Int)) : ByteArray := ⟨(rgL rs).toArray⟩
theorem txtL_length (n : Int) (k : Nat) : (txtL n k).length = k := by simp [txtL]
theorem rgL_len (rs : List (Int × Int)) : (rgL rs).length = rs.length * 8 := by
  induction rs with
  | nil => rfl
  | cons r rs ih =>
    have : rgL (r :: rs) = txtL r.1 4 ++ txtL r.2 4 ++ rgL rs := rfl
    rw [this, List.length_append, List.length_append, txtL_length, txtL_length, ih, List.length_cons]; omega
theorem rgS_size (rs : List (Int × Int)) : (rgS rs).size = rs.length * 8 := by rw [← rgL_len]; rfl
theorem rgS_step (rs : List (Int × Int)) (k : Nat) (r : Int × Int) (h : rs[k]? = some r) : rgS (rs.take (k + 1)) = rgS (rs.take k) ++ (txt r.1 4 ++ txt r.2 4) := by
  obtain ⟨hk, rfl⟩ := List.getElem?_eq_some_iff.1 h
  apply ba_toList
  rw [app_data, app_data, txt_toList, txt_toList]
  show rgL (rs.take (k + 1)) = rgL (rs.take k) ++ _
  unfold rgL
  rw [List.take_succ_eq_append_getElem hk, List.flatMap_append, List.flatMap_singleton]
def partL (m c t ec : Int) (sd ok sp : Bool) (rs : List (Int × Int)) (k : Nat) : List UInt8 := match k with
  | 0 => if m ≠ 0 then 2 :: 4 :: txtL m 2 else []
  | 1 => if sd = true then 3 :: 3 :: txtL c 1 else []
  | 2 => if ok = true then [4, 2] else []
  | 3 => if sp = true then 8 :: 10 :: (txtL t 4 ++ txtL ec 4) else []
  | 4 => if 0 < rs.length then 5 :: (txtL (2 + rs.length * 8) 1 ++ rgL rs) else []
  | _ => []
def bareL (m c t ec : Int) (sd ok sp : Bool) (rs : List (Int × Int)) (k : Nat) : List UInt8 := (List.range k).flatMap (partL m c t ec sd ok sp rs)
def bareS (m c t ec : Int) (sd ok sp : Bool) (rs : List (Int × Int)) (k : Nat) : ByteArray := ⟨(bareL m c t ec sd ok sp rs k).toArray⟩
def encL (m c t ec : Int) (sd ok sp : Bool) (rs : List (Int × Int)) : List UInt8 := bareL m c t ec sd ok sp rs 5 ++ List.replicate (longN m sd ok sp rs.length - lenK m sd ok sp rs.length 5) 0
def encO (m c t ec : Int) (sd ok sp : Bool) (rs : List (Int × Int)) : ByteArray := ⟨(encL m c t ec sd ok sp rs).toArray⟩
theorem bareS_step (m c t ec : Int) (sd ok sp : Bool) (rs : List (Int × Int)) (k : Nat) : bareS m c t ec sd ok sp rs (k + 1) = bareS m c t ec sd ok sp rs k ++ ⟨(partL m c t ec sd ok sp rs k).toArray⟩ := by
  apply ba_toList
  rw [app_data]
  show bareL m c t ec sd ok sp rs (k + 1) = bareL m c t ec sd ok sp rs k ++ _
  unfold bareL
  rw [List.range_succ, List.flatMap_append]
  simp
theorem bareS_no (m c t ec : Int) (sd ok sp : Bool) (rs : List (Int × Int)) (k : Nat) (h : partL m c t ec sd ok sp rs k = []) : bareS m c t ec sd ok sp rs (k + 1) = bareS m c t ec sd ok sp rs k := by
  rw [bareS_step, h]; apply ba_toList; rw [app_data]; simp
theorem bareS_yes (m c t ec : Int) (sd ok sp : Bool) (rs : List (Int × Int)) (k : Nat) (x : ByteArray) (h : partL m c t ec sd ok sp rs k = x.data.toList) : bareS m c t ec sd ok sp rs (k + 1) = bareS m c t ec sd ok sp rs k ++ x := by
  rw [bareS_step, h]
theorem bareS_zero (m c t ec : Int) (sd ok sp : Bool) (rs : List (Int × Int)) : bareS m c t ec sd ok sp rs 0 = ⟨#[]⟩ := rfl
theorem bareL_len (m c t ec : Int) (sd ok sp : Bool) (rs : List (Int × Int)) : (bareL m c t ec sd ok sp rs 5).length = lenK m sd ok sp rs.length 5 := by
  have e : List.range 5 = [0, 1, 2, 3, 4] := rfl
  unfold bareL lenK
  rw [e]
  by_cases h0 : m = 0 <;> cases sd <;> cases ok <;> cases sp <;> by_cases h4 : 0 < rs.length <;> simp [partL, h0, h4, txtL_length, rgL_len] <;> omega
theorem bareS_size (m c t ec : Int) (sd ok sp : Bool) (rs : List (Int × Int)) : (bareS m c t ec sd ok sp rs 5).size = lenK m sd ok sp rs.length 5 := by rw [← bareL_len m c t ec sd ok sp rs]; rfl
theorem bareL_le (m c t ec : Int) (sd ok sp : Bool) (rs : List (Int × Int)) (k : Nat) (hk : k ≤ 5) : (bareL m c t ec sd ok sp rs k).length ≤ lenK m sd ok sp rs.length 5 := by
  rw [← bareL_len m c t ec sd ok sp rs]
  have e : List.range 5 = List.range k ++ (List.range (5 - k)).map (k + ·) := by rw [← List.range_add]; congr 1; omega
  unfold bareL
  rw [e, List.flatMap_append, List.length_append]
  omega
theorem bareS_le (m c t ec : Int) (sd ok sp : Bool) (rs : List (Int × Int)) (k : Nat) (hk : k ≤ 5) : (bareS m c t ec sd ok sp rs k).size ≤ lenK m sd ok sp rs.length 5 := bareL_le m c t ec sd ok sp rs k hk
theorem long_ge (m : Int) (sd ok sp : Bool) (n : Nat) : lenK m sd ok sp n 5 ≤ longN m sd ok sp n ∧ longN m sd ok sp n ≤ lenK m sd ok sp n 5 + 3 := by unfold longN; omega
theorem encO_is (m c t ec : Int) (sd ok sp : Bool) (rs : List (Int × Int)) : encO m c t ec sd ok sp rs = bareS m c t ec sd ok sp rs 5 ++ ⟨(Lib.repeatL (⟨#[0]⟩ : ByteArray).data.toList (longN m sd ok sp rs.length - lenK m sd ok sp rs.length 5)).toArray⟩ := by
  apply ba_toList
  rw [app_data]
  show encL m c t ec sd ok sp rs = bareL m c t ec sd ok sp rs 5 ++ Lib.repeatL [0] _
  unfold encL
  congr 1
  generalize longN m sd ok sp rs.length - lenK m sd ok sp rs.length 5 = j
  induction j with
  | zero => rfl
  | succ j ih => rw [List.replicate_succ, ih]; rfl
theorem encO_size (m c t ec : Int) (sd ok sp : Bool) (rs : List (Int × Int)) : (encO m c t ec sd ok sp rs).size = longN m sd ok sp rs.length := by
  have h := long_ge m sd ok sp rs.length
  show (encL m c t ec sd ok sp rs).length = _
  unfold encL
  rw [List.length_append, bareL_len, List.length_replicate]
  omega

theorem mayO_t {m c t ec : Int} {sd ok sp : Bool} {rs : List (Int × Int)} (h : mayO m c t ec sd ok sp rs = true) : (0 ≤ m ∧ m ≤ 65535) ∧ (0 ≤ c ∧ c ≤ 14) ∧ (sd = true ∨ c = 0) ∧ (0 ≤ t ∧ t ≤ 4294967295) ∧ (0 ≤ ec ∧ ec ≤ 4294967295) ∧ (sp = true ∨ t = 0 ∧ ec = 0) ∧ longN m sd ok sp rs.length ≤ 40 ∧ ∀ r ∈ rs, rgB r = true := by
  unfold mayO fitsB numB at h
  simp only [Bool.and_eq_true, decide_eq_true_eq, Bool.or_eq_true, Bool.not_eq_true', List.any_eq_false] at h
  obtain ⟨⟨⟨⟨⟨⟨⟨h1, h2⟩, h3⟩, h4⟩, h5⟩, h6⟩, h7⟩, h8⟩ := h
  refine ⟨h1, h2, h3, h4, h5, h6, h7, fun r hr => ?_⟩
  have := h8 r hr
  simpa using this
theorem rgB_t {r : Int × Int} (h : rgB r = true) : (0 ≤ r.1 ∧ r.1 ≤ 4294967295) ∧ (0 ≤ r.2 ∧ r.2 ≤ 4294967295) ∧ r.1 ≠ r.2 := by
  unfold rgB numB at h
  simpa [and_assoc] using h
theorem mayO_short {m c t ec : Int} {sd ok sp : Bool} {rs : List (Int × Int)} (h : mayO m c t ec sd ok sp rs = true) : rs.length ≤ 4 := by
  have h7 := (mayO_t h).2.2.2.2.2.2.1
  have := lenK_le m sd ok sp rs.length 5
  unfold longN at h7
  apply Classical.byContradiction
  intro hn
  have h5 : lenK m sd ok sp rs.length 5 ≤ 40 := by omega
  have h6 : rs.length * 8 + 2 ≤ lenK m sd ok sp rs.length 5 := by
    unfold lenK
    rw [if_pos (show 4 < 5 ∧ 0 < rs.length by omega)]
    omega
  omega

theorem putV_t (n : Int) (k : Nat) (k1 : 1 ≤ k) (k6 : k ≤ 6) (h0 : 0 ≤ n) (h1 : n < 2 ^ (8 * k)) : putV n k = txt n k := by
  unfold putV
  rw [if_pos (putB_t ⟨by omega, by omega, h0, by simpa using h1⟩)]
  simp
theorem putV_le (n k : Int) : (putV n k).size ≤ 6 := by
  unfold putV
  split
  · rename_i h
    unfold putB at h
    have := of_decide_eq_true h
    rw [txt_size]; omega
  · simp [noS, ByteArray.size]
theorem put_o (n k : Int) (w : World) : Calls Tryz.prog 72 #[.int .i64 n, .int .i64 k] w fun e w' => e = .returned (.string (putV n k)) ∧ Below w.heap.size w w' := by
  go_enter Tryz.func72, Tryz.ntmps72
  go_wp2_with fail
  refine (pput_any _ _ _).mono ?_
  rintro e w' ⟨rfl, hb⟩
  go_wp2
  go_ret
  exact ⟨rfl, hb⟩
theorem body_2 (m c t ec : Int) (sd ok sp : Bool) (v : Value) (w : World) (h0 : 0 ≤ m) (h1 : m ≤ 65535) :
    Calls Tryz.prog 71 #[.agg #[.int .i64 m, .int .i64 c, .int .i64 t, .int .i64 ec, .bool sd, .bool ok, .bool sp, v], .int .i64 2] w fun e w' => e = .returned (.string (txt m 2)) ∧ Below w.heap.size w w' := by
  obtain ⟨⟨c0, c1, c2, c3, c4, c5, c6, c7⟩, -, -⟩ := (At.box w #[.int .i64 m, .int .i64 c, .int .i64 t, .int .i64 ec, .bool sd, .bool ok, .bool sp, v] 33).eight
  have hl := bel1 w (.cells #[.int .i64 m, .int .i64 c, .int .i64 t, .int .i64 ec, .bool sd, .bool ok, .bool sp, v] 33)
  have hp : Hid (putV m 2 = txt m 2) := putV_t m 2 (by decide) (by decide) h0 (by show m < 65536; omega)
  go_enter Tryz.func71, Tryz.ntmps71
  go_wp2_with fail
  refine (put_o _ _ _).mono ?_
  rintro e w' ⟨rfl, hb⟩
  go_wp2
  go_ret
  exact ⟨by rw [← hp.out]; rfl, bt hl hb⟩
theorem body_3 (m c t ec : Int) (sd ok sp : Bool) (v : Value) (w : World) (h0 : 0 ≤ c) (h1 : c ≤ 14) :
    Calls Tryz.prog 71 #[.agg #[.int .i64 m, .int .i64 c, .int .i64 t, .int .i64 ec, .bool sd, .bool ok, .bool sp, v], .int .i64 3] w fun e w' => e = .returned (.string (txt c 1)) ∧ Below w.heap.size w w' := by
  obtain ⟨⟨c0, c1, c2, c3, c4, c5, c6, c7⟩, -, -⟩ := (At.box w #[.int .i64 m, .int .i64 c, .int .i64 t, .int .i64 ec, .bool sd, .bool ok, .bool sp, v] 33).eight
  have hl := bel1 w (.cells #[.int .i64 m, .int .i64 c, .int .i64 t, .int .i64 ec, .bool sd, .bool ok, .bool sp, v] 33)
  have hp : Hid (putV c 1 = txt c 1) := putV_t c 1 (by decide) (by decide) h0 (by show c < 256; omega)
  go_enter Tryz.func71, Tryz.ntmps71
  go_wp2_with fail
  refine (put_o _ _ _).mono ?_
  rintro e w' ⟨rfl, hb⟩
  go_wp2
  go_ret
  exact ⟨by rw [← hp.out]; rfl, bt hl hb⟩
theorem body_4 (m c t ec : Int) (sd ok sp : Bool) (v : Value) (w : World) :
    Calls Tryz.prog 71 #[.agg #[.int .i64 m, .int .i64 c, .int .i64 t, .int .i64 ec, .bool sd, .bool ok, .bool sp, v], .int .i64 4] w fun e w' => e = .returned (.string ⟨#[]⟩) ∧ Below w.heap.size w w' := by
  have hl := bel1 w (.cells #[.int .i64 m, .int .i64 c, .int .i64 t, .int .i64 ec, .bool sd, .bool ok, .bool sp, v] 33)
  go_enter Tryz.func71, Tryz.ntmps71
  go_wp2
  go_ret
  exact ⟨rfl, hl⟩
theorem keepT {w W x : World} {a b : Addr} {p q : Value} (hb : Below W.heap.size W x) (h : Below w.heap.size w W ∧ W.cell? a = some p ∧ W.cell? b = some q) : Below w.heap.size w x ∧ x.cell? a = some p ∧ x.cell? b = some q :=
  ⟨bt h.1 hb, later hb h.2.1, later hb h.2.2⟩
set_option maxHeartbeats 1000000 in
theorem body_8 (m c t ec : Int) (sd ok sp : Bool) (v : Value) (w : World) (h0 : 0 ≤ t) (h1 : t ≤ 4294967295) (h2 : 0 ≤ ec) (h3 : ec ≤ 4294967295) :
    Calls Tryz.prog 71 #[.agg #[.int .i64 m, .int .i64 c, .int .i64 t, .int .i64 ec, .bool sd, .bool ok, .bool sp, v], .int .i64 8] w fun e w' => e = .returned (.string (txt t 4 ++ txt ec 4)) ∧ Below w.heap.size w w' := by
  obtain ⟨⟨c0, c1, c2, c3, c4, c5, c6, c7⟩, -, -⟩ := (At.box w #[.int .i64 m, .int .i64 c, .int .i64 t, .int .i64 ec, .bool sd, .bool ok, .bool sp, v] 33).eight
  have hl := bel1 w (.cells #[.int .i64 m, .int .i64 c, .int .i64 t, .int .i64 ec, .bool sd, .bool ok, .bool sp, v] 33)
  have hx : Below w.heap.size w (w.alloc (.cells #[.int .i64 m, .int .i64 c, .int .i64 t, .int .i64 ec, .bool sd, .bool ok, .bool sp, v] 33)) ∧ (w.alloc (.cells #[.int .i64 m, .int .i64 c, .int .i64 t, .int .i64 ec, .bool sd, .bool ok, .bool sp, v] 33)).cell? ⟨w.heap.size, 2, none⟩ = some (.int .i64 t) ∧ (w.alloc (.cells #[.int .i64 m, .int .i64 c, .int .i64 t, .int .i64 ec, .bool sd, .bool ok, .bool sp, v] 33)).cell? ⟨w.heap.size, 3, none⟩ = some (.int .i64 ec) := ⟨hl, c2, c3⟩
  have hp : Hid (putV t 4 = txt t 4) := putV_t t 4 (by decide) (by decide) h0 (by show t < 4294967296; omega)
  have hq : Hid (putV ec 4 = txt ec 4) := putV_t ec 4 (by decide) (by decide) h2 (by show ec < 4294967296; omega)
  have y1 := putV_le t 4
  have y2 := putV_le ec 4
  have r1 : ∀ W, (Op.stringOp .add (putV t 4) (putV ec 4)).run Tryz.prog W = .ok (.string (putV t 4 ++ putV ec 4)) W := fun W => run_string_add_sum W _ _ (by omega)
  clear y1 y2 c0 c1 c2 c3 c4 c5 c6 c7 hl
  go_enter Tryz.func71, Tryz.ntmps71
  go_wp2
  go_region_held3 (fun W => Below w.heap.size w W ∧ W.cell? ⟨w.heap.size, 2, none⟩ = some (.int .i64 t) ∧ W.cell? ⟨w.heap.size, 3, none⟩ = some (.int .i64 ec)) (first | exact ⟨hx.1.drew, hx.2⟩ | (refine keepT hb ?_; assumption)) (first | (go_at_call 72; refine (put_o _ _ _).mono ?_; rintro e w' ⟨rfl, hb⟩))
  all_goals
    rename_i hz
    go_wp2
    go_ret
    exact ⟨by rw [← hp.out, ← hq.out]; rfl, hz.1⟩
set_option maxRecDepth 100000 in
set_option maxHeartbeats 2000000 in
theorem body_5 (m c t ec : Int) (sd ok sp : Bool) (v : Value) (rs : List (Int × Int)) (w : World) (hv : Rgs w v rs) (hn : rs.length ≤ 4) (hr : ∀ r ∈ rs, rgB r = true) :
    Calls Tryz.prog 71 #[.agg #[.int .i64 m, .int .i64 c, .int .i64 t, .int .i64 ec, .bool sd, .bool ok, .bool sp, v], .int .i64 5] w fun e w' => e = .returned (.string (rgS rs)) ∧ Below w.heap.size w w' := by
  obtain ⟨a, cap, rfl, hc, h⟩ := hv
  have hA := (At.box w (#[.int .i64 m, .int .i64 c, .int .i64 t, .int .i64 ec, .bool sd, .bool ok, .bool sp, .slice a rs.length cap]) 33).eight
  have hl := bel1 w (.cells (#[.int .i64 m, .int .i64 c, .int .i64 t, .int .i64 ec, .bool sd, .bool ok, .bool sp, .slice a rs.length cap]) 33)
  obtain ⟨⟨c0, c1, c2, c3, c4, c5, c6, c7⟩, -, -⟩ := hA
  rcases h with rfl | ⟨b, off, rfl, hx⟩
  · go_enter Tryz.func71, Tryz.ntmps71
    go_wp2
    go_loop [5, 33] (fun s i => i = .int .i64 0 ∧ s = .string ⟨#[]⟩) (fun _ _ => 0)
    case atStart => exact ⟨rfl, rfl⟩
    case round =>
      obtain ⟨rfl, rfl⟩ := hrel
      go_wp2
      go_ret
      exact ⟨rfl, hl⟩
  · have HX : Hid (∀ (j : Nat) (r : Int × Int), rs[j]? = some r → w.cell? ⟨b, off + j * 2, none⟩ = some (.int .i64 r.1) ∧ w.cell? ⟨b, off + j * 2 + 1, none⟩ = some (.int .i64 r.2)) := hx
    have HR : Hid (∀ r ∈ rs, rgB r = true) := hr
    have hn' : (rs.length : Int) ≤ 4 := by omega
    have HL : Hid (Below w.heap.size w (w.alloc (.cells (#[.int .i64 m, .int .i64 c, .int .i64 t, .int .i64 ec, .bool sd, .bool ok, .bool sp, .slice (some ⟨b, off, none⟩) rs.length cap]) 33))) := hl
    clear hx hr hl
    go_enter Tryz.func71, Tryz.ntmps71
    go_wp2
    clear c0 c1 c2 c3 c4 c5 c6 c7
    go_loopw [5, 33] (fun s i W => ∃ k : Nat, k ≤ rs.length ∧ i = .int .i64 k ∧ s = .string (rgS (rs.take k)) ∧ Below w.heap.size w W) (fun _ i _ => rs.length - (intOf i).toNat)
    case atStart => exact ⟨0, Nat.zero_le _, rfl, by simp [rgS, rgL], HL.out⟩
    case round =>
      obtain ⟨k, hk, rfl, rfl, hbl⟩ := hrel
      by_cases hlt : k < rs.length
      · obtain ⟨r, hr⟩ : ∃ r, rs[k]? = some r := ⟨rs[k], List.getElem?_eq_getElem hlt⟩
        have HS : Hid (rgS (rs.take (k + 1)) = rgS (rs.take k) ++ (txt r.1 4 ++ txt r.2 4)) := rgS_step rs k r hr
        obtain ⟨x1, x2⟩ := HX.out k r hr
        obtain ⟨⟨a0, a1⟩, ⟨b0, b1⟩, -⟩ := rgB_t (HR.out r (List.mem_of_getElem? hr))
        replace x1 := later hbl x1
        replace x2 := later hbl x2
        have l0 : (0 : Int) ≤ (k : Int) := by omega
        have l1 : (k : Int) < (rs.length : Int) := by omega
        have hp : Hid (putV r.1 4 = txt r.1 4) := putV_t r.1 4 (by decide) (by decide) a0 (by show r.1 < 4294967296; omega)
        have hq : Hid (putV r.2 4 = txt r.2 4) := putV_t r.2 4 (by decide) (by decide) b0 (by show r.2 < 4294967296; omega)
        have y1 := putV_le r.1 4
        have y2 := putV_le r.2 4
        have y3 : (rgS (rs.take k)).size ≤ 32 := by rw [rgS_size, List.length_take]; omega
        generalize rgS (rs.take k) = S at *
        obtain ⟨X, Y⟩ := r
        have r1 : ∀ W, (Op.stringOp .add (putV X 4) (putV Y 4)).run Tryz.prog W = .ok (.string (putV X 4 ++ putV Y 4)) W := fun W => run_string_add_sum W _ _ (by simp only at y1 y2; omega)
        have r2 : ∀ W, (Op.stringOp .add S (putV X 4 ++ putV Y 4)).run Tryz.prog W = .ok (.string (S ++ (putV X 4 ++ putV Y 4))) W := fun W => run_string_add_sum W _ _ (by simp only [ByteArray.size_append]; simp only at y1 y2; omega)
        clear hr y1 y2 y3 a0 a1 b0 b1
        have hz1 := bel1 wr (.cells #[.int .i64 X, .int .i64 Y] 97)
        have hAt := At.box wr #[.int .i64 X, .int .i64 Y] 97
        have hx : Below w.heap.size w (wr.alloc (.cells #[.int .i64 X, .int .i64 Y] 97)) ∧ (wr.alloc (.cells #[.int .i64 X, .int .i64 Y] 97)).cell? ⟨wr.heap.size, 0, none⟩ = some (.int .i64 X) ∧ (wr.alloc (.cells #[.int .i64 X, .int .i64 Y] 97)).cell? ⟨wr.heap.size, 1, none⟩ = some (.int .i64 Y) := ⟨bt hbl hz1, (hAt.2 0 _ rfl).1, (hAt.2 1 _ rfl).1⟩
        clear hz1 hAt
        go_wp2
        go_region_held3 (fun W => Below w.heap.size w W ∧ W.cell? ⟨wr.heap.size, 0, none⟩ = some (.int .i64 X) ∧ W.cell? ⟨wr.heap.size, 1, none⟩ = some (.int .i64 Y)) (first | exact ⟨hx.1.drew, hx.2⟩ | (refine keepT hb ?_; assumption)) (first | (go_at_call 72; refine (put_o _ _ _).mono ?_; rintro e w' ⟨rfl, hb⟩))
        all_goals
          rename_i hz
          go_wp2
          go_roundw
          case rel => exact ⟨k + 1, by omega, by go_num, by rw [HS.out, ← hp.out, ← hq.out], hz.1⟩
          case measure => simp [intOf]; omega
      · have hk' : k = rs.length := by omega
        subst hk'
        rw [List.take_length]
        go_wp2
        go_ret
        exact ⟨rfl, hbl⟩
end Go.Proofs.YtkpdmgoldngdaabGreatDoor

namespace Go.Proofs.YtkpdmgoldngdaabGreatDoor
open Go.RowKit
set_option maxRecDepth 100000

theorem opt_bytes (K : Int) (B : ByteArray) (h0 : 0 ≤ K) (h1 : K < 256) (hB : B.size ≤ 200) : (putV K 1 ++ putV (2 + (B.size : Int)) 1 ++ B).data.toList = txtL K 1 ++ txtL (2 + (B.size : Int)) 1 ++ B.data.toList := by
  have e1 : putV K 1 = txt K 1 := putV_t K 1 (by decide) (by decide) h0 (by show K < 256; exact h1)
  have e2 : putV (2 + (B.size : Int)) 1 = txt (2 + (B.size : Int)) 1 := putV_t _ 1 (by decide) (by decide) (by omega) (by show (2 + (B.size : Int)) < 256; omega)
  rw [app_data, app_data, e1, e2, txt_toList, txt_toList]
theorem tl_2 : txtL 2 1 = [2] := by decide +kernel
theorem tl_3 : txtL 3 1 = [3] := by decide +kernel
theorem tl_4 : txtL 4 1 = [4] := by decide +kernel
theorem tl_8 : txtL 8 1 = [8] := by decide +kernel
theorem tl_5 : txtL 5 1 = [5] := by decide +kernel
theorem tl_10 : txtL 10 1 = [10] := by decide +kernel
theorem part_0 (m c t ec : Int) (sd ok sp : Bool) (rs : List (Int × Int)) (h : m ≠ 0) : partL m c t ec sd ok sp rs 0 = (putV 2 1 ++ putV (2 + ((txt m 2).size : Int)) 1 ++ (txt m 2)).data.toList := by
  have hz : (txt m 2).size = 2 := by rw [txt_size]
  rw [opt_bytes _ _ (by decide) (by decide) (by rw [hz]; decide), hz]
  simp only [partL, if_pos h]
  have e : (2 : Int) + ((2 : Nat) : Int) = 4 := rfl
  rw [e, tl_2, tl_4]
  rw [txt_toList]; rfl
theorem part_1 (m c t ec : Int) (sd ok sp : Bool) (rs : List (Int × Int)) (h : sd = true) : partL m c t ec sd ok sp rs 1 = (putV 3 1 ++ putV (2 + ((txt c 1).size : Int)) 1 ++ (txt c 1)).data.toList := by
  have hz : (txt c 1).size = 1 := by rw [txt_size]
  rw [opt_bytes _ _ (by decide) (by decide) (by rw [hz]; decide), hz]
  simp only [partL, if_pos h]
  have e : (2 : Int) + ((1 : Nat) : Int) = 3 := rfl
  rw [e, tl_3]
  rw [txt_toList]; rfl
theorem part_2 (m c t ec : Int) (sd ok sp : Bool) (rs : List (Int × Int)) (h : ok = true) : partL m c t ec sd ok sp rs 2 = (putV 4 1 ++ putV (2 + (((⟨#[]⟩ : ByteArray)).size : Int)) 1 ++ ((⟨#[]⟩ : ByteArray))).data.toList := by
  have hz : ((⟨#[]⟩ : ByteArray)).size = 0 := by rfl
  rw [opt_bytes _ _ (by decide) (by decide) (by rw [hz]; decide), hz]
  simp only [partL, if_pos h]
  have e : (2 : Int) + ((0 : Nat) : Int) = 2 := rfl
  rw [e, tl_4, tl_2]
  rfl
theorem part_3 (m c t ec : Int) (sd ok sp : Bool) (rs : List (Int × Int)) (h : sp = true) : partL m c t ec sd ok sp rs 3 = (putV 8 1 ++ putV (2 + ((txt t 4 ++ txt ec 4).size : Int)) 1 ++ (txt t 4 ++ txt ec 4)).data.toList := by
  have hz : (txt t 4 ++ txt ec 4).size = 8 := by rw [ByteArray.size_append, txt_size, txt_size]
  rw [opt_bytes _ _ (by decide) (by decide) (by rw [hz]; decide), hz]
  simp only [partL, if_pos h]
  have e : (2 : Int) + ((8 : Nat) : Int) = 10 := rfl
  rw [e, tl_8, tl_10]
  rw [app_data, txt_toList, txt_toList]; rfl
theorem part_4 (m c t ec : Int) (sd ok sp : Bool) (rs : List (Int × Int)) (h : 0 < rs.length) (hn : rs.length ≤ 4) : partL m c t ec sd ok sp rs 4 = (putV 5 1 ++ putV (2 + ((rgS rs).size : Int)) 1 ++ (rgS rs)).data.toList := by
  have hz : (rgS rs).size = rs.length * 8 := rgS_size rs
  rw [opt_bytes _ _ (by decide) (by decide) (by rw [hz]; omega), hz, tl_5]
  simp only [partL, if_pos h]
  rw [show ((rs.length * 8 : Nat) : Int) = (rs.length : Int) * 8 by omega]
  rfl
set_option maxRecDepth 100000 in
set_option maxHeartbeats 4000000 in
theorem enc_t (m c t ec : Int) (sd ok sp : Bool) (v : Value) (rs : List (Int × Int)) (w : World) (hv : Rgs w v rs) (hm : mayO m c t ec sd ok sp rs = true) (hG : Ord w) :
    Calls Tryz.prog 36 #[.agg #[.int .i64 m, .int .i64 c, .int .i64 t, .int .i64 ec, .bool sd, .bool ok, .bool sp, v]] w fun e w' => e = .returned (.tuple #[.string (encO m c t ec sd ok sp rs), .int .i64 0]) ∧ Below w.heap.size w w' := by
  have hn4 := mayO_short hm
  obtain ⟨⟨h0, h1⟩, ⟨g0, g1⟩, -, ⟨t0, t1⟩, ⟨e0, e1⟩, -, h40, hrr⟩ := mayO_t hm
  have hgt := long_ge m sd ok sp rs.length
  have HRR : Hid (∀ r ∈ rs, rgB r = true) := hrr
  obtain ⟨x, cap, hvx, -⟩ := id hv
  subst hvx
  have hA := At.box w (#[.int .i64 m, .int .i64 c, .int .i64 t, .int .i64 ec, .bool sd, .bool ok, .bool sp, .slice x rs.length cap]) 33
  have hl := bel1 w (.cells (#[.int .i64 m, .int .i64 c, .int .i64 t, .int .i64 ec, .bool sd, .bool ok, .bool sp, .slice x rs.length cap]) 33)
  have HE := encO_is m c t ec sd ok sp rs
  have hM := fun W hv hG => may_any m c t ec sd ok sp (.slice x rs.length cap) rs W hv (by omega) hG
  rw [hm] at hM
  obtain ⟨⟨c0, c1, c2, c3, c4, c5, c6, c7⟩, -, -⟩ := hA.eight
  go_enter Tryz.func36, Tryz.ntmps36
  go_wp2_with fail
  refine (hM _ (hv.later hl) (hG.later hl)).mono ?_
  rintro e w1 ⟨rfl, hb1⟩
  replace hl := bt hl hb1
  replace hA := hA.later hb1
  have HV : Hid (Rgs w1 (.slice x rs.length cap) rs) := hv.later hl
  have HG : Hid (Ord w1) := hG.later hl
  have HA : Hid (At w1 w.heap.size (#[.int .i64 m, .int .i64 c, .int .i64 t, .int .i64 ec, .bool sd, .bool ok, .bool sp, .slice x rs.length cap])) := hA
  have HL : Hid (Below w.heap.size w w1) := hl
  have HEE : Hid (encO m c t ec sd ok sp rs = bareS m c t ec sd ok sp rs 5 ++ ⟨(Lib.repeatL (⟨#[0]⟩ : ByteArray).data.toList (longN m sd ok sp rs.length - lenK m sd ok sp rs.length 5)).toArray⟩) := HE
  obtain ⟨g0', g1', g2', g3', g4'⟩ := HG.out
  clear hA hl hv hG hb1 c0 c1 c2 c3 c4 c5 c6 c7 hM hrr HE hm
  go_wp2
  clear g0' g1' g2' g3' g4'
  go_loopw [4, 12] (fun s i W => ∃ k : Nat, k ≤ 5 ∧ i = .int .i64 k ∧ s = .string (bareS m c t ec sd ok sp rs k) ∧ Below w1.heap.size w1 W) (fun _ i _ => 5 - (intOf i).toNat)
  case atStart => exact ⟨0, by omega, rfl, by rw [bareS_zero], Below.refl _ _⟩
  case round =>
    obtain ⟨k, hk, rfl, rfl, hbl⟩ := hrel
    obtain ⟨⟨c0, c1, c2, c3, c4, c5, c6, c7⟩, -, -⟩ := (HA.out.later hbl).eight
    obtain rfl | rfl | rfl | rfl | rfl | rfl : k = 0 ∨ k = 1 ∨ k = 2 ∨ k = 3 ∨ k = 4 ∨ k = 5 := by omega
    · have HT : Hid (m ≠ 0 → bareS m c t ec sd ok sp rs 1 = bareS m c t ec sd ok sp rs 0 ++ (putV 2 1 ++ putV (2 + ((txt m 2).size : Int)) 1 ++ (txt m 2))) := fun h => bareS_yes m c t ec sd ok sp rs 0 _ (part_0 m c t ec sd ok sp rs h)
      have HF : Hid (¬ (m ≠ 0) → bareS m c t ec sd ok sp rs 1 = bareS m c t ec sd ok sp rs 0) := fun h => bareS_no m c t ec sd ok sp rs 0 (by simp only [partL]; rw [if_neg h])
      have hix := ix_0 wr
      have hS := bareS_le m c t ec sd ok sp rs 0 (by omega)
      have hBz : (txt m 2).size ≤ 32 := by rw [txt_size]; omega
      have HBD : Hid (∀ W, True → Calls Tryz.prog 71 #[.agg (#[.int .i64 m, .int .i64 c, .int .i64 t, .int .i64 ec, .bool sd, .bool ok, .bool sp, .slice x rs.length cap]), .int .i64 2] W fun e w' => e = .returned (.string (txt m 2)) ∧ Below W.heap.size W w') := fun W _ => body_2 _ _ _ _ _ _ _ _ W h0 h1
      obtain ⟨B, hB⟩ : ∃ B, B = txt m 2 := ⟨_, rfl⟩
      rw [← hB] at HT HBD hBz
      clear hB
      generalize bareS m c t ec sd ok sp rs 0 = S at *
      have y1 := putV_le 2 1
      have y2 := putV_le (2 + (B.size : Int)) 1
      have r1 : ∀ W, (Op.stringOp .add (putV 2 1) (putV (2 + (B.size : Int)) 1)).run Tryz.prog W = .ok (.string (putV 2 1 ++ putV (2 + (B.size : Int)) 1)) W := fun W => run_string_add_sum W _ _ (by omega)
      have r2 : ∀ W, (Op.stringOp .add (putV 2 1 ++ putV (2 + (B.size : Int)) 1) B).run Tryz.prog W = .ok (.string (putV 2 1 ++ putV (2 + (B.size : Int)) 1 ++ B)) W := fun W => run_string_add_sum W _ _ (by simp only [ByteArray.size_append]; omega)
      have r3 : ∀ W, (Op.stringOp .add S (putV 2 1 ++ putV (2 + (B.size : Int)) 1 ++ B)).run Tryz.prog W = .ok (.string (S ++ (putV 2 1 ++ putV (2 + (B.size : Int)) 1 ++ B))) W := fun W => run_string_add_sum W _ _ (by simp only [ByteArray.size_append]; omega)
      have bz' : (B.size : Int) ≤ 32 := by omega
      clear y1 y2 hS hBz
      rcases Bool.eq_false_or_eq_true (m != 0) with hh | hh
      · go_wp2_with fail
        refine (has_2 _ _ _ _ _ _ _ x rs.length cap _).mono ?_
        rw [hh]
        rintro e wa ⟨rfl, hb⟩
        clear c0 c1 c2 c3 c4 c5 c6 c7
        have hbl2 := bt hbl hb
        obtain ⟨⟨c0, c1, c2, c3, c4, c5, c6, c7⟩, -, -⟩ := (HA.out.later hbl2).eight
        go_wp2_with fail
        refine (HBD.out _ trivial).mono ?_
        rintro e wb ⟨rfl, hb2⟩
        replace hbl2 := bt hbl2 hb2
        go_wp2_with fail
        refine (put_o _ _ _).mono ?_
        rintro e wc ⟨rfl, hb3⟩
        replace hbl2 := bt hbl2 hb3
        go_wp2_with fail
        refine (put_o _ _ _).mono ?_
        rintro e wd ⟨rfl, hb4⟩
        replace hbl2 := bt hbl2 hb4
        go_wp2
        go_roundw
        case rel => exact ⟨1, by omega, by go_num, by rw [HT.out (by simpa using hh)], hbl2⟩
        case measure => simp [intOf]
      · go_wp2_with fail
        refine (has_2 _ _ _ _ _ _ _ x rs.length cap _).mono ?_
        rw [hh]
        rintro e wa ⟨rfl, hb⟩
        go_wp2
        go_roundw
        case rel => exact ⟨1, by omega, by go_num, by rw [HF.out (by simpa using hh)], bt hbl hb⟩
        case measure => simp [intOf]
    · have HT : Hid (sd = true → bareS m c t ec sd ok sp rs 2 = bareS m c t ec sd ok sp rs 1 ++ (putV 3 1 ++ putV (2 + ((txt c 1).size : Int)) 1 ++ (txt c 1))) := fun h => bareS_yes m c t ec sd ok sp rs 1 _ (part_1 m c t ec sd ok sp rs h)
      have HF : Hid (¬ (sd = true) → bareS m c t ec sd ok sp rs 2 = bareS m c t ec sd ok sp rs 1) := fun h => bareS_no m c t ec sd ok sp rs 1 (by simp only [partL]; rw [if_neg h])
      have hix := ix_1 wr
      have hS := bareS_le m c t ec sd ok sp rs 1 (by omega)
      have hBz : (txt c 1).size ≤ 32 := by rw [txt_size]; omega
      have HBD : Hid (∀ W, True → Calls Tryz.prog 71 #[.agg (#[.int .i64 m, .int .i64 c, .int .i64 t, .int .i64 ec, .bool sd, .bool ok, .bool sp, .slice x rs.length cap]), .int .i64 3] W fun e w' => e = .returned (.string (txt c 1)) ∧ Below W.heap.size W w') := fun W _ => body_3 _ _ _ _ _ _ _ _ W g0 g1
      obtain ⟨B, hB⟩ : ∃ B, B = txt c 1 := ⟨_, rfl⟩
      rw [← hB] at HT HBD hBz
      clear hB
      generalize bareS m c t ec sd ok sp rs 1 = S at *
      have y1 := putV_le 3 1
      have y2 := putV_le (2 + (B.size : Int)) 1
      have r1 : ∀ W, (Op.stringOp .add (putV 3 1) (putV (2 + (B.size : Int)) 1)).run Tryz.prog W = .ok (.string (putV 3 1 ++ putV (2 + (B.size : Int)) 1)) W := fun W => run_string_add_sum W _ _ (by omega)
      have r2 : ∀ W, (Op.stringOp .add (putV 3 1 ++ putV (2 + (B.size : Int)) 1) B).run Tryz.prog W = .ok (.string (putV 3 1 ++ putV (2 + (B.size : Int)) 1 ++ B)) W := fun W => run_string_add_sum W _ _ (by simp only [ByteArray.size_append]; omega)
      have r3 : ∀ W, (Op.stringOp .add S (putV 3 1 ++ putV (2 + (B.size : Int)) 1 ++ B)).run Tryz.prog W = .ok (.string (S ++ (putV 3 1 ++ putV (2 + (B.size : Int)) 1 ++ B))) W := fun W => run_string_add_sum W _ _ (by simp only [ByteArray.size_append]; omega)
      have bz' : (B.size : Int) ≤ 32 := by omega
      clear y1 y2 hS hBz
      rcases Bool.eq_false_or_eq_true sd with rfl | rfl
      · go_wp2_with fail
        refine (has_3 _ _ _ _ _ _ _ x rs.length cap _).mono ?_
        rintro e wa ⟨rfl, hb⟩
        clear c0 c1 c2 c3 c4 c5 c6 c7
        have hbl2 := bt hbl hb
        obtain ⟨⟨c0, c1, c2, c3, c4, c5, c6, c7⟩, -, -⟩ := (HA.out.later hbl2).eight
        go_wp2_with fail
        refine (HBD.out _ trivial).mono ?_
        rintro e wb ⟨rfl, hb2⟩
        replace hbl2 := bt hbl2 hb2
        go_wp2_with fail
        refine (put_o _ _ _).mono ?_
        rintro e wc ⟨rfl, hb3⟩
        replace hbl2 := bt hbl2 hb3
        go_wp2_with fail
        refine (put_o _ _ _).mono ?_
        rintro e wd ⟨rfl, hb4⟩
        replace hbl2 := bt hbl2 hb4
        go_wp2
        go_roundw
        case rel => exact ⟨2, by omega, by go_num, by rw [HT.out (by simp)], hbl2⟩
        case measure => simp [intOf]
      · go_wp2_with fail
        refine (has_3 _ _ _ _ _ _ _ x rs.length cap _).mono ?_
        rintro e wa ⟨rfl, hb⟩
        go_wp2
        go_roundw
        case rel => exact ⟨2, by omega, by go_num, by rw [HF.out (by simp)], bt hbl hb⟩
        case measure => simp [intOf]
    · have HT : Hid (ok = true → bareS m c t ec sd ok sp rs 3 = bareS m c t ec sd ok sp rs 2 ++ (putV 4 1 ++ putV (2 + (((⟨#[]⟩ : ByteArray)).size : Int)) 1 ++ ((⟨#[]⟩ : ByteArray)))) := fun h => bareS_yes m c t ec sd ok sp rs 2 _ (part_2 m c t ec sd ok sp rs h)
      have HF : Hid (¬ (ok = true) → bareS m c t ec sd ok sp rs 3 = bareS m c t ec sd ok sp rs 2) := fun h => bareS_no m c t ec sd ok sp rs 2 (by simp only [partL]; rw [if_neg h])
      have hix := ix_2 wr
      have hS := bareS_le m c t ec sd ok sp rs 2 (by omega)
      have hBz : ((⟨#[]⟩ : ByteArray)).size ≤ 32 := by show 0 ≤ 32; omega
      have HBD : Hid (∀ W, True → Calls Tryz.prog 71 #[.agg (#[.int .i64 m, .int .i64 c, .int .i64 t, .int .i64 ec, .bool sd, .bool ok, .bool sp, .slice x rs.length cap]), .int .i64 4] W fun e w' => e = .returned (.string ((⟨#[]⟩ : ByteArray))) ∧ Below W.heap.size W w') := fun W _ => body_4 _ _ _ _ _ _ _ _ W
      obtain ⟨B, hB⟩ : ∃ B, B = (⟨#[]⟩ : ByteArray) := ⟨_, rfl⟩
      rw [← hB] at HT HBD hBz
      clear hB
      generalize bareS m c t ec sd ok sp rs 2 = S at *
      have y1 := putV_le 4 1
      have y2 := putV_le (2 + (B.size : Int)) 1
      have r1 : ∀ W, (Op.stringOp .add (putV 4 1) (putV (2 + (B.size : Int)) 1)).run Tryz.prog W = .ok (.string (putV 4 1 ++ putV (2 + (B.size : Int)) 1)) W := fun W => run_string_add_sum W _ _ (by omega)
      have r2 : ∀ W, (Op.stringOp .add (putV 4 1 ++ putV (2 + (B.size : Int)) 1) B).run Tryz.prog W = .ok (.string (putV 4 1 ++ putV (2 + (B.size : Int)) 1 ++ B)) W := fun W => run_string_add_sum W _ _ (by simp only [ByteArray.size_append]; omega)
      have r3 : ∀ W, (Op.stringOp .add S (putV 4 1 ++ putV (2 + (B.size : Int)) 1 ++ B)).run Tryz.prog W = .ok (.string (S ++ (putV 4 1 ++ putV (2 + (B.size : Int)) 1 ++ B))) W := fun W => run_string_add_sum W _ _ (by simp only [ByteArray.size_append]; omega)
      have bz' : (B.size : Int) ≤ 32 := by omega
      clear y1 y2 hS hBz
      rcases Bool.eq_false_or_eq_true ok with rfl | rfl
      · go_wp2_with fail
        refine (has_4 _ _ _ _ _ _ _ x rs.length cap _).mono ?_
        rintro e wa ⟨rfl, hb⟩
        clear c0 c1 c2 c3 c4 c5 c6 c7
        have hbl2 := bt hbl hb
        obtain ⟨⟨c0, c1, c2, c3, c4, c5, c6, c7⟩, -, -⟩ := (HA.out.later hbl2).eight
        go_wp2_with fail
        refine (HBD.out _ trivial).mono ?_
        rintro e wb ⟨rfl, hb2⟩
        replace hbl2 := bt hbl2 hb2
        go_wp2_with fail
        refine (put_o _ _ _).mono ?_
        rintro e wc ⟨rfl, hb3⟩
        replace hbl2 := bt hbl2 hb3
        go_wp2_with fail
        refine (put_o _ _ _).mono ?_
        rintro e wd ⟨rfl, hb4⟩
        replace hbl2 := bt hbl2 hb4
        go_wp2
        go_roundw
        case rel => exact ⟨3, by omega, by go_num, by rw [HT.out (by simp)], hbl2⟩
        case measure => simp [intOf]
      · go_wp2_with fail
        refine (has_4 _ _ _ _ _ _ _ x rs.length cap _).mono ?_
        rintro e wa ⟨rfl, hb⟩
        go_wp2
        go_roundw
        case rel => exact ⟨3, by omega, by go_num, by rw [HF.out (by simp)], bt hbl hb⟩
        case measure => simp [intOf]
    · have HT : Hid (sp = true → bareS m c t ec sd ok sp rs 4 = bareS m c t ec sd ok sp rs 3 ++ (putV 8 1 ++ putV (2 + ((txt t 4 ++ txt ec 4).size : Int)) 1 ++ (txt t 4 ++ txt ec 4))) := fun h => bareS_yes m c t ec sd ok sp rs 3 _ (part_3 m c t ec sd ok sp rs h)
      have HF : Hid (¬ (sp = true) → bareS m c t ec sd ok sp rs 4 = bareS m c t ec sd ok sp rs 3) := fun h => bareS_no m c t ec sd ok sp rs 3 (by simp only [partL]; rw [if_neg h])
      have hix := ix_3 wr
      have hS := bareS_le m c t ec sd ok sp rs 3 (by omega)
      have hBz : (txt t 4 ++ txt ec 4).size ≤ 32 := by rw [ByteArray.size_append, txt_size, txt_size]; omega
      have HBD : Hid (∀ W, True → Calls Tryz.prog 71 #[.agg (#[.int .i64 m, .int .i64 c, .int .i64 t, .int .i64 ec, .bool sd, .bool ok, .bool sp, .slice x rs.length cap]), .int .i64 8] W fun e w' => e = .returned (.string (txt t 4 ++ txt ec 4)) ∧ Below W.heap.size W w') := fun W _ => body_8 _ _ _ _ _ _ _ _ W t0 t1 e0 e1
      obtain ⟨B, hB⟩ : ∃ B, B = txt t 4 ++ txt ec 4 := ⟨_, rfl⟩
      rw [← hB] at HT HBD hBz
      clear hB
      generalize bareS m c t ec sd ok sp rs 3 = S at *
      have y1 := putV_le 8 1
      have y2 := putV_le (2 + (B.size : Int)) 1
      have r1 : ∀ W, (Op.stringOp .add (putV 8 1) (putV (2 + (B.size : Int)) 1)).run Tryz.prog W = .ok (.string (putV 8 1 ++ putV (2 + (B.size : Int)) 1)) W := fun W => run_string_add_sum W _ _ (by omega)
      have r2 : ∀ W, (Op.stringOp .add (putV 8 1 ++ putV (2 + (B.size : Int)) 1) B).run Tryz.prog W = .ok (.string (putV 8 1 ++ putV (2 + (B.size : Int)) 1 ++ B)) W := fun W => run_string_add_sum W _ _ (by simp only [ByteArray.size_append]; omega)
      have r3 : ∀ W, (Op.stringOp .add S (putV 8 1 ++ putV (2 + (B.size : Int)) 1 ++ B)).run Tryz.prog W = .ok (.string (S ++ (putV 8 1 ++ putV (2 + (B.size : Int)) 1 ++ B))) W := fun W => run_string_add_sum W _ _ (by simp only [ByteArray.size_append]; omega)
      have bz' : (B.size : Int) ≤ 32 := by omega
      clear y1 y2 hS hBz
      rcases Bool.eq_false_or_eq_true sp with rfl | rfl
      · go_wp2_with fail
        refine (has_8 _ _ _ _ _ _ _ x rs.length cap _).mono ?_
        rintro e wa ⟨rfl, hb⟩
        clear c0 c1 c2 c3 c4 c5 c6 c7
        have hbl2 := bt hbl hb
        obtain ⟨⟨c0, c1, c2, c3, c4, c5, c6, c7⟩, -, -⟩ := (HA.out.later hbl2).eight
        go_wp2_with fail
        refine (HBD.out _ trivial).mono ?_
        rintro e wb ⟨rfl, hb2⟩
        replace hbl2 := bt hbl2 hb2
        go_wp2_with fail
        refine (put_o _ _ _).mono ?_
        rintro e wc ⟨rfl, hb3⟩
        replace hbl2 := bt hbl2 hb3
        go_wp2_with fail
        refine (put_o _ _ _).mono ?_
        rintro e wd ⟨rfl, hb4⟩
        replace hbl2 := bt hbl2 hb4
        go_wp2
        go_roundw
        case rel => exact ⟨4, by omega, by go_num, by rw [HT.out (by simp)], hbl2⟩
        case measure => simp [intOf]
      · go_wp2_with fail
        refine (has_8 _ _ _ _ _ _ _ x rs.length cap _).mono ?_
        rintro e wa ⟨rfl, hb⟩
        go_wp2
        go_roundw
        case rel => exact ⟨4, by omega, by go_num, by rw [HF.out (by simp)], bt hbl hb⟩
        case measure => simp [intOf]
    · have HT : Hid (0 < rs.length → bareS m c t ec sd ok sp rs 5 = bareS m c t ec sd ok sp rs 4 ++ (putV 5 1 ++ putV (2 + ((rgS rs).size : Int)) 1 ++ (rgS rs))) := fun h => bareS_yes m c t ec sd ok sp rs 4 _ (part_4 m c t ec sd ok sp rs h hn4)
      have HF : Hid (¬ (0 < rs.length) → bareS m c t ec sd ok sp rs 5 = bareS m c t ec sd ok sp rs 4) := fun h => bareS_no m c t ec sd ok sp rs 4 (by simp only [partL]; rw [if_neg h])
      have hix := ix_4 wr
      have hS := bareS_le m c t ec sd ok sp rs 4 (by omega)
      have hBz : (rgS rs).size ≤ 32 := by rw [rgS_size]; omega
      have HBD : Hid (∀ W, Rgs W (.slice x rs.length cap) rs → Calls Tryz.prog 71 #[.agg (#[.int .i64 m, .int .i64 c, .int .i64 t, .int .i64 ec, .bool sd, .bool ok, .bool sp, .slice x rs.length cap]), .int .i64 5] W fun e w' => e = .returned (.string (rgS rs)) ∧ Below W.heap.size W w') := fun W hv => body_5 _ _ _ _ _ _ _ _ rs W hv hn4 HRR.out
      obtain ⟨B, hB⟩ : ∃ B, B = rgS rs := ⟨_, rfl⟩
      rw [← hB] at HT HBD hBz
      clear hB
      generalize bareS m c t ec sd ok sp rs 4 = S at *
      have y1 := putV_le 5 1
      have y2 := putV_le (2 + (B.size : Int)) 1
      have r1 : ∀ W, (Op.stringOp .add (putV 5 1) (putV (2 + (B.size : Int)) 1)).run Tryz.prog W = .ok (.string (putV 5 1 ++ putV (2 + (B.size : Int)) 1)) W := fun W => run_string_add_sum W _ _ (by omega)
      have r2 : ∀ W, (Op.stringOp .add (putV 5 1 ++ putV (2 + (B.size : Int)) 1) B).run Tryz.prog W = .ok (.string (putV 5 1 ++ putV (2 + (B.size : Int)) 1 ++ B)) W := fun W => run_string_add_sum W _ _ (by simp only [ByteArray.size_append]; omega)
      have r3 : ∀ W, (Op.stringOp .add S (putV 5 1 ++ putV (2 + (B.size : Int)) 1 ++ B)).run Tryz.prog W = .ok (.string (S ++ (putV 5 1 ++ putV (2 + (B.size : Int)) 1 ++ B))) W := fun W => run_string_add_sum W _ _ (by simp only [ByteArray.size_append]; omega)
      have bz' : (B.size : Int) ≤ 32 := by omega
      clear y1 y2 hS hBz
      rcases Bool.eq_false_or_eq_true (decide (0 < rs.length)) with hh | hh
      · go_wp2_with fail
        refine (has_5 _ _ _ _ _ _ _ x rs.length cap _).mono ?_
        rw [hh]
        rintro e wa ⟨rfl, hb⟩
        clear c0 c1 c2 c3 c4 c5 c6 c7
        have hbl2 := bt hbl hb
        obtain ⟨⟨c0, c1, c2, c3, c4, c5, c6, c7⟩, -, -⟩ := (HA.out.later hbl2).eight
        go_wp2_with fail
        refine (HBD.out _ ((HV.out.later hbl2))).mono ?_
        rintro e wb ⟨rfl, hb2⟩
        replace hbl2 := bt hbl2 hb2
        go_wp2_with fail
        refine (put_o _ _ _).mono ?_
        rintro e wc ⟨rfl, hb3⟩
        replace hbl2 := bt hbl2 hb3
        go_wp2_with fail
        refine (put_o _ _ _).mono ?_
        rintro e wd ⟨rfl, hb4⟩
        replace hbl2 := bt hbl2 hb4
        go_wp2
        go_roundw
        case rel => exact ⟨5, by omega, by go_num, by rw [HT.out (by simpa using hh)], hbl2⟩
        case measure => simp [intOf]
      · go_wp2_with fail
        refine (has_5 _ _ _ _ _ _ _ x rs.length cap _).mono ?_
        rw [hh]
        rintro e wa ⟨rfl, hb⟩
        go_wp2
        go_roundw
        case rel => exact ⟨5, by omega, by go_num, by rw [HF.out (by simpa using hh)], bt hbl hb⟩
        case measure => simp [intOf]
    · have hz := bareS_size m c t ec sd ok sp rs
      generalize bareS m c t ec sd ok sp rs 5 = S at *
      have hsub : ((longN m sd ok sp rs.length : Nat) : Int) - (S.size : Int) = ((longN m sd ok sp rs.length - lenK m sd ok sp rs.length 5 : Nat) : Int) := by rw [hz]; omega
      have hj : longN m sd ok sp rs.length - lenK m sd ok sp rs.length 5 ≤ 3 := by omega
      have hLL : ((longN m sd ok sp rs.length : Nat) : Int) ≤ 40 := by omega
      have hSS : (S.size : Int) ≤ 40 := by omega
      have HSUB : Hid (((longN m sd ok sp rs.length : Nat) : Int) - (S.size : Int) = ((longN m sd ok sp rs.length - lenK m sd ok sp rs.length 5 : Nat) : Int)) := hsub
      have HLO : Hid (∀ W, Ord W → Calls Tryz.prog 74 #[.agg (#[.int .i64 m, .int .i64 c, .int .i64 t, .int .i64 ec, .bool sd, .bool ok, .bool sp, .slice x rs.length cap])] W fun e w' => e = .returned (.int .i64 (longN m sd ok sp rs.length)) ∧ Below W.heap.size W w') := fun W h => long_any m c t ec sd ok sp x rs.length cap W (by omega) h
      clear hz hsub
      generalize longN m sd ok sp rs.length - lenK m sd ok sp rs.length 5 = J at *
      generalize longN m sd ok sp rs.length = L at *
      have hR : (⟨(Lib.repeatL (⟨#[0]⟩ : ByteArray).data.toList J).toArray⟩ : ByteArray).size ≤ 3 := by
        show (Lib.repeatL [0] J).length ≤ 3
        rw [Lib.repeatL_length]; simp; omega
      have HREP : Hid (∀ W, Calls Tryz.prog 73 #[.string ⟨#[0]⟩, .int .i64 J] W fun e w' => e = .returned (.string ⟨(Lib.repeatL (⟨#[0]⟩ : ByteArray).data.toList J).toArray⟩) ∧ Below W.heap.size W w') := fun W => Tryz.strings_Repeat ⟨#[0]⟩ J W (by omega) (by show 1 * J ≤ _; omega)
      generalize (⟨(Lib.repeatL (⟨#[0]⟩ : ByteArray).data.toList J).toArray⟩ : ByteArray) = R at *
      have r1 : ∀ W, (Op.stringOp .add S R).run Tryz.prog W = .ok (.string (S ++ R)) W := fun W => run_string_add_sum W _ _ (by omega)
      clear hR
      go_wp2_with fail
      refine (HLO.out _ (HG.out.later hbl)).mono ?_
      rintro e wa ⟨rfl, hb⟩
      replace hbl := bt hbl hb
      go_wp2_with fail
      rw [HSUB.out]
      refine (HREP.out _).mono ?_
      rintro e wb ⟨rfl, hb2⟩
      replace hbl := bt hbl hb2
      go_wp2
      go_ret2
      exact ⟨by rw [HEE.out]; rfl, bt HL.out hbl⟩
end Go.Proofs.YtkpdmgoldngdaabGreatDoor

namespace Go.Proofs.YtkpdmgoldngdaabGreatDoor
open Go.RowKit
set_option maxRecDepth 100000

theorem yield_at {ops : Array Oper} {tmps : Array Value} {j d : Nat} {b : Bool} (hd : (ops[j]?).bind (·.dst) = some d) (h : tmps.getD d undef = .bool b) : yielded ops tmps j = some b := by
  unfold yielded
  rw [hd]
  rw [Array.getD_eq_getD_getElem?] at h
  cases hq : tmps[d]? with
  | none => rw [hq] at h; cases h
  | some v => rw [hq] at h; simp at h; subst h; simp [hq]
theorem want_t {o : Oper} {ops : Array Oper} {tmps : Array Value} {j d : Nat} {b : Bool} (hg : o.guard = some (j, b)) (hd : (ops[j]?).bind (·.dst) = some d) (h : tmps.getD d undef = .bool b) : Region.wanted o (yielded ops tmps) = true := by
  unfold Region.wanted; rw [hg]; simp [yield_at hd h]
theorem want_f {o : Oper} {ops : Array Oper} {tmps : Array Value} {j d : Nat} {b b' : Bool} (hg : o.guard = some (j, b)) (hd : (ops[j]?).bind (·.dst) = some d) (h : tmps.getD d undef = .bool b') (hne : b' ≠ b) : Region.wanted o (yielded ops tmps) = false := by
  unfold Region.wanted; rw [hg]; simp [yield_at hd h, hne]
theorem eq57 (a b c d a' b' c' d' : Int) (w : World) : (Op.equalIn 10000 91 (.agg #[.int .i64 a, .int .i64 b, .int .i64 c, .int .i64 d]) (.agg #[.int .i64 a', .int .i64 b', .int .i64 c', .int .i64 d'])).run Tryz.prog w = .ok (decide (a = a' ∧ b = b' ∧ c = c' ∧ d = d')) w := by
  have u3 := Tryz.underlying3
  have a3 := Tryz.isAgg3
  have z3 := Tryz.sizeOf3
  rw [show (10000 : Nat) = 9999 + 1 from rfl, Op.equalIn]
  simp only [Sem.run_bind, run_underlying Tryz.underlying91, Result.andThen_ok]
  simp only [Std.Legacy.Range.forIn_eq_forIn_range', Std.Legacy.Range.size, Nat.sub_zero, Nat.add_sub_cancel, Nat.div_one, List.range'_succ, List.range'_zero, List.forIn_cons, List.forIn_nil]
  go_simp
  by_cases h1 : a = a' <;> by_cases h2 : b = b' <;> by_cases h3 : c = c' <;> by_cases h4 : d = d' <;> simp [h1, h2, h3, h4]
theorem eq59 (a b c a' b' c' : Bool) (w : World) : (Op.equalIn 10000 93 (.agg #[.bool a, .bool b, .bool c]) (.agg #[.bool a', .bool b', .bool c'])).run Tryz.prog w = .ok (decide (a = a' ∧ b = b' ∧ c = c')) w := by
  have u3 := Tryz.underlying4
  have a3 := Tryz.isAgg4
  have z3 := Tryz.sizeOf4
  rw [show (10000 : Nat) = 9999 + 1 from rfl, Op.equalIn]
  simp only [Sem.run_bind, run_underlying Tryz.underlying93, Result.andThen_ok]
  simp only [Std.Legacy.Range.forIn_eq_forIn_range', Std.Legacy.Range.size, Nat.sub_zero, Nat.add_sub_cancel, Nat.div_one, List.range'_succ, List.range'_zero, List.forIn_cons, List.forIn_nil]
  go_simp
  cases a <;> cases b <;> cases c <;> cases a' <;> cases b' <;> cases c' <;> simp
def sameN (m c t ec m' c' t' ec' : Int) : Bool := decide (m = m' ∧ c = c' ∧ t = t' ∧ ec = ec')
def sameM (sd ok sp sd' ok' sp' : Bool) : Bool := decide (sd = sd' ∧ ok = ok' ∧ sp = sp')
def sameO (m c t ec : Int) (sd ok sp : Bool) (rs : List (Int × Int)) (m' c' t' ec' : Int) (sd' ok' sp' : Bool) (rs' : List (Int × Int)) : Bool := sameN m c t ec m' c' t' ec' && sameM sd ok sp sd' ok' sp' && decide (rs = rs')
theorem numbers_any (m c t ec : Int) (sd ok sp : Bool) (v : Value) (w : World) : Calls Tryz.prog 51 #[.agg #[.int .i64 m, .int .i64 c, .int .i64 t, .int .i64 ec, .bool sd, .bool ok, .bool sp, v]] w fun e w' => e = .returned (.agg #[.int .i64 m, .int .i64 c, .int .i64 t, .int .i64 ec]) ∧ Below w.heap.size w w' := by
  obtain ⟨⟨c0, c1, c2, c3, c4, c5, c6, c7⟩, -, -⟩ := (At.box w #[.int .i64 m, .int .i64 c, .int .i64 t, .int .i64 ec, .bool sd, .bool ok, .bool sp, v] 33).eight
  go_enter Tryz.func51, Tryz.ntmps51
  go_wp2
  exact bodyPost_ret (v := .agg #[.int .i64 m, .int .i64 c, .int .i64 t, .int .i64 ec]) (by simp [results, Tryz.results51, go_sem]) rfl ⟨rfl, bt (bel1 _ _) (bel1 _ _)⟩
theorem marks_any (m c t ec : Int) (sd ok sp : Bool) (v : Value) (w : World) : Calls Tryz.prog 52 #[.agg #[.int .i64 m, .int .i64 c, .int .i64 t, .int .i64 ec, .bool sd, .bool ok, .bool sp, v]] w fun e w' => e = .returned (.agg #[.bool sd, .bool ok, .bool sp]) ∧ Below w.heap.size w w' := by
  obtain ⟨⟨c0, c1, c2, c3, c4, c5, c6, c7⟩, -, -⟩ := (At.box w #[.int .i64 m, .int .i64 c, .int .i64 t, .int .i64 ec, .bool sd, .bool ok, .bool sp, v] 33).eight
  go_enter Tryz.func52, Tryz.ntmps52
  go_wp2
  exact bodyPost_ret (v := .agg #[.bool sd, .bool ok, .bool sp]) (by simp [results, Tryz.results52, go_sem]) rfl ⟨rfl, bt (bel1 _ _) (bel1 _ _)⟩

theorem take_same (rs rs' : List (Int × Int)) (k : Nat) (r : Int × Int) (h : rs[k]? = some r) (h' : rs'[k]? = some r) (ht : rs.take k = rs'.take k) : rs.take (k + 1) = rs'.take (k + 1) := by
  obtain ⟨hk, e⟩ := List.getElem?_eq_some_iff.1 h
  obtain ⟨hk', e'⟩ := List.getElem?_eq_some_iff.1 h'
  rw [List.take_succ_eq_append_getElem hk, List.take_succ_eq_append_getElem hk', ht, e, e']
theorem take_other (rs rs' : List (Int × Int)) (k : Nat) (r r' : Int × Int) (h : rs[k]? = some r) (h' : rs'[k]? = some r') (hne : r ≠ r') : decide (rs = rs') = false := by
  apply decide_eq_false
  intro e
  subst e
  exact hne (Option.some.inj (h.symm.trans h'))
set_option maxRecDepth 100000 in
set_option maxHeartbeats 2000000 in
theorem equal_any (v v' : Value) (rs rs' : List (Int × Int)) (w : World) (hv : Rgs w v rs) (hv' : Rgs w v' rs') (hn : rs.length ≤ 17592186044416) (hn' : rs'.length ≤ 17592186044416) :
    Calls Tryz.prog 53 #[v, v'] w fun e w' => e = .returned (.bool (decide (rs = rs'))) ∧ Below w.heap.size w w' := by
  obtain ⟨a, cap, rfl, hc, h⟩ := hv
  obtain ⟨a', cap', rfl, hc', h'⟩ := hv'
  have hni : (rs.length : Int) ≤ 17592186044416 := by omega
  have hni' : (rs'.length : Int) ≤ 17592186044416 := by omega
  by_cases hlen : rs.length = rs'.length
  · have HX : Hid (rs = [] ∨ ∃ b off, a = some ⟨b, off, none⟩ ∧ ∀ j r, rs[j]? = some r → w.cell? ⟨b, off + j * 2, none⟩ = some (.int .i64 r.1) ∧ w.cell? ⟨b, off + j * 2 + 1, none⟩ = some (.int .i64 r.2)) := h
    have HY : Hid (rs' = [] ∨ ∃ b off, a' = some ⟨b, off, none⟩ ∧ ∀ j r, rs'[j]? = some r → w.cell? ⟨b, off + j * 2, none⟩ = some (.int .i64 r.1) ∧ w.cell? ⟨b, off + j * 2 + 1, none⟩ = some (.int .i64 r.2)) := h'
    clear h h'
    have hleni : ((rs.length : Int) != (rs'.length : Int)) = false := by simp; omega
    have hleq : (rs.length : Int) = (rs'.length : Int) := by omega
    have HLEN : Hid (rs.length = rs'.length) := hlen
    go_enter Tryz.func53, Tryz.ntmps53
    clear hlen hleq
    go_wp2
    have hlen := HLEN.out
    go_loopw [13] (fun i W => ∃ k : Nat, k ≤ rs.length ∧ i = .int .i64 k ∧ rs.take k = rs'.take k ∧ Below w.heap.size w W) (fun i _ => rs.length - (intOf i).toNat)
    case atStart => exact ⟨0, Nat.zero_le _, rfl, by simp, Below.refl _ _⟩
    case round =>
      obtain ⟨k, hk, rfl, heq, hbl⟩ := hrel
      by_cases hlt : k < rs.length
      · obtain ⟨r, hr⟩ : ∃ r, rs[k]? = some r := ⟨rs[k], List.getElem?_eq_getElem hlt⟩
        obtain ⟨r', hr'⟩ : ∃ r', rs'[k]? = some r' := ⟨rs'[k]'(by omega), List.getElem?_eq_getElem (by omega)⟩
        have HE : Hid (rs.take k = rs'.take k) := heq
        have HR : Hid (rs[k]? = some r) := hr
        have HR' : Hid (rs'[k]? = some r') := hr'
        obtain ⟨b, off, rfl, x1, x2⟩ : ∃ b off, a = some ⟨b, off, none⟩ ∧ w.cell? ⟨b, off + k * 2, none⟩ = some (.int .i64 r.1) ∧ w.cell? ⟨b, off + k * 2 + 1, none⟩ = some (.int .i64 r.2) := by
          rcases HX.out with h | ⟨b, off, h, hx⟩
          · rw [h] at hr; simp at hr
          · exact ⟨b, off, h, hx k r hr⟩
        obtain ⟨b', off', rfl, y1, y2⟩ : ∃ b off, a' = some ⟨b, off, none⟩ ∧ w.cell? ⟨b, off + k * 2, none⟩ = some (.int .i64 r'.1) ∧ w.cell? ⟨b, off + k * 2 + 1, none⟩ = some (.int .i64 r'.2) := by
          rcases HY.out with h | ⟨b, off, h, hx⟩
          · rw [h] at hr'; simp at hr'
          · exact ⟨b, off, h, hx k r' hr'⟩
        replace x1 := later hbl x1
        replace x2 := later hbl x2
        replace y1 := later hbl y1
        replace y2 := later hbl y2
        clear HX HY hr hr' heq
        have l0 : (0 : Int) ≤ (k : Int) := by omega
        have l1 : (k : Int) < (rs.length : Int) := by omega
        have l2 : (k : Int) < (rs'.length : Int) := by omega
        obtain ⟨X, Y⟩ := r
        obtain ⟨X', Y'⟩ := r'
        simp only at x1 x2 y1 y2
        by_cases h1 : X = X'
        · subst h1
          by_cases h2 : Y = Y'
          · subst h2
            go_wp2
            go_quiet (fail)
            have hbl2 := below_drewN hbl nq
            go_wp2
            go_roundw
            case rel => exact ⟨k + 1, by omega, by go_num, take_same rs rs' k _ HR.out HR'.out HE.out, hbl2⟩
            case measure => simp [intOf]; omega
          · have HD : Hid (decide (rs = rs') = false) := take_other rs rs' k _ _ HR.out HR'.out (by intro e; cases e; exact h2 rfl)
            go_wp2
            go_quiet (fail)
            have hbl2 := below_drewN hbl nq
            go_wp2
            go_ret
            exact ⟨by rw [HD.out]; rfl, hbl2⟩
        · have HD : Hid (decide (rs = rs') = false) := take_other rs rs' k _ _ HR.out HR'.out (by intro e; cases e; exact h1 rfl)
          go_wp2
          go_quiet (fail)
          have hbl2 := below_drewN hbl nq
          go_wp2
          go_ret
          exact ⟨by rw [HD.out]; rfl, hbl2⟩
      · have hk' : k = rs.length := by omega
        subst hk'
        have HE : Hid (decide (rs = rs') = true) := decide_eq_true (by rw [List.take_length, List.take_of_length_le (by omega)] at heq; exact heq)
        clear heq
        go_wp2
        go_ret
        exact ⟨by rw [HE.out]; rfl, hbl⟩
  · have hleni : ((rs.length : Int) != (rs'.length : Int)) = true := by simp; omega
    have HD : Hid (decide (rs = rs') = false) := decide_eq_false (by intro e; rw [e] at hlen; exact hlen rfl)
    clear h h' hlen
    go_enter Tryz.func53, Tryz.ntmps53
    go_wp2
    go_ret
    exact ⟨by rw [HD.out]; rfl, Below.refl _ _⟩
end Go.Proofs.YtkpdmgoldngdaabGreatDoor

namespace Go.Proofs.YtkpdmgoldngdaabGreatDoor
open Go.RowKit
set_option maxRecDepth 100000

theorem At.below {W x : World} {b B : Nat} {vs : Array Value} (h : At W b vs) (hb : Below B W x) (hlt : b < B) : At x b vs :=
  ⟨Nat.lt_of_lt_of_le h.1 hb.size, fun i v hi => ⟨(hb.cell (p := ⟨b, i, none⟩) hlt).trans (h.2 i v hi).1, (hb.frozen (p := ⟨b, i, none⟩) hlt).trans (h.2 i v hi).2⟩⟩
theorem own_set8 {w : World} {base : Nat} {e : TypeId} {size n : Nat} {v : Value} {xs : List Value} (h : w.ownsRow base e size v n xs) (b : Nat) (hb : b < base) (u0 u1 u2 u3 u4 u5 u6 u7 : Value) : ((((((((w.setCell ⟨b, 0, none⟩ u0).setCell ⟨b, 1, none⟩ u1).setCell ⟨b, 2, none⟩ u2).setCell ⟨b, 3, none⟩ u3).setCell ⟨b, 4, none⟩ u4).setCell ⟨b, 5, none⟩ u5).setCell ⟨b, 6, none⟩ u6).setCell ⟨b, 7, none⟩ u7).ownsRow base e size v n xs :=
  own_setCell (own_setCell (own_setCell (own_setCell (own_setCell (own_setCell (own_setCell (own_setCell h b 0 _ hb) b 1 _ hb) b 2 _ hb) b 3 _ hb) b 4 _ hb) b 5 _ hb) b 6 _ hb) b 7 _ hb
theorem Tryz.info97 : (Tryz.prog.info? 97).map (fun i => (i.zero, i.size, i.bytes)) = some (some (.agg #[.int .i64 0, .int .i64 0]), 2, 16) := by kernel_rfl
end Go.Proofs.YtkpdmgoldngdaabGreatDoor

namespace Go.Proofs.YtkpdmgoldngdaabGreatDoor
open Go.RowKit
set_option maxRecDepth 100000

structure Op where
  m : Int
  c : Int
  t : Int
  ec : Int
  sd : Bool
  ok : Bool
  sp : Bool
  rs : List (Int × Int)
def Op.zero : Op := ⟨0, 0, 0, 0, false, false, false, []⟩
def pairsL (b : List UInt8) : List (Int × Int) := (List.range (b.length / 8)).map fun i => (numL ((b.drop (i * 8)).take 4), numL ((b.drop (i * 8 + 4)).take 4))
def followsB (o : Op) (kind : Int) (n : Nat) : Bool :=
  if kind = 5 then decide (n ≠ 0 ∧ n % 8 = 0) && decide (o.rs.length = 0)
  else if kind = 2 then decide (n = 2) && !(o.m != 0)
  else if kind = 3 then decide (n = 1) && !o.sd
  else if kind = 4 then decide (n = 0) && !o.ok
  else if kind = 8 then decide (n = 8) && !o.sp
  else true
def takeO (o : Op) (kind : Int) (b : List UInt8) : Op :=
  if kind = 5 then { o with rs := pairsL b }
  else if kind = 2 then { o with m := numL b }
  else if kind = 3 then { o with sd := true, c := numL b }
  else if kind = 4 then { o with ok := true }
  else if kind = 8 then { o with sp := true, t := numL (b.take 4), ec := numL (b.drop 4) }
  else o
def saysB (kind : Int) (b : List UInt8) : Bool := !(decide (kind = 2) && decide (numL b = 0))
def stepO (o : Op) (kind : Int) (b : List UInt8) : Option Op := if (followsB o kind b.length && saysB kind b) = true then some (takeO o kind b) else none
def runO : Nat → List UInt8 → Op → Option Op
  | 0, _, o => some o
  | _ + 1, [], o => some o
  | f + 1, k :: l, o =>
    if k = 0 then some o else if k = 1 then runO f l o else
      match l with
      | [] => none
      | n :: l' => if n.toNat < 2 ∨ l'.length + 2 < n.toNat then none else match stepO o (k.toNat : Int) (l'.take (n.toNat - 2)) with
        | none => none
        | some o' => runO f (l'.drop (n.toNat - 2)) o'
def Op.may (o : Op) : Bool := mayO o.m o.c o.t o.ec o.sd o.ok o.sp o.rs
def decO (l : List UInt8) : Option Op := if 40 < l.length then none else match runO 41 l Op.zero with
  | none => none
  | some o => if o.may = true then some o else none
theorem runO_fuel : ∀ (f : Nat) (l : List UInt8) (o : Op) (g : Nat), l.length < f → l.length < g → runO f l o = runO g l o
  | 0, l, _, _, h, _ => absurd h (Nat.not_lt_zero _)
  | f + 1, [], o, g, _, h => by
    cases g with
    | zero => exact absurd h (Nat.not_lt_zero _)
    | succ g => rfl
  | f + 1, k :: l, o, g, h1, h2 => by
    cases g with
    | zero => exact absurd h2 (Nat.not_lt_zero _)
    | succ g =>
      simp only [List.length_cons] at h1 h2
      simp only [runO]
      by_cases e0 : k = 0
      · rw [if_pos e0, if_pos e0]
      · rw [if_neg e0, if_neg e0]
        by_cases e1 : k = 1
        · rw [if_pos e1, if_pos e1]; exact runO_fuel f l o g (by omega) (by omega)
        · rw [if_neg e1, if_neg e1]
          cases l with
          | nil => rfl
          | cons n l' =>
            simp only [List.length_cons] at h1 h2
            simp only
            by_cases e2 : n.toNat < 2 ∨ l'.length + 2 < n.toNat
            · rw [if_pos e2, if_pos e2]
            · rw [if_neg e2, if_neg e2]
              cases stepO o (k.toNat : Int) (l'.take (n.toNat - 2)) with
              | none => rfl
              | some o' => exact runO_fuel f _ o' g (by rw [List.length_drop]; omega) (by rw [List.length_drop]; omega)

theorem get_o (s : ByteArray) (off k : Int) (w : World) (hs : s.size ≤ maxLen) : Calls Tryz.prog 122 #[.string s, .int .i64 off, .int .i64 k] w fun e w' => e = .returned (.int .i64 (getV s off k)) ∧ Below w.heap.size w w' := by
  go_enter Tryz.func122, Tryz.ntmps122
  go_wp2_with fail
  refine (get_any _ _ _ _ hs).mono ?_
  rintro e w' ⟨rfl, hb⟩
  go_wp2
  go_ret
  exact ⟨rfl, hb⟩
theorem getV_t (s : ByteArray) (off k : Nat) (k1 : 1 ≤ k) (k6 : k ≤ 6) (h : off + k ≤ s.size) : getV s off k = numL ((s.data.toList.drop off).take k) := by
  unfold getV getB
  rw [if_pos (decide_eq_true ⟨by omega, by omega, by omega, by omega⟩)]
  unfold numS
  congr 1
  rw [show ((off : Int)).toNat = off by omega, show ((off : Int) + (k : Int)).toNat = off + k by omega]
  rw [ByteArray.data_extract, Array.toList_extract, List.extract_eq_take_drop]
  congr 1
  omega
def firstB (s : ByteArray) : Bool := decide (2 ≤ s.size ∧ 2 ≤ (s.data.toList.getD 1 0).toNat ∧ (s.data.toList.getD 1 0).toNat ≤ s.size)
def firstN (s : ByteArray) : Nat := (s.data.toList.getD 1 0).toNat
theorem byte1 (s : ByteArray) (h : 1 < s.size) : (s[1].toNat : Int) = (firstN s : Int) := by
  unfold firstN
  have h' : 1 < s.data.toList.length := by simpa using h
  rw [List.getD_eq_getElem?_getD, List.getElem?_eq_getElem h']
  rfl
theorem first_t (s : ByteArray) (w : World) (hs : s.size ≤ 40) (h : firstB s = true) : Calls Tryz.prog 104 #[.string s] w fun e w' => e = .returned (.tuple #[.string (s.extract 2 (firstN s)), .bool true]) ∧ w' = w := by
  unfold firstB at h
  obtain ⟨h1, h2, h3⟩ := of_decide_eq_true h
  have hb := byte1 s (by omega)
  have h2' : 2 ≤ firstN s := h2
  have h3' : firstN s ≤ s.size := h3
  have g1 : (2 : Int) ≤ (s.size : Int) := by omega
  have g2 : (s.size : Int) ≤ 40 := by omega
  have g3 : (2 : Int) ≤ (firstN s : Int) := by omega
  have g4 : (firstN s : Int) ≤ (s.size : Int) := by omega
  have g5 : (1 : Int) < (s.size : Int) := by omega
  generalize firstN s = n at *
  clear h h2 h3 h2' h3'
  go_enter Tryz.func104, Tryz.ntmps104
  go_wp2
  go_ret2
  exact ⟨rfl, rfl⟩
theorem first_f (s : ByteArray) (w : World) (hs : s.size ≤ 40) (h : firstB s = false) : Calls Tryz.prog 104 #[.string s] w fun e w' => e = .returned (.tuple #[.string ⟨#[]⟩, .bool false]) ∧ w' = w := by
  unfold firstB at h
  have h := of_decide_eq_false h
  have g2 : (s.size : Int) ≤ 40 := by omega
  by_cases h1 : 2 ≤ s.size
  · have hb := byte1 s (by omega)
    have g1 : (2 : Int) ≤ (s.size : Int) := by omega
    have g5 : (1 : Int) < (s.size : Int) := by omega
    have g6 : firstN s < 2 ∨ s.size < firstN s := by
      unfold firstN
      omega
    have g9 : (firstN s : Int) ≤ 255 := by unfold firstN; have := (s.data.toList.getD 1 0).toNat_lt; omega
    generalize firstN s = n at *
    clear h
    rcases g6 with g6 | g6
    · have g7 : (n : Int) < 2 := by omega
      go_enter Tryz.func104, Tryz.ntmps104
      go_wp2
      go_ret2
      exact ⟨rfl, rfl⟩
    · have g7 : (s.size : Int) < (n : Int) := by omega
      by_cases g8 : (n : Int) < 2
      · exfalso; omega
      · go_enter Tryz.func104, Tryz.ntmps104
        go_wp2
        go_ret2
        exact ⟨rfl, rfl⟩
  · have g1 : (s.size : Int) < 2 := by omega
    go_enter Tryz.func104, Tryz.ntmps104
    go_wp2
    go_ret2
    exact ⟨rfl, rfl⟩
theorem follows_2 (m c t ec : Int) (sd ok sp : Bool) (a : Option Addr) (cap : Nat) (rs : List (Int × Int)) (n : Nat) (w : World) (hn : n ≤ 40) :
    Calls Tryz.prog 105 #[.agg #[.int .i64 m, .int .i64 c, .int .i64 t, .int .i64 ec, .bool sd, .bool ok, .bool sp, (.slice a rs.length cap)], .int .i64 2, .int .i64 n] w fun e w' => e = .returned (.bool (decide (n = 2) && !(m != 0))) ∧ Below w.heap.size w w' := by
  have hA := At.box w #[.int .i64 m, .int .i64 c, .int .i64 t, .int .i64 ec, .bool sd, .bool ok, .bool sp, (.slice a rs.length cap)] 33
  have hl := bel1 w (.cells #[.int .i64 m, .int .i64 c, .int .i64 t, .int .i64 ec, .bool sd, .bool ok, .bool sp, (.slice a rs.length cap)] 33)
  obtain ⟨⟨c0, c1, c2, c3, c4, c5, c6, c7⟩, -, -⟩ := hA.eight
  have hn' : (n : Int) ≤ 40 := by omega
  by_cases h : n = 2
  · subst h
    rcases Bool.eq_false_or_eq_true (m != 0) with hh | hh
    all_goals
      have hq := fun W => has_2 m c t ec sd ok sp a rs.length cap W
      rw [hh] at hq
      rw [hh]
      have HQ : Hid (∀ W, Calls Tryz.prog 70 #[.agg #[.int .i64 m, .int .i64 c, .int .i64 t, .int .i64 ec, .bool sd, .bool ok, .bool sp, (.slice a rs.length cap)], .int .i64 2] W fun e w' => e = .returned (.bool _) ∧ Below W.heap.size W w') := hq
      clear hh hq
      go_enter Tryz.func105, Tryz.ntmps105
      go_wp2_with fail
      refine (fixed_2 _).mono ?_
      rintro e w1 ⟨rfl, rfl⟩
      go_wp2_with fail
      refine (HQ.out _).mono ?_
      rintro e w2 ⟨rfl, hb⟩
      go_wp2
      go_ret
      exact ⟨rfl, bt hl hb⟩
  · have hne : ¬ (n : Int) = 2 := by omega
    rw [decide_eq_false h, Bool.false_and]
    clear h
    go_enter Tryz.func105, Tryz.ntmps105
    go_wp2_with fail
    refine (fixed_2 _).mono ?_
    rintro e w1 ⟨rfl, rfl⟩
    go_wp2
    go_ret
    exact ⟨rfl, hl⟩
theorem follows_3 (m c t ec : Int) (sd ok sp : Bool) (a : Option Addr) (cap : Nat) (rs : List (Int × Int)) (n : Nat) (w : World) (hn : n ≤ 40) :
    Calls Tryz.prog 105 #[.agg #[.int .i64 m, .int .i64 c, .int .i64 t, .int .i64 ec, .bool sd, .bool ok, .bool sp, (.slice a rs.length cap)], .int .i64 3, .int .i64 n] w fun e w' => e = .returned (.bool (decide (n = 1) && !(sd))) ∧ Below w.heap.size w w' := by
  have hA := At.box w #[.int .i64 m, .int .i64 c, .int .i64 t, .int .i64 ec, .bool sd, .bool ok, .bool sp, (.slice a rs.length cap)] 33
  have hl := bel1 w (.cells #[.int .i64 m, .int .i64 c, .int .i64 t, .int .i64 ec, .bool sd, .bool ok, .bool sp, (.slice a rs.length cap)] 33)
  obtain ⟨⟨c0, c1, c2, c3, c4, c5, c6, c7⟩, -, -⟩ := hA.eight
  have hn' : (n : Int) ≤ 40 := by omega
  by_cases h : n = 1
  · subst h
    cases sd
    all_goals
      go_enter Tryz.func105, Tryz.ntmps105
      go_wp2_with fail
      refine (fixed_3 _).mono ?_
      rintro e w1 ⟨rfl, rfl⟩
      go_wp2_with fail
      refine (has_3 _ _ _ _ _ _ _ _ _ _ _).mono ?_
      rintro e w2 ⟨rfl, hb⟩
      go_wp2
      go_ret
      exact ⟨rfl, bt hl hb⟩
  · have hne : ¬ (n : Int) = 1 := by omega
    rw [decide_eq_false h, Bool.false_and]
    clear h
    go_enter Tryz.func105, Tryz.ntmps105
    go_wp2_with fail
    refine (fixed_3 _).mono ?_
    rintro e w1 ⟨rfl, rfl⟩
    go_wp2
    go_ret
    exact ⟨rfl, hl⟩
theorem follows_4 (m c t ec : Int) (sd ok sp : Bool) (a : Option Addr) (cap : Nat) (rs : List (Int × Int)) (n : Nat) (w : World) (hn : n ≤ 40) :
    Calls Tryz.prog 105 #[.agg #[.int .i64 m, .int .i64 c, .int .i64 t, .int .i64 ec, .bool sd, .bool ok, .bool sp, (.slice a rs.length cap)], .int .i64 4, .int .i64 n] w fun e w' => e = .returned (.bool (decide (n = 0) && !(ok))) ∧ Below w.heap.size w w' := by
  have hA := At.box w #[.int .i64 m, .int .i64 c, .int .i64 t, .int .i64 ec, .bool sd, .bool ok, .bool sp, (.slice a rs.length cap)] 33
  have hl := bel1 w (.cells #[.int .i64 m, .int .i64 c, .int .i64 t, .int .i64 ec, .bool sd, .bool ok, .bool sp, (.slice a rs.length cap)] 33)
  obtain ⟨⟨c0, c1, c2, c3, c4, c5, c6, c7⟩, -, -⟩ := hA.eight
  have hn' : (n : Int) ≤ 40 := by omega
  by_cases h : n = 0
  · subst h
    cases ok
    all_goals
      go_enter Tryz.func105, Tryz.ntmps105
      go_wp2_with fail
      refine (fixed_4 _).mono ?_
      rintro e w1 ⟨rfl, rfl⟩
      go_wp2_with fail
      refine (has_4 _ _ _ _ _ _ _ _ _ _ _).mono ?_
      rintro e w2 ⟨rfl, hb⟩
      go_wp2
      go_ret
      exact ⟨rfl, bt hl hb⟩
  · have hne : ¬ (n : Int) = 0 := by omega
    rw [decide_eq_false h, Bool.false_and]
    clear h
    go_enter Tryz.func105, Tryz.ntmps105
    go_wp2_with fail
    refine (fixed_4 _).mono ?_
    rintro e w1 ⟨rfl, rfl⟩
    go_wp2
    go_ret
    exact ⟨rfl, hl⟩
theorem follows_8 (m c t ec : Int) (sd ok sp : Bool) (a : Option Addr) (cap : Nat) (rs : List (Int × Int)) (n : Nat) (w : World) (hn : n ≤ 40) :
    Calls Tryz.prog 105 #[.agg #[.int .i64 m, .int .i64 c, .int .i64 t, .int .i64 ec, .bool sd, .bool ok, .bool sp, (.slice a rs.length cap)], .int .i64 8, .int .i64 n] w fun e w' => e = .returned (.bool (decide (n = 8) && !(sp))) ∧ Below w.heap.size w w' := by
  have hA := At.box w #[.int .i64 m, .int .i64 c, .int .i64 t, .int .i64 ec, .bool sd, .bool ok, .bool sp, (.slice a rs.length cap)] 33
  have hl := bel1 w (.cells #[.int .i64 m, .int .i64 c, .int .i64 t, .int .i64 ec, .bool sd, .bool ok, .bool sp, (.slice a rs.length cap)] 33)
  obtain ⟨⟨c0, c1, c2, c3, c4, c5, c6, c7⟩, -, -⟩ := hA.eight
  have hn' : (n : Int) ≤ 40 := by omega
  by_cases h : n = 8
  · subst h
    cases sp
    all_goals
      go_enter Tryz.func105, Tryz.ntmps105
      go_wp2_with fail
      refine (fixed_8 _).mono ?_
      rintro e w1 ⟨rfl, rfl⟩
      go_wp2_with fail
      refine (has_8 _ _ _ _ _ _ _ _ _ _ _).mono ?_
      rintro e w2 ⟨rfl, hb⟩
      go_wp2
      go_ret
      exact ⟨rfl, bt hl hb⟩
  · have hne : ¬ (n : Int) = 8 := by omega
    rw [decide_eq_false h, Bool.false_and]
    clear h
    go_enter Tryz.func105, Tryz.ntmps105
    go_wp2_with fail
    refine (fixed_8 _).mono ?_
    rintro e w1 ⟨rfl, rfl⟩
    go_wp2
    go_ret
    exact ⟨rfl, hl⟩
theorem follows_5 (m c t ec : Int) (sd ok sp : Bool) (a : Option Addr) (cap : Nat) (rs : List (Int × Int)) (n : Nat) (w : World) (hn : n ≤ 40) :
    Calls Tryz.prog 105 #[.agg #[.int .i64 m, .int .i64 c, .int .i64 t, .int .i64 ec, .bool sd, .bool ok, .bool sp, (.slice a rs.length cap)], .int .i64 5, .int .i64 n] w fun e w' => e = .returned (.bool (decide (n ≠ 0 ∧ n % 8 = 0) && decide (rs.length = 0))) ∧ Below w.heap.size w w' := by
  have hA := At.box w #[.int .i64 m, .int .i64 c, .int .i64 t, .int .i64 ec, .bool sd, .bool ok, .bool sp, (.slice a rs.length cap)] 33
  have hl := bel1 w (.cells #[.int .i64 m, .int .i64 c, .int .i64 t, .int .i64 ec, .bool sd, .bool ok, .bool sp, (.slice a rs.length cap)] 33)
  obtain ⟨⟨c0, c1, c2, c3, c4, c5, c6, c7⟩, -, -⟩ := hA.eight
  have hn' : (n : Int) ≤ 40 := by omega
  by_cases h0 : n = 0
  · subst h0
    rw [decide_eq_false (by omega), Bool.false_and]
    go_enter Tryz.func105, Tryz.ntmps105
    go_wp2
    go_ret
    exact ⟨rfl, hl⟩
  · have hne : ¬ (n : Int) = 0 := by omega
    have hn0 : (0 : Int) ≤ (n : Int) := by omega
    by_cases h8 : n % 8 = 0
    · have h8' : (n : Int) % 8 = 0 := by omega
      rw [decide_eq_true ⟨h0, h8⟩, Bool.true_and]
      have hb : decide (rs.length = 0) = !(decide (0 < rs.length)) := by
        rw [← decide_not]; exact decide_eq_decide.2 (by omega)
      rw [hb]
      clear hb
      rcases Bool.eq_false_or_eq_true (decide (0 < rs.length)) with hh | hh
      all_goals
        have hq := fun W => has_5 m c t ec sd ok sp a rs.length cap W
        rw [hh] at hq
        rw [hh]
        have HQ : Hid (∀ W, Calls Tryz.prog 70 #[.agg #[.int .i64 m, .int .i64 c, .int .i64 t, .int .i64 ec, .bool sd, .bool ok, .bool sp, (.slice a rs.length cap)], .int .i64 5] W fun e w' => e = .returned (.bool _) ∧ Below W.heap.size W w') := hq
        clear hh hq h8 h0
        go_enter Tryz.func105, Tryz.ntmps105
        go_wp2_with fail
        refine (fixed_5 _).mono ?_
        rintro e w1 ⟨rfl, rfl⟩
        go_wp2_with fail
        refine (HQ.out _).mono ?_
        rintro e w2 ⟨rfl, hb⟩
        go_wp2
        go_ret
        exact ⟨rfl, bt hl hb⟩
    · have h8' : ¬ (n : Int) % 8 = 0 := by omega
      rw [decide_eq_false (by omega), Bool.false_and]
      clear h8 h0
      go_enter Tryz.func105, Tryz.ntmps105
      go_wp2_with fail
      refine (fixed_5 _).mono ?_
      rintro e w1 ⟨rfl, rfl⟩
      go_wp2
      go_ret
      exact ⟨rfl, hl⟩
theorem follows_any (o : Op) (a : Option Addr) (cap : Nat) (kind : Int) (n : Nat) (w : World) (hn : n ≤ 40) :
    Calls Tryz.prog 105 #[.agg #[.int .i64 o.m, .int .i64 o.c, .int .i64 o.t, .int .i64 o.ec, .bool o.sd, .bool o.ok, .bool o.sp, .slice a o.rs.length cap], .int .i64 kind, .int .i64 n] w fun e w' => e = .returned (.bool (followsB o kind n)) ∧ Below w.heap.size w w' := by
  obtain ⟨m, c, t, ec, sd, ok, sp, rs⟩ := o
  show Calls Tryz.prog 105 #[.agg #[.int .i64 m, .int .i64 c, .int .i64 t, .int .i64 ec, .bool sd, .bool ok, .bool sp, (.slice a rs.length cap)], .int .i64 kind, .int .i64 n] w _
  unfold followsB
  by_cases h5 : kind = 5
  · subst h5; rw [if_pos rfl]; exact follows_5 m c t ec sd ok sp a cap rs n w hn
  rw [if_neg h5]
  by_cases h2 : kind = 2
  · subst h2; rw [if_pos rfl]; exact follows_2 m c t ec sd ok sp a cap rs n w hn
  rw [if_neg h2]
  by_cases h3 : kind = 3
  · subst h3; rw [if_pos rfl]; exact follows_3 m c t ec sd ok sp a cap rs n w hn
  rw [if_neg h3]
  by_cases h4 : kind = 4
  · subst h4; rw [if_pos rfl]; exact follows_4 m c t ec sd ok sp a cap rs n w hn
  rw [if_neg h4]
  by_cases h8 : kind = 8
  · subst h8; rw [if_pos rfl]; exact follows_8 m c t ec sd ok sp a cap rs n w hn
  rw [if_neg h8]
  have hl := bel1 w (.cells #[.int .i64 m, .int .i64 c, .int .i64 t, .int .i64 ec, .bool sd, .bool ok, .bool sp, (.slice a rs.length cap)] 33)
  go_enter Tryz.func105, Tryz.ntmps105
  go_wp2
  go_ret
  exact ⟨rfl, hl⟩
end Go.Proofs.YtkpdmgoldngdaabGreatDoor
