/- the texts Oa, Ob, Oc, Od, Of, Oh, in part, merged by program -/
import Derived.Test.YthjbmloemmggaaaGreatDoorRows
import Derived.Laws.OwnMore
import Derived.Laws.AppendOwn
import Derived.Laws.AppendOwnNone
import Derived.WalkKit
import Derived.WalkSpells
import Derived.Deep.LoopGhost
import Derived.Lib.Repeat
import Derived.Deep.RegionHeld3
import Derived.Deep.QuietTactic
import Derived.BigQuiet
import Derived.WalkSmall
import Derived.Laws.StructEq
import Derived.RegionTactic
import Derived.Below
import Derived.Test.YthjbmloemmggaaaGreatDoorMA01
namespace Go.Proofs.YthjbmloemmggaaaGreatDoor
open Go.RowKit
set_option maxRecDepth 100000

theorem bel1 (w : World) (o : Obj) : Below w.heap.size w (w.alloc o) := (Below.refl _ _).alloc (Nat.le_refl _) o
theorem later {w x : World} {a : Addr} {v : Value} (hb : Below w.heap.size w x) (h : w.cell? a = some v) : x.cell? a = some v := (hb.cell (World.block_lt_of_cell? _ _ h)).trans h
def At (W : World) (b : Nat) (vs : Array Value) : Prop := b < W.heap.size ∧ ∀ i v, vs[i]? = some v → W.cell? ⟨b, i, none⟩ = some v ∧ W.frozen? ⟨b, i, none⟩ = false
theorem At.box (w : World) (vs : Array Value) (t : TypeId) : At (w.alloc (.cells vs t)) w.heap.size vs := by
  refine ⟨by simp, fun i v h => ⟨?_, ?_⟩⟩
  · simp [World.cell?_alloc_new, h]
  · rw [frozen?_alloc_cells]; simp [World.frozen?]
theorem At.later {W x : World} {b : Nat} {vs : Array Value} (h : At W b vs) (hb : Below W.heap.size W x) : At x b vs :=
  ⟨Nat.lt_of_lt_of_le h.1 hb.size, fun i v hi => ⟨YthjbmloemmggaaaGreatDoor.later hb (h.2 i v hi).1, (hb.frozen (p := ⟨b, i, none⟩) h.1).trans (h.2 i v hi).2⟩⟩
theorem At.box2 (w : World) (o : Obj) (vs : Array Value) (t : TypeId) : At ((w.alloc o).alloc (.cells vs t)) (w.heap.size + 1) vs := by have := At.box (w.alloc o) vs t; rwa [World.size_alloc] at this
theorem At.set {W : World} {b : Nat} {vs : Array Value} (h : At W b vs) (i : Nat) (u : Value) : At (W.setCell ⟨b, i, none⟩ u) b (vs.setIfInBounds i u) := by
  refine ⟨by rw [World.size_setCell]; exact h.1, fun j v hj => ?_⟩
  rw [World.frozen?_setCell]
  rw [Array.getElem?_setIfInBounds] at hj
  by_cases e : i = j
  · subst e
    rw [if_pos rfl] at hj
    by_cases l : i < vs.size
    · rw [if_pos l] at hj
      cases hj
      obtain ⟨c, f⟩ := h.2 i vs[i] (Array.getElem?_eq_getElem l)
      exact ⟨World.cell?_setCell_same _ _ _ c, f⟩
    · rw [if_neg l] at hj
      cases hj
  · rw [if_neg e] at hj
    obtain ⟨c, f⟩ := h.2 j v hj
    exact ⟨(World.cell?_setCell_other _ _ _ _ (by intro q; cases q; exact e rfl)).trans c, f⟩
theorem At.keep {W : World} {b c : Nat} {vs : Array Value} (h : At W c vs) (hne : b ≠ c) (i : Nat) (u : Value) : At (W.setCell ⟨b, i, none⟩ u) c vs := by
  refine ⟨by rw [World.size_setCell]; exact h.1, fun j v hj => ?_⟩
  rw [World.frozen?_setCell]
  obtain ⟨k, f⟩ := h.2 j v hj
  exact ⟨(World.cell?_setCell_other _ _ _ _ (by intro q; cases q; exact hne rfl)).trans k, f⟩
theorem At.eight {W : World} {b : Nat} {v0 v1 v2 v3 v4 v5 v6 v7 : Value} (h : At W b #[v0, v1, v2, v3, v4, v5, v6, v7]) : (W.cell? ⟨b, 0, none⟩ = some v0 ∧ W.cell? ⟨b, 1, none⟩ = some v1 ∧ W.cell? ⟨b, 2, none⟩ = some v2 ∧ W.cell? ⟨b, 3, none⟩ = some v3 ∧ W.cell? ⟨b, 4, none⟩ = some v4 ∧ W.cell? ⟨b, 5, none⟩ = some v5 ∧ W.cell? ⟨b, 6, none⟩ = some v6 ∧ W.cell? ⟨b, 7, none⟩ = some v7) ∧ (W.frozen? ⟨b, 0, none⟩ = false ∧ W.frozen? ⟨b, 1, none⟩ = false ∧ W.frozen? ⟨b, 2, none⟩ = false ∧ W.frozen? ⟨b, 3, none⟩ = false ∧ W.frozen? ⟨b, 4, none⟩ = false ∧ W.frozen? ⟨b, 5, none⟩ = false ∧ W.frozen? ⟨b, 6, none⟩ = false ∧ W.frozen? ⟨b, 7, none⟩ = false) ∧ b < W.heap.size :=
  ⟨⟨(h.2 0 _ rfl).1, (h.2 1 _ rfl).1, (h.2 2 _ rfl).1, (h.2 3 _ rfl).1, (h.2 4 _ rfl).1, (h.2 5 _ rfl).1, (h.2 6 _ rfl).1, (h.2 7 _ rfl).1⟩, ⟨(h.2 0 _ rfl).2, (h.2 1 _ rfl).2, (h.2 2 _ rfl).2, (h.2 3 _ rfl).2, (h.2 4 _ rfl).2, (h.2 5 _ rfl).2, (h.2 6 _ rfl).2, (h.2 7 _ rfl).2⟩, h.1⟩
theorem below8 {w W : World} {b : Nat} (h : Below w.heap.size w W) (hb : w.heap.size ≤ b) (v0 v1 v2 v3 v4 v5 v6 v7 : Value) : Below w.heap.size w ((((((((W.setCell ⟨b, 0, none⟩ v0).setCell ⟨b, 1, none⟩ v1).setCell ⟨b, 2, none⟩ v2).setCell ⟨b, 3, none⟩ v3).setCell ⟨b, 4, none⟩ v4).setCell ⟨b, 5, none⟩ v5).setCell ⟨b, 6, none⟩ v6).setCell ⟨b, 7, none⟩ v7) :=
  (((((((h.setCell hb _).setCell hb _).setCell hb _).setCell hb _).setCell hb _).setCell hb _).setCell hb _).setCell hb _
theorem At.set8 {W : World} {b : Nat} {v0 v1 v2 v3 v4 v5 v6 v7 : Value} (h : At W b #[v0, v1, v2, v3, v4, v5, v6, v7]) (u0 u1 u2 u3 u4 u5 u6 u7 : Value) : At ((((((((W.setCell ⟨b, 0, none⟩ u0).setCell ⟨b, 1, none⟩ u1).setCell ⟨b, 2, none⟩ u2).setCell ⟨b, 3, none⟩ u3).setCell ⟨b, 4, none⟩ u4).setCell ⟨b, 5, none⟩ u5).setCell ⟨b, 6, none⟩ u6).setCell ⟨b, 7, none⟩ u7) b #[u0, u1, u2, u3, u4, u5, u6, u7] := by
  have h0 : At _ b #[u0, v1, v2, v3, v4, v5, v6, v7] := h.set 0 u0
  have h1 : At _ b #[u0, u1, v2, v3, v4, v5, v6, v7] := h0.set 1 u1
  have h2 : At _ b #[u0, u1, u2, v3, v4, v5, v6, v7] := h1.set 2 u2
  have h3 : At _ b #[u0, u1, u2, u3, v4, v5, v6, v7] := h2.set 3 u3
  have h4 : At _ b #[u0, u1, u2, u3, u4, v5, v6, v7] := h3.set 4 u4
  have h5 : At _ b #[u0, u1, u2, u3, u4, u5, v6, v7] := h4.set 5 u5
  have h6 : At _ b #[u0, u1, u2, u3, u4, u5, u6, v7] := h5.set 6 u6
  have h7 : At _ b #[u0, u1, u2, u3, u4, u5, u6, u7] := h6.set 7 u7
  exact h7
theorem At.keep8 {W : World} {b c : Nat} {vs : Array Value} (h : At W c vs) (hne : b ≠ c) (u0 u1 u2 u3 u4 u5 u6 u7 : Value) : At ((((((((W.setCell ⟨b, 0, none⟩ u0).setCell ⟨b, 1, none⟩ u1).setCell ⟨b, 2, none⟩ u2).setCell ⟨b, 3, none⟩ u3).setCell ⟨b, 4, none⟩ u4).setCell ⟨b, 5, none⟩ u5).setCell ⟨b, 6, none⟩ u6).setCell ⟨b, 7, none⟩ u7) c vs :=
  (((((((h.keep hne 0 u0).keep hne 1 u1).keep hne 2 u2).keep hne 3 u3).keep hne 4 u4).keep hne 5 u5).keep hne 6 u6).keep hne 7 u7
theorem grownBy_setCell (w : World) (a : Addr) (v : Value) : w.grownBy (w.setCell a v) (some a.block) :=
  ⟨rfl, rfl, rfl, by simp [World.setCell], fun k _ hk => by
    have hne : a.block ≠ k := fun e => hk (by rw [e])
    simp only [World.setCell]
    simp [Array.getElem?_modify, hne]⟩
theorem own_setCell {w : World} {base : Nat} {e : TypeId} {size n : Nat} {v : Value} {xs : List Value} (h : w.ownsRow base e size v n xs) (b j : Nat) (u : Value) (hb : b < base) : (w.setCell ⟨b, j, none⟩ u).ownsRow base e size v n xs :=
  h.kept (grownBy_setCell w ⟨b, j, none⟩ u) (by
    cases hv : v.ownBlock with
    | none => exact .inl rfl
    | some k => exact .inr (fun e => by have := (h.lt k hv).1; simp at e; omega))
theorem own_mono {w : World} {base base' : Nat} {e : TypeId} {size n : Nat} {v : Value} {xs : List Value} (h : w.ownsRow base e size v n xs) (hb : base' ≤ base) : w.ownsRow base' e size v n xs := by
  refine ⟨h.1, ?_⟩
  rcases h.2 with h | ⟨g, cap, cur, hv, hg, rest⟩
  · exact .inl h
  · exact .inr ⟨g, cap, cur, hv, by omega, rest⟩
theorem own_later {w x : World} {base : Nat} {e : TypeId} {size n : Nat} {v : Value} {xs : List Value} (h : w.ownsRow base e size v n xs) (hb : Below w.heap.size w x) : x.ownsRow base e size v n xs := by
  refine ⟨h.1, ?_⟩
  rcases h.2 with h | ⟨g, cap, cur, hv, hg, hc, rest⟩
  · exact .inl h
  · refine .inr ⟨g, cap, cur, hv, hg, ?_, rest⟩
    rw [hb.block g (Array.getElem?_eq_some_iff.1 hc).1]
    exact hc

def Ord (w : World) : Prop := w.cell? ⟨0, 0, none⟩ = some (.int .i64 2) ∧ w.cell? ⟨0, 1, none⟩ = some (.int .i64 3) ∧ w.cell? ⟨0, 2, none⟩ = some (.int .i64 4) ∧ w.cell? ⟨0, 3, none⟩ = some (.int .i64 8) ∧ w.cell? ⟨0, 4, none⟩ = some (.int .i64 5)
theorem Ord.later {w x : World} (h : Ord w) (hb : Below w.heap.size w x) : Ord x :=
  ⟨YthjbmloemmggaaaGreatDoor.later hb h.1, YthjbmloemmggaaaGreatDoor.later hb h.2.1, YthjbmloemmggaaaGreatDoor.later hb h.2.2.1, YthjbmloemmggaaaGreatDoor.later hb h.2.2.2.1, YthjbmloemmggaaaGreatDoor.later hb h.2.2.2.2⟩

def Rgs (W : World) (v : Value) (rs : List (Int × Int)) : Prop :=
  ∃ (a : Option Addr) (cap : Nat), v = .slice a rs.length cap ∧ (rs.length ≤ cap ∧ (a = none → cap = 0)) ∧ (rs = [] ∨ ∃ b off, a = some ⟨b, off, none⟩ ∧ ∀ j r, rs[j]? = some r → W.cell? ⟨b, off + j * 2, none⟩ = some (.int .i64 r.1) ∧ W.cell? ⟨b, off + j * 2 + 1, none⟩ = some (.int .i64 r.2))
theorem Rgs.later {w x : World} {v : Value} {rs : List (Int × Int)} (h : Rgs w v rs) (hb : Below w.heap.size w x) : Rgs x v rs := by
  obtain ⟨a, cap, hv, hc, h⟩ := h
  refine ⟨a, cap, hv, hc, ?_⟩
  rcases h with h | ⟨b, off, ha, hx⟩
  · exact .inl h
  · exact .inr ⟨b, off, ha, fun j r hr => ⟨YthjbmloemmggaaaGreatDoor.later hb (hx j r hr).1, YthjbmloemmggaaaGreatDoor.later hb (hx j r hr).2⟩⟩
theorem Rgs.nil (W : World) : Rgs W (.slice none 0 0) [] := ⟨none, 0, rfl, ⟨Nat.le_refl _, fun _ => rfl⟩, .inl rfl⟩
def flatR (rs : List (Int × Int)) : List Value := rs.flatMap fun r => [.int .i64 r.1, .int .i64 r.2]
theorem flatR_snoc (rs : List (Int × Int)) (r : Int × Int) : flatR (rs ++ [r]) = flatR rs ++ [.int .i64 r.1, .int .i64 r.2] := by simp [flatR]
theorem flatR_at (rs : List (Int × Int)) (j : Nat) (r : Int × Int) (h : rs[j]? = some r) : (flatR rs)[j * 2]? = some (.int .i64 r.1) ∧ (flatR rs)[j * 2 + 1]? = some (.int .i64 r.2) := by
  induction rs generalizing j with
  | nil => simp at h
  | cons q rs ih =>
    have e : flatR (q :: rs) = .int .i64 q.1 :: .int .i64 q.2 :: flatR rs := rfl
    rw [e]
    cases j with
    | zero =>
      simp only [List.getElem?_cons_zero, Option.some.injEq] at h
      subst h
      exact ⟨rfl, rfl⟩
    | succ j =>
      simp only [List.getElem?_cons_succ] at h
      rw [show (j + 1) * 2 = j * 2 + 1 + 1 by omega]
      simpa using ih j h
theorem own_slice {w : World} {base n : Nat} {v : Value} {xs : List Value} (h : w.ownsRow base 180 2 v n xs) : ∃ o cap, v = .slice o n cap ∧ n ≤ cap ∧ (0 < n → ∃ g, o = some ⟨g, 0, none⟩) := by
  rcases h.2 with ⟨rfl, rfl⟩ | ⟨g, cap, cur, rfl, -, -, hn, -⟩
  · exact ⟨none, 0, rfl, Nat.le_refl _, fun h => absurd h (by omega)⟩
  · exact ⟨_, cap, rfl, hn, fun _ => ⟨g, rfl⟩⟩
theorem Rgs.of_own {w : World} {base : Nat} {v : Value} {rs : List (Int × Int)} (h : w.ownsRow base 180 2 v rs.length (flatR rs)) : Rgs w v rs := by
  rcases h.2 with ⟨rfl, h0⟩ | ⟨g, cap, cur, rfl, -, -, hn, -⟩
  · rw [List.eq_nil_of_length_eq_zero h0]; exact Rgs.nil w
  · refine ⟨some ⟨g, 0, none⟩, cap, rfl, ⟨hn, fun h => by cases h⟩, .inr ⟨g, 0, rfl, fun j r hr => ?_⟩⟩
    have hj := (List.getElem?_eq_some_iff.1 hr).1
    obtain ⟨r1, r2⟩ := flatR_at rs j r hr
    rw [Nat.zero_add]
    exact ⟨(h.cellAt (j * 2) (by omega)).trans r1, (h.cellAt (j * 2 + 1) (by omega)).trans r2⟩
def fitsB (n most : Int) : Bool := decide (0 ≤ n ∧ n ≤ most)
def rgB (r : Int × Int) : Bool := numB r.1 && numB r.2 && !decide (r.1 = r.2)
def lenK (m : Int) (sd ok sp : Bool) (n k : Nat) : Nat :=
  n * 8 + (if 0 < k ∧ m ≠ 0 then 4 else 0) + (if 1 < k ∧ sd = true then 3 else 0) + (if 2 < k ∧ ok = true then 2 else 0) + (if 3 < k ∧ sp = true then 10 else 0) + (if 4 < k ∧ 0 < n then 2 else 0)
def longN (m : Int) (sd ok sp : Bool) (n : Nat) : Nat := (lenK m sd ok sp n 5 + 3) / 4 * 4
def mayO (m c t ec : Int) (sd ok sp : Bool) (rs : List (Int × Int)) : Bool :=
  fitsB m 65535 && fitsB c 14 && (sd || decide (c = 0)) && numB t && numB ec && (sp || (decide (t = 0) && decide (ec = 0))) && decide (longN m sd ok sp rs.length ≤ 40) && !(rs.any fun r => !rgB r)
def codeO (b : Bool) : Int := if b = true then 0 else 70
theorem codeO_t : codeO true = 0 := rfl
theorem codeO_f : codeO false = 70 := rfl
theorem lenK_le (m : Int) (sd ok sp : Bool) (n k : Nat) : n * 8 ≤ lenK m sd ok sp n k ∧ lenK m sd ok sp n k ≤ n * 8 + 21 := by
  unfold lenK
  refine ⟨by omega, ?_⟩
  repeat' split
  all_goals omega
end Go.Proofs.YthjbmloemmggaaaGreatDoor

namespace Go.Proofs.YthjbmloemmggaaaGreatDoor
open Go.RowKit
set_option maxRecDepth 100000

theorem fits_any (n most : Int) (w : World) : Calls Tryz.prog 117 #[.int .i64 n, .int .i64 most] w fun e w' => e = .returned (.bool (fitsB n most)) ∧ w' = w := by
  unfold fitsB
  by_cases h0 : 0 ≤ n
  · by_cases h1 : n ≤ most
    · rw [decide_eq_true ⟨h0, h1⟩]
      go_enter Tryz.func117, Tryz.ntmps117
      go_wp2
      go_ret
      exact ⟨rfl, rfl⟩
    · rw [decide_eq_false (by omega)]
      go_enter Tryz.func117, Tryz.ntmps117
      go_wp2
      go_ret
      exact ⟨rfl, rfl⟩
  · rw [decide_eq_false (by omega)]
    go_enter Tryz.func117, Tryz.ntmps117
    go_wp2
    go_ret
    exact ⟨rfl, rfl⟩
theorem number_any (n : Int) (w : World) : Calls Tryz.prog 118 #[.int .i64 n] w fun e w' => e = .returned (.bool (numB n)) ∧ w' = w := by
  have c1 : codeOf true = 0 := rfl
  have c2 : codeOf false = 1 := rfl
  rcases Bool.eq_false_or_eq_true (numB n) with h | h
  all_goals
    go_enter Tryz.func118, Tryz.ntmps118
    go_wp2_with fail
    refine (check_any _ _).mono ?_
    rw [h]
    rintro e w' ⟨rfl, rfl⟩
    go_wp2
    go_ret
    exact ⟨by rw [h]; rfl, rfl⟩
theorem fixed_2 (w : World) : Calls Tryz.prog 114 #[.int .i64 2] w fun e w' => e = .returned (.int .i64 2) ∧ w' = w := by
  go_enter Tryz.func114, Tryz.ntmps114
  go_wp2
  go_ret
  exact ⟨rfl, rfl⟩
theorem fixed_3 (w : World) : Calls Tryz.prog 114 #[.int .i64 3] w fun e w' => e = .returned (.int .i64 1) ∧ w' = w := by
  go_enter Tryz.func114, Tryz.ntmps114
  go_wp2
  go_ret
  exact ⟨rfl, rfl⟩
theorem fixed_4 (w : World) : Calls Tryz.prog 114 #[.int .i64 4] w fun e w' => e = .returned (.int .i64 0) ∧ w' = w := by
  go_enter Tryz.func114, Tryz.ntmps114
  go_wp2
  go_ret
  exact ⟨rfl, rfl⟩
theorem fixed_8 (w : World) : Calls Tryz.prog 114 #[.int .i64 8] w fun e w' => e = .returned (.int .i64 8) ∧ w' = w := by
  go_enter Tryz.func114, Tryz.ntmps114
  go_wp2
  go_ret
  exact ⟨rfl, rfl⟩
theorem fixed_5 (w : World) : Calls Tryz.prog 114 #[.int .i64 5] w fun e w' => e = .returned (.int .i64 0) ∧ w' = w := by
  go_enter Tryz.func114, Tryz.ntmps114
  go_wp2
  go_ret
  exact ⟨rfl, rfl⟩
theorem has_2 (m c t ec : Int) (sd ok sp : Bool) (a : Option Addr) (n cap : Nat) (w : World) :
    Calls Tryz.prog 115 #[.agg #[.int .i64 m, .int .i64 c, .int .i64 t, .int .i64 ec, .bool sd, .bool ok, .bool sp, (.slice a n cap)], .int .i64 2] w fun e w' => e = .returned (.bool (m != 0)) ∧ Below w.heap.size w w' := by
  obtain ⟨⟨c0, c1, c2, c3, c4, c5, c6, c7⟩, -, -⟩ := (At.box w #[.int .i64 m, .int .i64 c, .int .i64 t, .int .i64 ec, .bool sd, .bool ok, .bool sp, (.slice a n cap)] 52).eight
  have hl := bel1 w (.cells #[.int .i64 m, .int .i64 c, .int .i64 t, .int .i64 ec, .bool sd, .bool ok, .bool sp, (.slice a n cap)] 52)
  go_enter Tryz.func115, Tryz.ntmps115
  go_wp2
  go_ret
  exact ⟨by simp, hl⟩
theorem has_3 (m c t ec : Int) (sd ok sp : Bool) (a : Option Addr) (n cap : Nat) (w : World) :
    Calls Tryz.prog 115 #[.agg #[.int .i64 m, .int .i64 c, .int .i64 t, .int .i64 ec, .bool sd, .bool ok, .bool sp, (.slice a n cap)], .int .i64 3] w fun e w' => e = .returned (.bool sd) ∧ Below w.heap.size w w' := by
  obtain ⟨⟨c0, c1, c2, c3, c4, c5, c6, c7⟩, -, -⟩ := (At.box w #[.int .i64 m, .int .i64 c, .int .i64 t, .int .i64 ec, .bool sd, .bool ok, .bool sp, (.slice a n cap)] 52).eight
  have hl := bel1 w (.cells #[.int .i64 m, .int .i64 c, .int .i64 t, .int .i64 ec, .bool sd, .bool ok, .bool sp, (.slice a n cap)] 52)
  go_enter Tryz.func115, Tryz.ntmps115
  go_wp2
  go_ret
  exact ⟨by simp, hl⟩
theorem has_4 (m c t ec : Int) (sd ok sp : Bool) (a : Option Addr) (n cap : Nat) (w : World) :
    Calls Tryz.prog 115 #[.agg #[.int .i64 m, .int .i64 c, .int .i64 t, .int .i64 ec, .bool sd, .bool ok, .bool sp, (.slice a n cap)], .int .i64 4] w fun e w' => e = .returned (.bool ok) ∧ Below w.heap.size w w' := by
  obtain ⟨⟨c0, c1, c2, c3, c4, c5, c6, c7⟩, -, -⟩ := (At.box w #[.int .i64 m, .int .i64 c, .int .i64 t, .int .i64 ec, .bool sd, .bool ok, .bool sp, (.slice a n cap)] 52).eight
  have hl := bel1 w (.cells #[.int .i64 m, .int .i64 c, .int .i64 t, .int .i64 ec, .bool sd, .bool ok, .bool sp, (.slice a n cap)] 52)
  go_enter Tryz.func115, Tryz.ntmps115
  go_wp2
  go_ret
  exact ⟨by simp, hl⟩
theorem has_8 (m c t ec : Int) (sd ok sp : Bool) (a : Option Addr) (n cap : Nat) (w : World) :
    Calls Tryz.prog 115 #[.agg #[.int .i64 m, .int .i64 c, .int .i64 t, .int .i64 ec, .bool sd, .bool ok, .bool sp, (.slice a n cap)], .int .i64 8] w fun e w' => e = .returned (.bool sp) ∧ Below w.heap.size w w' := by
  obtain ⟨⟨c0, c1, c2, c3, c4, c5, c6, c7⟩, -, -⟩ := (At.box w #[.int .i64 m, .int .i64 c, .int .i64 t, .int .i64 ec, .bool sd, .bool ok, .bool sp, (.slice a n cap)] 52).eight
  have hl := bel1 w (.cells #[.int .i64 m, .int .i64 c, .int .i64 t, .int .i64 ec, .bool sd, .bool ok, .bool sp, (.slice a n cap)] 52)
  go_enter Tryz.func115, Tryz.ntmps115
  go_wp2
  go_ret
  exact ⟨by simp, hl⟩
theorem has_5 (m c t ec : Int) (sd ok sp : Bool) (a : Option Addr) (n cap : Nat) (w : World) :
    Calls Tryz.prog 115 #[.agg #[.int .i64 m, .int .i64 c, .int .i64 t, .int .i64 ec, .bool sd, .bool ok, .bool sp, (.slice a n cap)], .int .i64 5] w fun e w' => e = .returned (.bool (decide (0 < n))) ∧ Below w.heap.size w w' := by
  obtain ⟨⟨c0, c1, c2, c3, c4, c5, c6, c7⟩, -, -⟩ := (At.box w #[.int .i64 m, .int .i64 c, .int .i64 t, .int .i64 ec, .bool sd, .bool ok, .bool sp, (.slice a n cap)] 52).eight
  have hl := bel1 w (.cells #[.int .i64 m, .int .i64 c, .int .i64 t, .int .i64 ec, .bool sd, .bool ok, .bool sp, (.slice a n cap)] 52)
  go_enter Tryz.func115, Tryz.ntmps115
  go_wp2
  go_ret
  exact ⟨by simp, hl⟩
theorem ix_0 (w : World) : (Instr.index 197 (.agg #[.int .i64 2, .int .i64 3, .int .i64 4, .int .i64 8, .int .i64 5]) (.int .i64 0)).run Tryz.prog w = .ok (.int .i64 2) w := by kernel_rfl
theorem ix_1 (w : World) : (Instr.index 197 (.agg #[.int .i64 2, .int .i64 3, .int .i64 4, .int .i64 8, .int .i64 5]) (.int .i64 1)).run Tryz.prog w = .ok (.int .i64 3) w := by kernel_rfl
theorem ix_2 (w : World) : (Instr.index 197 (.agg #[.int .i64 2, .int .i64 3, .int .i64 4, .int .i64 8, .int .i64 5]) (.int .i64 2)).run Tryz.prog w = .ok (.int .i64 4) w := by kernel_rfl
theorem ix_3 (w : World) : (Instr.index 197 (.agg #[.int .i64 2, .int .i64 3, .int .i64 4, .int .i64 8, .int .i64 5]) (.int .i64 3)).run Tryz.prog w = .ok (.int .i64 8) w := by kernel_rfl
theorem ix_4 (w : World) : (Instr.index 197 (.agg #[.int .i64 2, .int .i64 3, .int .i64 4, .int .i64 8, .int .i64 5]) (.int .i64 4)).run Tryz.prog w = .ok (.int .i64 5) w := by kernel_rfl
set_option maxRecDepth 100000 in
set_option maxHeartbeats 2000000 in
theorem long_any (m c t ec : Int) (sd ok sp : Bool) (x : Option Addr) (n cap : Nat) (w : World) (hn : n ≤ 17592186044416) (hG : Ord w) :
    Calls Tryz.prog 119 #[.agg #[.int .i64 m, .int .i64 c, .int .i64 t, .int .i64 ec, .bool sd, .bool ok, .bool sp, (.slice x n cap)]] w fun e w' => e = .returned (.int .i64 (longN m sd ok sp n)) ∧ Below w.heap.size w w' := by
  have hA := At.box w #[.int .i64 m, .int .i64 c, .int .i64 t, .int .i64 ec, .bool sd, .bool ok, .bool sp, (.slice x n cap)] 52
  have hl := bel1 w (.cells #[.int .i64 m, .int .i64 c, .int .i64 t, .int .i64 ec, .bool sd, .bool ok, .bool sp, (.slice x n cap)] 52)
  have hn' : (n : Int) ≤ 17592186044416 := by omega
  obtain ⟨g0, g1, g2, g3, g4⟩ := hG.later hl
  obtain ⟨⟨c0, c1, c2, c3, c4, c5, c6, c7⟩, -, -⟩ := hA.eight
  have HA : Hid (At (w.alloc (.cells #[.int .i64 m, .int .i64 c, .int .i64 t, .int .i64 ec, .bool sd, .bool ok, .bool sp, (.slice x n cap)] 52)) w.heap.size #[.int .i64 m, .int .i64 c, .int .i64 t, .int .i64 ec, .bool sd, .bool ok, .bool sp, (.slice x n cap)]) := hA
  have HL : Hid (Below w.heap.size w (w.alloc (.cells #[.int .i64 m, .int .i64 c, .int .i64 t, .int .i64 ec, .bool sd, .bool ok, .bool sp, (.slice x n cap)] 52))) := hl
  clear hA hl hG
  go_enter Tryz.func119, Tryz.ntmps119
  go_wp2
  clear g0 g1 g2 g3 g4 c0 c1 c2 c3 c4 c5 c6 c7
  go_loopw [3, 11] (fun s i W => ∃ k : Nat, k ≤ 5 ∧ i = .int .i64 k ∧ s = .int .i64 (lenK m sd ok sp n k) ∧ Below (w.alloc (.cells #[.int .i64 m, .int .i64 c, .int .i64 t, .int .i64 ec, .bool sd, .bool ok, .bool sp, (.slice x n cap)] 52)).heap.size (w.alloc (.cells #[.int .i64 m, .int .i64 c, .int .i64 t, .int .i64 ec, .bool sd, .bool ok, .bool sp, (.slice x n cap)] 52)) W) (fun _ i _ => 5 - (intOf i).toNat)
  case atStart => exact ⟨0, by omega, rfl, by simp [lenK], Below.refl _ _⟩
  case round =>
    obtain ⟨k, hk, rfl, rfl, hbl⟩ := hrel
    obtain ⟨⟨c0, c1, c2, c3, c4, c5, c6, c7⟩, -, -⟩ := (HA.out.later hbl).eight
    have hle := (lenK_le m sd ok sp n k).2
    have hle' : ((lenK m sd ok sp n k : Nat) : Int) ≤ 140737488355400 := by omega
    have hle0 : (0 : Int) ≤ ((lenK m sd ok sp n k : Nat) : Int) := by omega
    obtain rfl | rfl | rfl | rfl | rfl | rfl : k = 0 ∨ k = 1 ∨ k = 2 ∨ k = 3 ∨ k = 4 ∨ k = 5 := by omega
    · have HT : Hid (m ≠ 0 → lenK m sd ok sp n 1 = lenK m sd ok sp n 0 + 4) := fun h => by simp [lenK, h]
      have HF : Hid (¬ (m ≠ 0) → lenK m sd ok sp n 1 = lenK m sd ok sp n 0) := fun h => by simp [lenK, h]
      have hix := ix_0 wr
      rcases Bool.eq_false_or_eq_true (m != 0) with hh | hh
      · go_wp2_with fail
        refine (has_2 _ _ _ _ _ _ _ x n cap _).mono ?_
        rw [hh]
        rintro e wa ⟨rfl, hb⟩
        go_wp2_with fail
        refine (fixed_2 _).mono ?_
        rintro e wb ⟨rfl, rfl⟩
        go_wp2
        go_roundw
        case rel => exact ⟨1, by omega, by go_num, by rw [HT.out (by simpa using hh)]; go_num, bt hbl hb⟩
        case measure => simp [intOf]
      · go_wp2_with fail
        refine (has_2 _ _ _ _ _ _ _ x n cap _).mono ?_
        rw [hh]
        rintro e wa ⟨rfl, hb⟩
        go_wp2
        go_roundw
        case rel => exact ⟨1, by omega, by go_num, by rw [HF.out (by simpa using hh)], bt hbl hb⟩
        case measure => simp [intOf]
    · have HT : Hid (sd = true → lenK m sd ok sp n 2 = lenK m sd ok sp n 1 + 3) := fun h => by simp [lenK, h]
      have HF : Hid (¬ (sd = true) → lenK m sd ok sp n 2 = lenK m sd ok sp n 1) := fun h => by simp [lenK, h]
      have hix := ix_1 wr
      rcases Bool.eq_false_or_eq_true sd with rfl | rfl
      · go_wp2_with fail
        refine (has_3 _ _ _ _ _ _ _ x n cap _).mono ?_
        rintro e wa ⟨rfl, hb⟩
        go_wp2_with fail
        refine (fixed_3 _).mono ?_
        rintro e wb ⟨rfl, rfl⟩
        go_wp2
        go_roundw
        case rel => exact ⟨2, by omega, by go_num, by rw [HT.out (by simp)]; go_num, bt hbl hb⟩
        case measure => simp [intOf]
      · go_wp2_with fail
        refine (has_3 _ _ _ _ _ _ _ x n cap _).mono ?_
        rintro e wa ⟨rfl, hb⟩
        go_wp2
        go_roundw
        case rel => exact ⟨2, by omega, by go_num, by rw [HF.out (by simp)], bt hbl hb⟩
        case measure => simp [intOf]
    · have HT : Hid (ok = true → lenK m sd ok sp n 3 = lenK m sd ok sp n 2 + 2) := fun h => by simp [lenK, h]
      have HF : Hid (¬ (ok = true) → lenK m sd ok sp n 3 = lenK m sd ok sp n 2) := fun h => by simp [lenK, h]
      have hix := ix_2 wr
      rcases Bool.eq_false_or_eq_true ok with rfl | rfl
      · go_wp2_with fail
        refine (has_4 _ _ _ _ _ _ _ x n cap _).mono ?_
        rintro e wa ⟨rfl, hb⟩
        go_wp2_with fail
        refine (fixed_4 _).mono ?_
        rintro e wb ⟨rfl, rfl⟩
        go_wp2
        go_roundw
        case rel => exact ⟨3, by omega, by go_num, by rw [HT.out (by simp)]; go_num, bt hbl hb⟩
        case measure => simp [intOf]
      · go_wp2_with fail
        refine (has_4 _ _ _ _ _ _ _ x n cap _).mono ?_
        rintro e wa ⟨rfl, hb⟩
        go_wp2
        go_roundw
        case rel => exact ⟨3, by omega, by go_num, by rw [HF.out (by simp)], bt hbl hb⟩
        case measure => simp [intOf]
    · have HT : Hid (sp = true → lenK m sd ok sp n 4 = lenK m sd ok sp n 3 + 10) := fun h => by simp [lenK, h]
      have HF : Hid (¬ (sp = true) → lenK m sd ok sp n 4 = lenK m sd ok sp n 3) := fun h => by simp [lenK, h]
      have hix := ix_3 wr
      rcases Bool.eq_false_or_eq_true sp with rfl | rfl
      · go_wp2_with fail
        refine (has_8 _ _ _ _ _ _ _ x n cap _).mono ?_
        rintro e wa ⟨rfl, hb⟩
        go_wp2_with fail
        refine (fixed_8 _).mono ?_
        rintro e wb ⟨rfl, rfl⟩
        go_wp2
        go_roundw
        case rel => exact ⟨4, by omega, by go_num, by rw [HT.out (by simp)]; go_num, bt hbl hb⟩
        case measure => simp [intOf]
      · go_wp2_with fail
        refine (has_8 _ _ _ _ _ _ _ x n cap _).mono ?_
        rintro e wa ⟨rfl, hb⟩
        go_wp2
        go_roundw
        case rel => exact ⟨4, by omega, by go_num, by rw [HF.out (by simp)], bt hbl hb⟩
        case measure => simp [intOf]
    · have HT : Hid (0 < n → lenK m sd ok sp n 5 = lenK m sd ok sp n 4 + 2) := fun h => by simp [lenK, h]
      have HF : Hid (¬ (0 < n) → lenK m sd ok sp n 5 = lenK m sd ok sp n 4) := fun h => by simp [lenK, h]
      have hix := ix_4 wr
      rcases Bool.eq_false_or_eq_true (decide (0 < n)) with hh | hh
      · go_wp2_with fail
        refine (has_5 _ _ _ _ _ _ _ x n cap _).mono ?_
        rw [hh]
        rintro e wa ⟨rfl, hb⟩
        go_wp2_with fail
        refine (fixed_5 _).mono ?_
        rintro e wb ⟨rfl, rfl⟩
        go_wp2
        go_roundw
        case rel => exact ⟨5, by omega, by go_num, by rw [HT.out (by simpa using hh)]; go_num, bt hbl hb⟩
        case measure => simp [intOf]
      · go_wp2_with fail
        refine (has_5 _ _ _ _ _ _ _ x n cap _).mono ?_
        rw [hh]
        rintro e wa ⟨rfl, hb⟩
        go_wp2
        go_roundw
        case rel => exact ⟨5, by omega, by go_num, by rw [HF.out (by simpa using hh)], bt hbl hb⟩
        case measure => simp [intOf]
    · have HE : Hid (((longN m sd ok sp n : Nat) : Int) = ((lenK m sd ok sp n 5 : Nat) + 4 - 1) / 4 * 4) := by
        show _ = _
        unfold longN
        omega
      go_wp2
      go_ret
      exact ⟨by rw [HE.out]; rfl, bt HL.out hbl⟩
theorem wrong_any (r : Int × Int) (w : World) : Calls Tryz.prog 121 #[.agg #[.int .i64 r.1, .int .i64 r.2]] w fun e w' => e = .returned (.bool (!rgB r)) ∧ Below w.heap.size w w' := by
  obtain ⟨x, y⟩ := r
  have hl := bel1 w (.cells #[.int .i64 x, .int .i64 y] 180)
  unfold rgB
  show Calls Tryz.prog 121 #[.agg #[.int .i64 x, .int .i64 y]] w fun e w' => e = .returned (.bool (!(numB x && numB y && !decide (x = y)))) ∧ Below w.heap.size w w'
  rcases Bool.eq_false_or_eq_true (numB x) with h | h
  · rcases Bool.eq_false_or_eq_true (numB y) with h2 | h2
    · by_cases h3 : x = y
      · subst h3
        clear h2
        go_enter Tryz.func121, Tryz.ntmps121
        go_wp2_with fail
        refine (number_any _ _).mono ?_
        rw [h]
        rintro e w' ⟨rfl, rfl⟩
        go_wp2_with fail
        refine (number_any _ _).mono ?_
        rw [h]
        rintro e w' ⟨rfl, rfl⟩
        go_wp2
        go_ret
        exact ⟨by simp [h], hl⟩
      · go_enter Tryz.func121, Tryz.ntmps121
        go_wp2_with fail
        refine (number_any _ _).mono ?_
        rw [h]
        rintro e w' ⟨rfl, rfl⟩
        go_wp2_with fail
        refine (number_any _ _).mono ?_
        rw [h2]
        rintro e w' ⟨rfl, rfl⟩
        go_wp2
        go_ret
        exact ⟨by simp [h, h2, h3], hl⟩
    · go_enter Tryz.func121, Tryz.ntmps121
      go_wp2_with fail
      refine (number_any _ _).mono ?_
      rw [h]
      rintro e w' ⟨rfl, rfl⟩
      go_wp2_with fail
      refine (number_any _ _).mono ?_
      rw [h2]
      rintro e w' ⟨rfl, rfl⟩
      go_wp2
      go_ret
      exact ⟨by simp [h, h2], hl⟩
  · go_enter Tryz.func121, Tryz.ntmps121
    go_wp2_with fail
    refine (number_any _ _).mono ?_
    rw [h]
    rintro e w' ⟨rfl, rfl⟩
    go_wp2
    go_ret
    exact ⟨by simp [h], hl⟩
end Go.Proofs.YthjbmloemmggaaaGreatDoor

namespace Go.Proofs.YthjbmloemmggaaaGreatDoor
open Go.RowKit
set_option maxRecDepth 100000

theorem any_step (rs : List (Int × Int)) (k : Nat) (r : Int × Int) (h : rs[k]? = some r) : ((rs.take (k + 1)).any fun r => !rgB r) = ((rs.take k).any (fun r => !rgB r) || !rgB r) := by
  obtain ⟨hk, rfl⟩ := List.getElem?_eq_some_iff.1 h
  rw [List.take_succ_eq_append_getElem hk, List.any_append]
  simp
theorem any_in (rs : List (Int × Int)) (k : Nat) (r : Int × Int) (h : rs[k]? = some r) (hr : rgB r = false) : (rs.any fun r => !rgB r) = true := by
  rw [List.any_eq_true]
  exact ⟨r, List.mem_of_getElem? h, by rw [hr]; rfl⟩
set_option maxHeartbeats 1000000 in
theorem idx_any (v : Value) (rs : List (Int × Int)) (w : World) (hv : Rgs w v rs) (hn : rs.length ≤ 17592186044416) :
    Calls Tryz.prog 129 #[v, .func (.func 121) #[] #[]] w fun e w' => (∃ i : Int, e = .returned (.int .i64 i) ∧ decide (0 ≤ i) = (rs.any fun r => !rgB r)) ∧ Below w.heap.size w w' := by
  obtain ⟨a, cap, rfl, hc, h⟩ := hv
  have hn' : (rs.length : Int) ≤ 17592186044416 := by omega
  rcases h with rfl | ⟨b, off, rfl, hx⟩
  · go_enter Tryz.func129, Tryz.ntmps129
    go_wp2
    go_loop [8] (fun i => i = .int .i64 0) (fun _ => 0)
    case atStart => rfl
    case round =>
      subst hrel
      go_wp2
      go_ret
      exact ⟨⟨-1, rfl, by decide⟩, Below.refl _ _⟩
  · have HX : Hid (∀ (j : Nat) (r : Int × Int), rs[j]? = some r → w.cell? ⟨b, off + j * 2, none⟩ = some (.int .i64 r.1) ∧ w.cell? ⟨b, off + j * 2 + 1, none⟩ = some (.int .i64 r.2)) := hx
    clear hx
    go_enter Tryz.func129, Tryz.ntmps129
    go_wp2
    go_loopw [8] (fun i W => ∃ k : Nat, k ≤ rs.length ∧ i = .int .i64 k ∧ ((rs.take k).any fun r => !rgB r) = false ∧ Below w.heap.size w W) (fun i _ => rs.length - (intOf i).toNat)
    case atStart => exact ⟨0, Nat.zero_le _, rfl, by simp, Below.refl _ _⟩
    case round =>
      obtain ⟨k, hk, rfl, hno, hbl⟩ := hrel
      by_cases hlt : k < rs.length
      · obtain ⟨r, hr⟩ : ∃ r, rs[k]? = some r := ⟨rs[k], List.getElem?_eq_getElem hlt⟩
        have HS : Hid (((rs.take (k + 1)).any fun r => !rgB r) = ((rs.take k).any (fun r => !rgB r) || !rgB r)) := any_step rs k r hr
        have HI : Hid (rgB r = false → (rs.any fun r => !rgB r) = true) := any_in rs k r hr
        have HN : Hid (((rs.take k).any fun r => !rgB r) = false) := hno
        obtain ⟨x1, x2⟩ := HX.out k r hr
        replace x1 := later hbl x1
        replace x2 := later hbl x2
        have l0 : (0 : Int) ≤ (k : Int) := by omega
        have l1 : (k : Int) < (rs.length : Int) := by omega
        clear hr hno
        rcases Bool.eq_false_or_eq_true (rgB r) with h | h
        · go_wp2_with fail
          refine (wrong_any r _).mono ?_
          rw [h]
          rintro e wa ⟨rfl, hb⟩
          go_wp2
          go_roundw
          case rel => exact ⟨k + 1, by omega, by go_num, by rw [HS.out, HN.out, h]; rfl, bt hbl hb⟩
          case measure => simp [intOf]; omega
        · go_wp2_with fail
          refine (wrong_any r _).mono ?_
          rw [h]
          rintro e wa ⟨rfl, hb⟩
          go_wp2
          go_ret
          exact ⟨⟨k, rfl, by rw [HI.out h]; exact decide_eq_true (by omega)⟩, bt hbl hb⟩
      · have hk' : k = rs.length := by omega
        subst hk'
        rw [List.take_length] at hno
        have HN : Hid ((rs.any fun r => !rgB r) = false) := hno
        clear hno
        go_wp2
        go_ret
        exact ⟨⟨-1, rfl, by rw [HN.out]; rfl⟩, hbl⟩
theorem cont_any (v : Value) (rs : List (Int × Int)) (w : World) (hv : Rgs w v rs) (hn : rs.length ≤ 17592186044416) :
    Calls Tryz.prog 120 #[v, .func (.func 121) #[] #[]] w fun e w' => e = .returned (.bool (rs.any fun r => !rgB r)) ∧ Below w.heap.size w w' := by
  generalize hB : (rs.any fun r => !rgB r) = B
  have hi := idx_any v rs w hv hn
  rw [hB] at hi
  clear hB hv
  go_enter Tryz.func120, Tryz.ntmps120
  go_wp2_with fail
  refine hi.mono ?_
  rintro e wa ⟨⟨i, rfl, hB⟩, hb⟩
  have HB : Hid (decide (0 ≤ i) = B) := hB
  clear hB hi
  go_wp2
  go_ret
  exact ⟨by rw [← HB.out]; simp, hb⟩

set_option maxRecDepth 100000 in
set_option maxHeartbeats 4000000 in
theorem may_any (m c t ec : Int) (sd ok sp : Bool) (v : Value) (rs : List (Int × Int)) (w : World) (hv : Rgs w v rs) (hn : rs.length ≤ 17592186044416) (hG : Ord w) :
    Calls Tryz.prog 105 #[.agg #[.int .i64 m, .int .i64 c, .int .i64 t, .int .i64 ec, .bool sd, .bool ok, .bool sp, v]] w fun e w' => e = .returned (.bool (mayO m c t ec sd ok sp rs)) ∧ Below w.heap.size w w' := by
  obtain ⟨x, cap, hvx, -⟩ := id hv
  subst hvx
  have hA := At.box w (#[.int .i64 m, .int .i64 c, .int .i64 t, .int .i64 ec, .bool sd, .bool ok, .bool sp, .slice x rs.length cap]) 52
  have hl := bel1 w (.cells (#[.int .i64 m, .int .i64 c, .int .i64 t, .int .i64 ec, .bool sd, .bool ok, .bool sp, .slice x rs.length cap]) 52)
  obtain ⟨⟨c0, c1, c2, c3, c4, c5, c6, c7⟩, -, -⟩ := hA.eight
  have HG := hG.later hl
  have HV := hv.later hl
  have hM : mayO m c t ec sd ok sp rs = (fitsB m 65535 && fitsB c 14 && (sd || decide (c = 0)) && numB t && numB ec && (sp || (decide (t = 0) && decide (ec = 0))) && decide ((longN m sd ok sp rs.length : Int) ≤ 40) && !(rs.any fun r => !rgB r)) := by
    unfold mayO
    have e1 : decide (longN m sd ok sp rs.length ≤ 40) = decide ((longN m sd ok sp rs.length : Int) ≤ 40) := decide_eq_decide.2 (by omega)
    rw [e1]
  rw [hM]
  have HL := fun W (h : Ord W) => long_any m c t ec sd ok sp x rs.length cap W hn h
  have HC := fun W (h : Rgs W (.slice x rs.length cap) rs) => cont_any _ rs W h hn
  generalize (rs.any fun r => !rgB r) = B at HC ⊢
  generalize longN m sd ok sp rs.length = L at HL ⊢
  clear hM hv hG hn
  have HLH : Hid (∀ W, Ord W → Calls Tryz.prog 119 #[.agg (#[.int .i64 m, .int .i64 c, .int .i64 t, .int .i64 ec, .bool sd, .bool ok, .bool sp, .slice x rs.length cap])] W fun e w' => e = .returned (.int .i64 (L : Int)) ∧ Below W.heap.size W w') := HL
  have HCH : Hid (∀ W, Rgs W (.slice x rs.length cap) rs → Calls Tryz.prog 120 #[.slice x rs.length cap, .func (.func 121) #[] #[]] W fun e w' => e = .returned (.bool B) ∧ Below W.heap.size W w') := HC
  clear HL HC
  generalize hf1 : fitsB m 65535 = F1
  generalize hf2 : fitsB c 14 = F2
  generalize hf3 : numB t = F3
  generalize hf4 : numB ec = F4
  have Q1 := fun W => fits_any m 65535 W
  have Q2 := fun W => fits_any c 14 W
  have Q3 := fun W => number_any t W
  have Q4 := fun W => number_any ec W
  rw [hf1] at Q1; rw [hf2] at Q2; rw [hf3] at Q3; rw [hf4] at Q4
  clear hf1 hf2 hf3 hf4
  have R1 : Hid (∀ W, Calls Tryz.prog 117 #[.int .i64 m, .int .i64 65535] W fun e w' => e = .returned (.bool F1) ∧ w' = W) := Q1
  have R2 : Hid (∀ W, Calls Tryz.prog 117 #[.int .i64 c, .int .i64 14] W fun e w' => e = .returned (.bool F2) ∧ w' = W) := Q2
  have R3 : Hid (∀ W, Calls Tryz.prog 118 #[.int .i64 t] W fun e w' => e = .returned (.bool F3) ∧ w' = W) := Q3
  have R4 : Hid (∀ W, Calls Tryz.prog 118 #[.int .i64 ec] W fun e w' => e = .returned (.bool F4) ∧ w' = W) := Q4
  clear Q1 Q2 Q3 Q4
  cases F1
  · go_enter Tryz.func105, Tryz.ntmps105
    go_wp2_with fail
    refine (R1.out _).mono ?_
    rintro e w' ⟨rfl, rfl⟩
    go_wp2
    go_ret
    exact ⟨by simp [*], hl⟩
  cases F2
  · go_enter Tryz.func105, Tryz.ntmps105
    go_wp2_with fail
    refine (R1.out _).mono ?_
    rintro e w' ⟨rfl, rfl⟩
    go_wp2_with fail
    refine (R2.out _).mono ?_
    rintro e w' ⟨rfl, rfl⟩
    go_wp2
    go_ret
    exact ⟨by simp [*], hl⟩
  cases sd
  · by_cases hc : c = 0
    · subst hc
      cases F3
      · go_enter Tryz.func105, Tryz.ntmps105
        go_wp2_with fail
        refine (R1.out _).mono ?_
        rintro e w' ⟨rfl, rfl⟩
        go_wp2_with fail
        refine (R2.out _).mono ?_
        rintro e w' ⟨rfl, rfl⟩
        go_wp2_with fail
        refine (R3.out _).mono ?_
        rintro e w' ⟨rfl, rfl⟩
        go_wp2
        go_ret
        exact ⟨by simp [*], hl⟩
      cases F4
      · go_enter Tryz.func105, Tryz.ntmps105
        go_wp2_with fail
        refine (R1.out _).mono ?_
        rintro e w' ⟨rfl, rfl⟩
        go_wp2_with fail
        refine (R2.out _).mono ?_
        rintro e w' ⟨rfl, rfl⟩
        go_wp2_with fail
        refine (R3.out _).mono ?_
        rintro e w' ⟨rfl, rfl⟩
        go_wp2_with fail
        refine (R4.out _).mono ?_
        rintro e w' ⟨rfl, rfl⟩
        go_wp2
        go_ret
        exact ⟨by simp [*], hl⟩
      cases sp
      · by_cases ht : t = 0
        · subst ht
          by_cases he : ec = 0
          · subst he
            by_cases hL : (L : Int) ≤ 40
            · cases B
              · go_enter Tryz.func105, Tryz.ntmps105
                go_wp2_with fail
                refine (R1.out _).mono ?_
                rintro e w' ⟨rfl, rfl⟩
                go_wp2_with fail
                refine (R2.out _).mono ?_
                rintro e w' ⟨rfl, rfl⟩
                go_wp2_with fail
                refine (R3.out _).mono ?_
                rintro e w' ⟨rfl, rfl⟩
                go_wp2_with fail
                refine (R4.out _).mono ?_
                rintro e w' ⟨rfl, rfl⟩
                go_wp2_with fail
                refine (HLH.out _ HG).mono ?_
                rintro e wa ⟨rfl, hb⟩
                obtain ⟨⟨d0, d1, d2, d3, d4, d5, d6, d7⟩, -, -⟩ := (hA.later hb).eight
                go_wp2_with fail
                refine (HCH.out _ (HV.later hb)).mono ?_
                rintro e wb ⟨rfl, hb2⟩
                go_wp2
                go_ret
                exact ⟨by simp [*], bt (bt hl hb) hb2⟩
              · go_enter Tryz.func105, Tryz.ntmps105
                go_wp2_with fail
                refine (R1.out _).mono ?_
                rintro e w' ⟨rfl, rfl⟩
                go_wp2_with fail
                refine (R2.out _).mono ?_
                rintro e w' ⟨rfl, rfl⟩
                go_wp2_with fail
                refine (R3.out _).mono ?_
                rintro e w' ⟨rfl, rfl⟩
                go_wp2_with fail
                refine (R4.out _).mono ?_
                rintro e w' ⟨rfl, rfl⟩
                go_wp2_with fail
                refine (HLH.out _ HG).mono ?_
                rintro e wa ⟨rfl, hb⟩
                obtain ⟨⟨d0, d1, d2, d3, d4, d5, d6, d7⟩, -, -⟩ := (hA.later hb).eight
                go_wp2_with fail
                refine (HCH.out _ (HV.later hb)).mono ?_
                rintro e wb ⟨rfl, hb2⟩
                go_wp2
                go_ret
                exact ⟨by simp [*], bt (bt hl hb) hb2⟩
            · go_enter Tryz.func105, Tryz.ntmps105
              go_wp2_with fail
              refine (R1.out _).mono ?_
              rintro e w' ⟨rfl, rfl⟩
              go_wp2_with fail
              refine (R2.out _).mono ?_
              rintro e w' ⟨rfl, rfl⟩
              go_wp2_with fail
              refine (R3.out _).mono ?_
              rintro e w' ⟨rfl, rfl⟩
              go_wp2_with fail
              refine (R4.out _).mono ?_
              rintro e w' ⟨rfl, rfl⟩
              go_wp2_with fail
              refine (HLH.out _ HG).mono ?_
              rintro e wa ⟨rfl, hb⟩
              go_wp2
              go_ret
              exact ⟨by simp; intro h; exfalso; omega, bt hl hb⟩
          · go_enter Tryz.func105, Tryz.ntmps105
            go_wp2_with fail
            refine (R1.out _).mono ?_
            rintro e w' ⟨rfl, rfl⟩
            go_wp2_with fail
            refine (R2.out _).mono ?_
            rintro e w' ⟨rfl, rfl⟩
            go_wp2_with fail
            refine (R3.out _).mono ?_
            rintro e w' ⟨rfl, rfl⟩
            go_wp2_with fail
            refine (R4.out _).mono ?_
            rintro e w' ⟨rfl, rfl⟩
            go_wp2
            go_ret
            exact ⟨by simp [*], hl⟩
        · go_enter Tryz.func105, Tryz.ntmps105
          go_wp2_with fail
          refine (R1.out _).mono ?_
          rintro e w' ⟨rfl, rfl⟩
          go_wp2_with fail
          refine (R2.out _).mono ?_
          rintro e w' ⟨rfl, rfl⟩
          go_wp2_with fail
          refine (R3.out _).mono ?_
          rintro e w' ⟨rfl, rfl⟩
          go_wp2_with fail
          refine (R4.out _).mono ?_
          rintro e w' ⟨rfl, rfl⟩
          go_wp2
          go_ret
          exact ⟨by simp [*], hl⟩
      · skip
        by_cases hL : (L : Int) ≤ 40
        · cases B
          · go_enter Tryz.func105, Tryz.ntmps105
            go_wp2_with fail
            refine (R1.out _).mono ?_
            rintro e w' ⟨rfl, rfl⟩
            go_wp2_with fail
            refine (R2.out _).mono ?_
            rintro e w' ⟨rfl, rfl⟩
            go_wp2_with fail
            refine (R3.out _).mono ?_
            rintro e w' ⟨rfl, rfl⟩
            go_wp2_with fail
            refine (R4.out _).mono ?_
            rintro e w' ⟨rfl, rfl⟩
            go_wp2_with fail
            refine (HLH.out _ HG).mono ?_
            rintro e wa ⟨rfl, hb⟩
            obtain ⟨⟨d0, d1, d2, d3, d4, d5, d6, d7⟩, -, -⟩ := (hA.later hb).eight
            go_wp2_with fail
            refine (HCH.out _ (HV.later hb)).mono ?_
            rintro e wb ⟨rfl, hb2⟩
            go_wp2
            go_ret
            exact ⟨by simp [*], bt (bt hl hb) hb2⟩
          · go_enter Tryz.func105, Tryz.ntmps105
            go_wp2_with fail
            refine (R1.out _).mono ?_
            rintro e w' ⟨rfl, rfl⟩
            go_wp2_with fail
            refine (R2.out _).mono ?_
            rintro e w' ⟨rfl, rfl⟩
            go_wp2_with fail
            refine (R3.out _).mono ?_
            rintro e w' ⟨rfl, rfl⟩
            go_wp2_with fail
            refine (R4.out _).mono ?_
            rintro e w' ⟨rfl, rfl⟩
            go_wp2_with fail
            refine (HLH.out _ HG).mono ?_
            rintro e wa ⟨rfl, hb⟩
            obtain ⟨⟨d0, d1, d2, d3, d4, d5, d6, d7⟩, -, -⟩ := (hA.later hb).eight
            go_wp2_with fail
            refine (HCH.out _ (HV.later hb)).mono ?_
            rintro e wb ⟨rfl, hb2⟩
            go_wp2
            go_ret
            exact ⟨by simp [*], bt (bt hl hb) hb2⟩
        · go_enter Tryz.func105, Tryz.ntmps105
          go_wp2_with fail
          refine (R1.out _).mono ?_
          rintro e w' ⟨rfl, rfl⟩
          go_wp2_with fail
          refine (R2.out _).mono ?_
          rintro e w' ⟨rfl, rfl⟩
          go_wp2_with fail
          refine (R3.out _).mono ?_
          rintro e w' ⟨rfl, rfl⟩
          go_wp2_with fail
          refine (R4.out _).mono ?_
          rintro e w' ⟨rfl, rfl⟩
          go_wp2_with fail
          refine (HLH.out _ HG).mono ?_
          rintro e wa ⟨rfl, hb⟩
          go_wp2
          go_ret
          exact ⟨by simp; intro h; exfalso; omega, bt hl hb⟩
    · go_enter Tryz.func105, Tryz.ntmps105
      go_wp2_with fail
      refine (R1.out _).mono ?_
      rintro e w' ⟨rfl, rfl⟩
      go_wp2_with fail
      refine (R2.out _).mono ?_
      rintro e w' ⟨rfl, rfl⟩
      go_wp2
      go_ret
      exact ⟨by simp [*], hl⟩
  · skip
    cases F3
    · go_enter Tryz.func105, Tryz.ntmps105
      go_wp2_with fail
      refine (R1.out _).mono ?_
      rintro e w' ⟨rfl, rfl⟩
      go_wp2_with fail
      refine (R2.out _).mono ?_
      rintro e w' ⟨rfl, rfl⟩
      go_wp2_with fail
      refine (R3.out _).mono ?_
      rintro e w' ⟨rfl, rfl⟩
      go_wp2
      go_ret
      exact ⟨by simp [*], hl⟩
    cases F4
    · go_enter Tryz.func105, Tryz.ntmps105
      go_wp2_with fail
      refine (R1.out _).mono ?_
      rintro e w' ⟨rfl, rfl⟩
      go_wp2_with fail
      refine (R2.out _).mono ?_
      rintro e w' ⟨rfl, rfl⟩
      go_wp2_with fail
      refine (R3.out _).mono ?_
      rintro e w' ⟨rfl, rfl⟩
      go_wp2_with fail
      refine (R4.out _).mono ?_
      rintro e w' ⟨rfl, rfl⟩
      go_wp2
      go_ret
      exact ⟨by simp [*], hl⟩
    cases sp
    · by_cases ht : t = 0
      · subst ht
        by_cases he : ec = 0
        · subst he
          by_cases hL : (L : Int) ≤ 40
          · cases B
            · go_enter Tryz.func105, Tryz.ntmps105
              go_wp2_with fail
              refine (R1.out _).mono ?_
              rintro e w' ⟨rfl, rfl⟩
              go_wp2_with fail
              refine (R2.out _).mono ?_
              rintro e w' ⟨rfl, rfl⟩
              go_wp2_with fail
              refine (R3.out _).mono ?_
              rintro e w' ⟨rfl, rfl⟩
              go_wp2_with fail
              refine (R4.out _).mono ?_
              rintro e w' ⟨rfl, rfl⟩
              go_wp2_with fail
              refine (HLH.out _ HG).mono ?_
              rintro e wa ⟨rfl, hb⟩
              obtain ⟨⟨d0, d1, d2, d3, d4, d5, d6, d7⟩, -, -⟩ := (hA.later hb).eight
              go_wp2_with fail
              refine (HCH.out _ (HV.later hb)).mono ?_
              rintro e wb ⟨rfl, hb2⟩
              go_wp2
              go_ret
              exact ⟨by simp [*], bt (bt hl hb) hb2⟩
            · go_enter Tryz.func105, Tryz.ntmps105
              go_wp2_with fail
              refine (R1.out _).mono ?_
              rintro e w' ⟨rfl, rfl⟩
              go_wp2_with fail
              refine (R2.out _).mono ?_
              rintro e w' ⟨rfl, rfl⟩
              go_wp2_with fail
              refine (R3.out _).mono ?_
              rintro e w' ⟨rfl, rfl⟩
              go_wp2_with fail
              refine (R4.out _).mono ?_
              rintro e w' ⟨rfl, rfl⟩
              go_wp2_with fail
              refine (HLH.out _ HG).mono ?_
              rintro e wa ⟨rfl, hb⟩
              obtain ⟨⟨d0, d1, d2, d3, d4, d5, d6, d7⟩, -, -⟩ := (hA.later hb).eight
              go_wp2_with fail
              refine (HCH.out _ (HV.later hb)).mono ?_
              rintro e wb ⟨rfl, hb2⟩
              go_wp2
              go_ret
              exact ⟨by simp [*], bt (bt hl hb) hb2⟩
          · go_enter Tryz.func105, Tryz.ntmps105
            go_wp2_with fail
            refine (R1.out _).mono ?_
            rintro e w' ⟨rfl, rfl⟩
            go_wp2_with fail
            refine (R2.out _).mono ?_
            rintro e w' ⟨rfl, rfl⟩
            go_wp2_with fail
            refine (R3.out _).mono ?_
            rintro e w' ⟨rfl, rfl⟩
            go_wp2_with fail
            refine (R4.out _).mono ?_
            rintro e w' ⟨rfl, rfl⟩
            go_wp2_with fail
            refine (HLH.out _ HG).mono ?_
            rintro e wa ⟨rfl, hb⟩
            go_wp2
            go_ret
            exact ⟨by simp; intro h; exfalso; omega, bt hl hb⟩
        · go_enter Tryz.func105, Tryz.ntmps105
          go_wp2_with fail
          refine (R1.out _).mono ?_
          rintro e w' ⟨rfl, rfl⟩
          go_wp2_with fail
          refine (R2.out _).mono ?_
          rintro e w' ⟨rfl, rfl⟩
          go_wp2_with fail
          refine (R3.out _).mono ?_
          rintro e w' ⟨rfl, rfl⟩
          go_wp2_with fail
          refine (R4.out _).mono ?_
          rintro e w' ⟨rfl, rfl⟩
          go_wp2
          go_ret
          exact ⟨by simp [*], hl⟩
      · go_enter Tryz.func105, Tryz.ntmps105
        go_wp2_with fail
        refine (R1.out _).mono ?_
        rintro e w' ⟨rfl, rfl⟩
        go_wp2_with fail
        refine (R2.out _).mono ?_
        rintro e w' ⟨rfl, rfl⟩
        go_wp2_with fail
        refine (R3.out _).mono ?_
        rintro e w' ⟨rfl, rfl⟩
        go_wp2_with fail
        refine (R4.out _).mono ?_
        rintro e w' ⟨rfl, rfl⟩
        go_wp2
        go_ret
        exact ⟨by simp [*], hl⟩
    · skip
      by_cases hL : (L : Int) ≤ 40
      · cases B
        · go_enter Tryz.func105, Tryz.ntmps105
          go_wp2_with fail
          refine (R1.out _).mono ?_
          rintro e w' ⟨rfl, rfl⟩
          go_wp2_with fail
          refine (R2.out _).mono ?_
          rintro e w' ⟨rfl, rfl⟩
          go_wp2_with fail
          refine (R3.out _).mono ?_
          rintro e w' ⟨rfl, rfl⟩
          go_wp2_with fail
          refine (R4.out _).mono ?_
          rintro e w' ⟨rfl, rfl⟩
          go_wp2_with fail
          refine (HLH.out _ HG).mono ?_
          rintro e wa ⟨rfl, hb⟩
          obtain ⟨⟨d0, d1, d2, d3, d4, d5, d6, d7⟩, -, -⟩ := (hA.later hb).eight
          go_wp2_with fail
          refine (HCH.out _ (HV.later hb)).mono ?_
          rintro e wb ⟨rfl, hb2⟩
          go_wp2
          go_ret
          exact ⟨by simp [*], bt (bt hl hb) hb2⟩
        · go_enter Tryz.func105, Tryz.ntmps105
          go_wp2_with fail
          refine (R1.out _).mono ?_
          rintro e w' ⟨rfl, rfl⟩
          go_wp2_with fail
          refine (R2.out _).mono ?_
          rintro e w' ⟨rfl, rfl⟩
          go_wp2_with fail
          refine (R3.out _).mono ?_
          rintro e w' ⟨rfl, rfl⟩
          go_wp2_with fail
          refine (R4.out _).mono ?_
          rintro e w' ⟨rfl, rfl⟩
          go_wp2_with fail
          refine (HLH.out _ HG).mono ?_
          rintro e wa ⟨rfl, hb⟩
          obtain ⟨⟨d0, d1, d2, d3, d4, d5, d6, d7⟩, -, -⟩ := (hA.later hb).eight
          go_wp2_with fail
          refine (HCH.out _ (HV.later hb)).mono ?_
          rintro e wb ⟨rfl, hb2⟩
          go_wp2
          go_ret
          exact ⟨by simp [*], bt (bt hl hb) hb2⟩
      · go_enter Tryz.func105, Tryz.ntmps105
        go_wp2_with fail
        refine (R1.out _).mono ?_
        rintro e w' ⟨rfl, rfl⟩
        go_wp2_with fail
        refine (R2.out _).mono ?_
        rintro e w' ⟨rfl, rfl⟩
        go_wp2_with fail
        refine (R3.out _).mono ?_
        rintro e w' ⟨rfl, rfl⟩
        go_wp2_with fail
        refine (R4.out _).mono ?_
        rintro e w' ⟨rfl, rfl⟩
        go_wp2_with fail
        refine (HLH.out _ HG).mono ?_
        rintro e wa ⟨rfl, hb⟩
        go_wp2
        go_ret
        exact ⟨by simp; intro h; exfalso; omega, bt hl hb⟩
theorem check_o (m c t ec : Int) (sd ok sp : Bool) (v : Value) (rs : List (Int × Int)) (w : World) (hv : Rgs w v rs) (hn : rs.length ≤ 17592186044416) (hG : Ord w) :
    Calls Tryz.prog 109 #[.agg #[.int .i64 m, .int .i64 c, .int .i64 t, .int .i64 ec, .bool sd, .bool ok, .bool sp, v]] w fun e w' => e = .returned (.int .i64 (codeO (mayO m c t ec sd ok sp rs))) ∧ Below w.heap.size w w' := by
  obtain ⟨⟨c0, c1, c2, c3, c4, c5, c6, c7⟩, -, -⟩ := (At.box w #[.int .i64 m, .int .i64 c, .int .i64 t, .int .i64 ec, .bool sd, .bool ok, .bool sp, v] 52).eight
  have hl := bel1 w (.cells #[.int .i64 m, .int .i64 c, .int .i64 t, .int .i64 ec, .bool sd, .bool ok, .bool sp, v] 52)
  have hM := may_any m c t ec sd ok sp v rs _ (hv.later hl) hn (hG.later hl)
  rcases Bool.eq_false_or_eq_true (mayO m c t ec sd ok sp rs) with h | h
  all_goals
    rw [h] at hM ⊢
    go_enter Tryz.func109, Tryz.ntmps109
    go_wp2_with fail
    refine hM.mono ?_
    rintro e wa ⟨rfl, hb⟩
    go_wp2
    go_ret
    exact ⟨rfl, bt hl hb⟩
end Go.Proofs.YthjbmloemmggaaaGreatDoor

namespace Go.Proofs.YthjbmloemmggaaaGreatDoor
open Go.RowKit
set_option maxRecDepth 100000
theorem mayO_t {m c t ec : Int} {sd ok sp : Bool} {rs : List (Int × Int)} (h : mayO m c t ec sd ok sp rs = true) : (0 ≤ m ∧ m ≤ 65535) ∧ (0 ≤ c ∧ c ≤ 14) ∧ (sd = true ∨ c = 0) ∧ (0 ≤ t ∧ t ≤ 4294967295) ∧ (0 ≤ ec ∧ ec ≤ 4294967295) ∧ (sp = true ∨ t = 0 ∧ ec = 0) ∧ longN m sd ok sp rs.length ≤ 40 ∧ ∀ r ∈ rs, rgB r = true := by
  unfold mayO fitsB numB at h
  simp only [Bool.and_eq_true, decide_eq_true_eq, Bool.or_eq_true, Bool.not_eq_true', List.any_eq_false] at h
  obtain ⟨⟨⟨⟨⟨⟨⟨h1, h2⟩, h3⟩, h4⟩, h5⟩, h6⟩, h7⟩, h8⟩ := h
  refine ⟨h1, h2, h3, h4, h5, h6, h7, fun r hr => ?_⟩
  have := h8 r hr
  simpa using this
theorem mayO_short {m c t ec : Int} {sd ok sp : Bool} {rs : List (Int × Int)} (h : mayO m c t ec sd ok sp rs = true) : rs.length ≤ 4 := by
  have h7 := (mayO_t h).2.2.2.2.2.2.1
  have := lenK_le m sd ok sp rs.length 5
  unfold longN at h7
  apply Classical.byContradiction
  intro hn
  have h5 : lenK m sd ok sp rs.length 5 ≤ 40 := by omega
  have h6 : rs.length * 8 + 2 ≤ lenK m sd ok sp rs.length 5 := by
    unfold lenK
    rw [if_pos (show 4 < 5 ∧ 0 < rs.length by omega)]
    omega
  omega

end Go.Proofs.YthjbmloemmggaaaGreatDoor

namespace Go.Proofs.YthjbmloemmggaaaGreatDoor
open Go.RowKit
set_option maxRecDepth 100000

theorem yield_at {ops : Array Oper} {tmps : Array Value} {j d : Nat} {b : Bool} (hd : (ops[j]?).bind (·.dst) = some d) (h : tmps.getD d undef = .bool b) : yielded ops tmps j = some b := by
  unfold yielded
  rw [hd]
  rw [Array.getD_eq_getD_getElem?] at h
  cases hq : tmps[d]? with
  | none => rw [hq] at h; cases h
  | some v => rw [hq] at h; simp at h; subst h; simp [hq]
theorem want_t {o : Oper} {ops : Array Oper} {tmps : Array Value} {j d : Nat} {b : Bool} (hg : o.guard = some (j, b)) (hd : (ops[j]?).bind (·.dst) = some d) (h : tmps.getD d undef = .bool b) : Region.wanted o (yielded ops tmps) = true := by
  unfold Region.wanted; rw [hg]; simp [yield_at hd h]
end Go.Proofs.YthjbmloemmggaaaGreatDoor

namespace Go.Proofs.YthjbmloemmggaaaGreatDoor
open Go.RowKit
set_option maxRecDepth 100000

theorem At.below {W x : World} {b B : Nat} {vs : Array Value} (h : At W b vs) (hb : Below B W x) (hlt : b < B) : At x b vs :=
  ⟨Nat.lt_of_lt_of_le h.1 hb.size, fun i v hi => ⟨(hb.cell (p := ⟨b, i, none⟩) hlt).trans (h.2 i v hi).1, (hb.frozen (p := ⟨b, i, none⟩) hlt).trans (h.2 i v hi).2⟩⟩
theorem own_set8 {w : World} {base : Nat} {e : TypeId} {size n : Nat} {v : Value} {xs : List Value} (h : w.ownsRow base e size v n xs) (b : Nat) (hb : b < base) (u0 u1 u2 u3 u4 u5 u6 u7 : Value) : ((((((((w.setCell ⟨b, 0, none⟩ u0).setCell ⟨b, 1, none⟩ u1).setCell ⟨b, 2, none⟩ u2).setCell ⟨b, 3, none⟩ u3).setCell ⟨b, 4, none⟩ u4).setCell ⟨b, 5, none⟩ u5).setCell ⟨b, 6, none⟩ u6).setCell ⟨b, 7, none⟩ u7).ownsRow base e size v n xs :=
  own_setCell (own_setCell (own_setCell (own_setCell (own_setCell (own_setCell (own_setCell (own_setCell h b 0 _ hb) b 1 _ hb) b 2 _ hb) b 3 _ hb) b 4 _ hb) b 5 _ hb) b 6 _ hb) b 7 _ hb
theorem Tryz.info180 : (Tryz.prog.info? 180).map (fun i => (i.zero, i.size, i.bytes)) = some (some (.agg #[.int .i64 0, .int .i64 0]), 2, 16) := by kernel_rfl
end Go.Proofs.YthjbmloemmggaaaGreatDoor
