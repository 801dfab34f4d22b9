/- Options as plain data: which may be, and how many bytes they have; and what is said of memory: a boxed struct, a row of ranges, the order of the kinds. -/
import Derived.Test.YtecoknenkjgmjabDoorMore
import Derived.Test.YtecoknenkjgmjabDoorTxtNum
import Derived.Test.YtecoknenkjgmjabDoorSeqCalls
import Derived.Laws.OwnMore
import Derived.Laws.AppendOwn
import Derived.Laws.AppendOwnNone
namespace Go.Proofs.YtecoknenkjgmjabDoor
open Go.RowKit
set_option maxRecDepth 100000

theorem bel1 (w : World) (o : Obj) : Below w.heap.size w (w.alloc o) := (Below.refl _ _).alloc (Nat.le_refl _) o
theorem later {w x : World} {a : Addr} {v : Value} (hb : Below w.heap.size w x) (h : w.cell? a = some v) : x.cell? a = some v := (hb.cell (World.block_lt_of_cell? _ _ h)).trans h
/-- A boxed struct: its cells, none of them frozen. -/
def At (W : World) (b : Nat) (vs : Array Value) : Prop := b < W.heap.size ∧ ∀ i v, vs[i]? = some v → W.cell? ⟨b, i, none⟩ = some v ∧ W.frozen? ⟨b, i, none⟩ = false
theorem At.box (w : World) (vs : Array Value) (t : TypeId) : At (w.alloc (.cells vs t)) w.heap.size vs := by
  refine ⟨by simp, fun i v h => ⟨?_, ?_⟩⟩
  · simp [World.cell?_alloc_new, h]
  · rw [frozen?_alloc_cells]; simp [World.frozen?]
theorem At.later {W x : World} {b : Nat} {vs : Array Value} (h : At W b vs) (hb : Below W.heap.size W x) : At x b vs :=
  ⟨Nat.lt_of_lt_of_le h.1 hb.size, fun i v hi => ⟨YtecoknenkjgmjabDoor.later hb (h.2 i v hi).1, (hb.frozen (p := ⟨b, i, none⟩) h.1).trans (h.2 i v hi).2⟩⟩
theorem At.box2 (w : World) (o : Obj) (vs : Array Value) (t : TypeId) : At ((w.alloc o).alloc (.cells vs t)) (w.heap.size + 1) vs := by have := At.box (w.alloc o) vs t; rwa [World.size_alloc] at this
theorem At.set {W : World} {b : Nat} {vs : Array Value} (h : At W b vs) (i : Nat) (u : Value) : At (W.setCell ⟨b, i, none⟩ u) b (vs.setIfInBounds i u) := by
  refine ⟨by rw [World.size_setCell]; exact h.1, fun j v hj => ?_⟩
  rw [World.frozen?_setCell]
  rw [Array.getElem?_setIfInBounds] at hj
  by_cases e : i = j
  · subst e
    rw [if_pos rfl] at hj
    by_cases l : i < vs.size
    · rw [if_pos l] at hj
      cases hj
      obtain ⟨c, f⟩ := h.2 i vs[i] (Array.getElem?_eq_getElem l)
      exact ⟨World.cell?_setCell_same _ _ _ c, f⟩
    · rw [if_neg l] at hj
      cases hj
  · rw [if_neg e] at hj
    obtain ⟨c, f⟩ := h.2 j v hj
    exact ⟨(World.cell?_setCell_other _ _ _ _ (by intro q; cases q; exact e rfl)).trans c, f⟩
theorem At.keep {W : World} {b c : Nat} {vs : Array Value} (h : At W c vs) (hne : b ≠ c) (i : Nat) (u : Value) : At (W.setCell ⟨b, i, none⟩ u) c vs := by
  refine ⟨by rw [World.size_setCell]; exact h.1, fun j v hj => ?_⟩
  rw [World.frozen?_setCell]
  obtain ⟨k, f⟩ := h.2 j v hj
  exact ⟨(World.cell?_setCell_other _ _ _ _ (by intro q; cases q; exact hne rfl)).trans k, f⟩
theorem At.eight {W : World} {b : Nat} {v0 v1 v2 v3 v4 v5 v6 v7 : Value} (h : At W b #[v0, v1, v2, v3, v4, v5, v6, v7]) : (W.cell? ⟨b, 0, none⟩ = some v0 ∧ W.cell? ⟨b, 1, none⟩ = some v1 ∧ W.cell? ⟨b, 2, none⟩ = some v2 ∧ W.cell? ⟨b, 3, none⟩ = some v3 ∧ W.cell? ⟨b, 4, none⟩ = some v4 ∧ W.cell? ⟨b, 5, none⟩ = some v5 ∧ W.cell? ⟨b, 6, none⟩ = some v6 ∧ W.cell? ⟨b, 7, none⟩ = some v7) ∧ (W.frozen? ⟨b, 0, none⟩ = false ∧ W.frozen? ⟨b, 1, none⟩ = false ∧ W.frozen? ⟨b, 2, none⟩ = false ∧ W.frozen? ⟨b, 3, none⟩ = false ∧ W.frozen? ⟨b, 4, none⟩ = false ∧ W.frozen? ⟨b, 5, none⟩ = false ∧ W.frozen? ⟨b, 6, none⟩ = false ∧ W.frozen? ⟨b, 7, none⟩ = false) ∧ b < W.heap.size :=
  ⟨⟨(h.2 0 _ rfl).1, (h.2 1 _ rfl).1, (h.2 2 _ rfl).1, (h.2 3 _ rfl).1, (h.2 4 _ rfl).1, (h.2 5 _ rfl).1, (h.2 6 _ rfl).1, (h.2 7 _ rfl).1⟩, ⟨(h.2 0 _ rfl).2, (h.2 1 _ rfl).2, (h.2 2 _ rfl).2, (h.2 3 _ rfl).2, (h.2 4 _ rfl).2, (h.2 5 _ rfl).2, (h.2 6 _ rfl).2, (h.2 7 _ rfl).2⟩, h.1⟩
theorem below8 {w W : World} {b : Nat} (h : Below w.heap.size w W) (hb : w.heap.size ≤ b) (v0 v1 v2 v3 v4 v5 v6 v7 : Value) : Below w.heap.size w ((((((((W.setCell ⟨b, 0, none⟩ v0).setCell ⟨b, 1, none⟩ v1).setCell ⟨b, 2, none⟩ v2).setCell ⟨b, 3, none⟩ v3).setCell ⟨b, 4, none⟩ v4).setCell ⟨b, 5, none⟩ v5).setCell ⟨b, 6, none⟩ v6).setCell ⟨b, 7, none⟩ v7) :=
  (((((((h.setCell hb _).setCell hb _).setCell hb _).setCell hb _).setCell hb _).setCell hb _).setCell hb _).setCell hb _
theorem At.set8 {W : World} {b : Nat} {v0 v1 v2 v3 v4 v5 v6 v7 : Value} (h : At W b #[v0, v1, v2, v3, v4, v5, v6, v7]) (u0 u1 u2 u3 u4 u5 u6 u7 : Value) : At ((((((((W.setCell ⟨b, 0, none⟩ u0).setCell ⟨b, 1, none⟩ u1).setCell ⟨b, 2, none⟩ u2).setCell ⟨b, 3, none⟩ u3).setCell ⟨b, 4, none⟩ u4).setCell ⟨b, 5, none⟩ u5).setCell ⟨b, 6, none⟩ u6).setCell ⟨b, 7, none⟩ u7) b #[u0, u1, u2, u3, u4, u5, u6, u7] := by
  have h0 : At _ b #[u0, v1, v2, v3, v4, v5, v6, v7] := h.set 0 u0
  have h1 : At _ b #[u0, u1, v2, v3, v4, v5, v6, v7] := h0.set 1 u1
  have h2 : At _ b #[u0, u1, u2, v3, v4, v5, v6, v7] := h1.set 2 u2
  have h3 : At _ b #[u0, u1, u2, u3, v4, v5, v6, v7] := h2.set 3 u3
  have h4 : At _ b #[u0, u1, u2, u3, u4, v5, v6, v7] := h3.set 4 u4
  have h5 : At _ b #[u0, u1, u2, u3, u4, u5, v6, v7] := h4.set 5 u5
  have h6 : At _ b #[u0, u1, u2, u3, u4, u5, u6, v7] := h5.set 6 u6
  have h7 : At _ b #[u0, u1, u2, u3, u4, u5, u6, u7] := h6.set 7 u7
  exact h7
theorem At.keep8 {W : World} {b c : Nat} {vs : Array Value} (h : At W c vs) (hne : b ≠ c) (u0 u1 u2 u3 u4 u5 u6 u7 : Value) : At ((((((((W.setCell ⟨b, 0, none⟩ u0).setCell ⟨b, 1, none⟩ u1).setCell ⟨b, 2, none⟩ u2).setCell ⟨b, 3, none⟩ u3).setCell ⟨b, 4, none⟩ u4).setCell ⟨b, 5, none⟩ u5).setCell ⟨b, 6, none⟩ u6).setCell ⟨b, 7, none⟩ u7) c vs :=
  (((((((h.keep hne 0 u0).keep hne 1 u1).keep hne 2 u2).keep hne 3 u3).keep hne 4 u4).keep hne 5 u5).keep hne 6 u6).keep hne 7 u7
theorem grownBy_setCell (w : World) (a : Addr) (v : Value) : w.grownBy (w.setCell a v) (some a.block) :=
  ⟨rfl, rfl, rfl, by simp [World.setCell], fun k _ hk => by
    have hne : a.block ≠ k := fun e => hk (by rw [e])
    simp only [World.setCell]
    simp [Array.getElem?_modify, hne]⟩
theorem own_setCell {w : World} {base : Nat} {e : TypeId} {size n : Nat} {v : Value} {xs : List Value} (h : w.ownsRow base e size v n xs) (b j : Nat) (u : Value) (hb : b < base) : (w.setCell ⟨b, j, none⟩ u).ownsRow base e size v n xs :=
  h.kept (grownBy_setCell w ⟨b, j, none⟩ u) (by
    cases hv : v.ownBlock with
    | none => exact .inl rfl
    | some k => exact .inr (fun e => by have := (h.lt k hv).1; simp at e; omega))
theorem own_mono {w : World} {base base' : Nat} {e : TypeId} {size n : Nat} {v : Value} {xs : List Value} (h : w.ownsRow base e size v n xs) (hb : base' ≤ base) : w.ownsRow base' e size v n xs := by
  refine ⟨h.1, ?_⟩
  rcases h.2 with h | ⟨g, cap, cur, hv, hg, rest⟩
  · exact .inl h
  · exact .inr ⟨g, cap, cur, hv, by omega, rest⟩
theorem own_later {w x : World} {base : Nat} {e : TypeId} {size n : Nat} {v : Value} {xs : List Value} (h : w.ownsRow base e size v n xs) (hb : Below w.heap.size w x) : x.ownsRow base e size v n xs := by
  refine ⟨h.1, ?_⟩
  rcases h.2 with h | ⟨g, cap, cur, hv, hg, hc, rest⟩
  · exact .inl h
  · refine .inr ⟨g, cap, cur, hv, hg, ?_, rest⟩
    rw [hb.block g (Array.getElem?_eq_some_iff.1 hc).1]
    exact hc

/-- The order of the kinds lies where the program's text lays it. -/
def Ord (w : World) : Prop := w.cell? ⟨0, 0, none⟩ = some (.int .i64 2) ∧ w.cell? ⟨0, 1, none⟩ = some (.int .i64 3) ∧ w.cell? ⟨0, 2, none⟩ = some (.int .i64 4) ∧ w.cell? ⟨0, 3, none⟩ = some (.int .i64 8) ∧ w.cell? ⟨0, 4, none⟩ = some (.int .i64 5)
theorem Ord.later {w x : World} (h : Ord w) (hb : Below w.heap.size w x) : Ord x :=
  ⟨YtecoknenkjgmjabDoor.later hb h.1, YtecoknenkjgmjabDoor.later hb h.2.1, YtecoknenkjgmjabDoor.later hb h.2.2.1, YtecoknenkjgmjabDoor.later hb h.2.2.2.1, YtecoknenkjgmjabDoor.later hb h.2.2.2.2⟩

/-- A row of ranges. -/
def Rgs (W : World) (v : Value) (rs : List (Int × Int)) : Prop :=
  ∃ (a : Option Addr) (cap : Nat), v = .slice a rs.length cap ∧ (rs.length ≤ cap ∧ (a = none → cap = 0)) ∧ (rs = [] ∨ ∃ b off, a = some ⟨b, off, none⟩ ∧ ∀ j r, rs[j]? = some r → W.cell? ⟨b, off + j * 2, none⟩ = some (.int .i64 r.1) ∧ W.cell? ⟨b, off + j * 2 + 1, none⟩ = some (.int .i64 r.2))
theorem Rgs.later {w x : World} {v : Value} {rs : List (Int × Int)} (h : Rgs w v rs) (hb : Below w.heap.size w x) : Rgs x v rs := by
  obtain ⟨a, cap, hv, hc, h⟩ := h
  refine ⟨a, cap, hv, hc, ?_⟩
  rcases h with h | ⟨b, off, ha, hx⟩
  · exact .inl h
  · exact .inr ⟨b, off, ha, fun j r hr => ⟨YtecoknenkjgmjabDoor.later hb (hx j r hr).1, YtecoknenkjgmjabDoor.later hb (hx j r hr).2⟩⟩
theorem Rgs.nil (W : World) : Rgs W (.slice none 0 0) [] := ⟨none, 0, rfl, ⟨Nat.le_refl _, fun _ => rfl⟩, .inl rfl⟩
def flatR (rs : List (Int × Int)) : List Value := rs.flatMap fun r => [.int .i64 r.1, .int .i64 r.2]
theorem flatR_snoc (rs : List (Int × Int)) (r : Int × Int) : flatR (rs ++ [r]) = flatR rs ++ [.int .i64 r.1, .int .i64 r.2] := by simp [flatR]
theorem flatR_len (rs : List (Int × Int)) : (flatR rs).length = rs.length * 2 := by
  induction rs with
  | nil => rfl
  | cons r rs ih =>
    have : flatR (r :: rs) = [.int .i64 r.1, .int .i64 r.2] ++ flatR rs := rfl
    rw [this, List.length_append, ih, List.length_cons]; simp; omega
theorem flatR_at (rs : List (Int × Int)) (j : Nat) (r : Int × Int) (h : rs[j]? = some r) : (flatR rs)[j * 2]? = some (.int .i64 r.1) ∧ (flatR rs)[j * 2 + 1]? = some (.int .i64 r.2) := by
  induction rs generalizing j with
  | nil => simp at h
  | cons q rs ih =>
    have e : flatR (q :: rs) = .int .i64 q.1 :: .int .i64 q.2 :: flatR rs := rfl
    rw [e]
    cases j with
    | zero =>
      simp only [List.getElem?_cons_zero, Option.some.injEq] at h
      subst h
      exact ⟨rfl, rfl⟩
    | succ j =>
      simp only [List.getElem?_cons_succ] at h
      rw [show (j + 1) * 2 = j * 2 + 1 + 1 by omega]
      simpa using ih j h
theorem flatR_one (rs : List (Int × Int)) : ∀ u ∈ flatR rs, u.oneCell' = true := by
  intro u hu
  obtain ⟨r, -, h⟩ := List.mem_flatMap.1 hu
  simp only [List.mem_cons, List.not_mem_nil, or_false] at h
  rcases h with rfl | rfl <;> rfl
theorem flatR_get {rs : List (Int × Int)} {j : Nat} {u : Value} (h : (flatR rs)[j]? = some u) : ∃ k r, rs[k]? = some r ∧ (j = k * 2 ∧ u = .int .i64 r.1 ∨ j = k * 2 + 1 ∧ u = .int .i64 r.2) := by
  have hj := (List.getElem?_eq_some_iff.1 h).1
  rw [flatR_len] at hj
  have hk : j / 2 < rs.length := by omega
  obtain ⟨r1, r2⟩ := flatR_at rs (j / 2) rs[j / 2] (List.getElem?_eq_getElem hk)
  refine ⟨j / 2, rs[j / 2], List.getElem?_eq_getElem hk, ?_⟩
  rcases Nat.mod_two_eq_zero_or_one j with e | e
  · left
    have e2 : j / 2 * 2 = j := by omega
    rw [e2, h] at r1
    exact ⟨e2.symm, Option.some.inj r1⟩
  · right
    have e2 : j / 2 * 2 + 1 = j := by omega
    rw [e2, h] at r2
    exact ⟨e2.symm, Option.some.inj r2⟩
theorem own_slice {w : World} {base n : Nat} {v : Value} {xs : List Value} (h : w.ownsRow base 77 2 v n xs) : ∃ o cap, v = .slice o n cap ∧ n ≤ cap ∧ (0 < n → ∃ g, o = some ⟨g, 0, none⟩) := by
  rcases h.2 with ⟨rfl, rfl⟩ | ⟨g, cap, cur, rfl, -, -, hn, -⟩
  · exact ⟨none, 0, rfl, Nat.le_refl _, fun h => absurd h (by omega)⟩
  · exact ⟨_, cap, rfl, hn, fun _ => ⟨g, rfl⟩⟩
theorem Rgs.of_own {w : World} {base : Nat} {v : Value} {rs : List (Int × Int)} (h : w.ownsRow base 77 2 v rs.length (flatR rs)) : Rgs w v rs := by
  rcases h.2 with ⟨rfl, h0⟩ | ⟨g, cap, cur, rfl, -, -, hn, -⟩
  · rw [List.eq_nil_of_length_eq_zero h0]; exact Rgs.nil w
  · refine ⟨some ⟨g, 0, none⟩, cap, rfl, ⟨hn, fun h => by cases h⟩, .inr ⟨g, 0, rfl, fun j r hr => ?_⟩⟩
    have hj := (List.getElem?_eq_some_iff.1 hr).1
    obtain ⟨r1, r2⟩ := flatR_at rs j r hr
    rw [Nat.zero_add]
    exact ⟨(h.cellAt (j * 2) (by omega)).trans r1, (h.cellAt (j * 2 + 1) (by omega)).trans r2⟩
/-- The first ranges of a row. -/
theorem Rgs.take {w : World} {a : Option Addr} {n cap : Nat} {rs : List (Int × Int)} (h : Rgs w (.slice a n cap) rs) (k : Nat) (hk : k ≤ rs.length) : Rgs w (.slice a k cap) (rs.take k) := by
  obtain ⟨a', cap', hv, hc, h⟩ := h
  cases hv
  have hl : (rs.take k).length = k := by rw [List.length_take]; omega
  refine ⟨a, cap, by rw [hl], ⟨by have := hc.1; omega, hc.2⟩, ?_⟩
  rcases h with rfl | ⟨b, off, ha, hx⟩
  · exact .inl (by simp)
  · exact .inr ⟨b, off, ha, fun j r hr => hx j r (by rw [List.getElem?_take] at hr; split at hr <;> simp_all)⟩

def fitsB (n most : Int) : Bool := decide (0 ≤ n ∧ n ≤ most)
def rgB (r : Int × Int) : Bool := numB r.1 && numB r.2 && !decide (r.1 = r.2)
def lenK (m : Int) (sd ok sp : Bool) (n k : Nat) : Nat :=
  n * 8 + (if 0 < k ∧ m ≠ 0 then 4 else 0) + (if 1 < k ∧ sd = true then 3 else 0) + (if 2 < k ∧ ok = true then 2 else 0) + (if 3 < k ∧ sp = true then 10 else 0) + (if 4 < k ∧ 0 < n then 2 else 0)
/-- How many bytes options have. -/
def longN (m : Int) (sd ok sp : Bool) (n : Nat) : Nat := (lenK m sd ok sp n 5 + 3) / 4 * 4
/-- Options that may be. -/
def mayO (m c t ec : Int) (sd ok sp : Bool) (rs : List (Int × Int)) : Bool :=
  fitsB m 65535 && fitsB c 14 && (sd || decide (c = 0)) && numB t && numB ec && (sp || (decide (t = 0) && decide (ec = 0))) && decide (longN m sd ok sp rs.length ≤ 40) && !(rs.any fun r => !rgB r)
def codeO (b : Bool) : Int := if b = true then 0 else 70
theorem codeO_t : codeO true = 0 := rfl
theorem codeO_f : codeO false = 70 := rfl
theorem lenK_le (m : Int) (sd ok sp : Bool) (n k : Nat) : n * 8 ≤ lenK m sd ok sp n k ∧ lenK m sd ok sp n k ≤ n * 8 + 21 := by
  unfold lenK
  refine ⟨by omega, ?_⟩
  repeat' split
  all_goals omega
theorem longN_le (m : Int) (sd ok sp : Bool) (n : Nat) : n * 8 ≤ longN m sd ok sp n ∧ longN m sd ok sp n ≤ n * 8 + 24 := by
  have := lenK_le m sd ok sp n 5
  unfold longN
  omega
end Go.Proofs.YtecoknenkjgmjabDoor
