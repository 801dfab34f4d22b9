/- Boxes, what turns; an estimator in plain numbers. -/
import Derived.Test.YtlhfmkobmaafcaaRows
import Derived.WalkKit
import Derived.WalkSpells
import Derived.Below
import Derived.WalkSmall
import Derived.Deep.Cut
import Derived.Deep.CutRange
import Derived.Deep.MidRow
import Derived.Deep.QuietTactic
import Derived.BigQuiet
import Derived.Deep.RegionWith
import Derived.OwnWalk
import Derived.Lib.MinMax
import Derived.Deep.RegionHeld3
namespace Go.Proofs.Ytlhfmkobmaafcaa
open Go.RowKit
set_option maxRecDepth 100000
set_option linter.unusedVariables false
set_option linter.unusedSimpArgs false

theorem bt {a b c : World} (h : Below a.heap.size a b) (k : Below b.heap.size b c) : Below a.heap.size a c := h.trans (k.mono h.size)
theorem bel1 (w : World) (o : Obj) : Below w.heap.size w (w.alloc o) := (Below.refl _ _).alloc (Nat.le_refl _) o
theorem later {w x : World} {a : Addr} {v : Value} (hb : Below w.heap.size w x) (h : w.cell? a = some v) : x.cell? a = some v := (hb.cell (World.block_lt_of_cell? _ _ h)).trans h
/-- A boxed struct: its cells, none of them frozen. -/
def At (W : World) (b : Nat) (vs : Array Value) : Prop := b < W.heap.size ∧ ∀ i v, vs[i]? = some v → W.cell? ⟨b, i, none⟩ = some v ∧ W.frozen? ⟨b, i, none⟩ = false
theorem At.box (w : World) (vs : Array Value) (t : TypeId) : At (w.alloc (.cells vs t)) w.heap.size vs := by
  refine ⟨by simp, fun i v h => ⟨?_, ?_⟩⟩
  · simp [World.cell?_alloc_new, h]
  · rw [frozen?_alloc_cells]; simp [World.frozen?]
theorem At.later {W x : World} {b : Nat} {vs : Array Value} (h : At W b vs) (hb : Below W.heap.size W x) : At x b vs :=
  ⟨Nat.lt_of_lt_of_le h.1 hb.size, fun i v hi => ⟨Ytlhfmkobmaafcaa.later hb (h.2 i v hi).1, (hb.frozen (p := ⟨b, i, none⟩) h.1).trans (h.2 i v hi).2⟩⟩
theorem At.box2 (w : World) (o : Obj) (vs : Array Value) (t : TypeId) : At ((w.alloc o).alloc (.cells vs t)) (w.heap.size + 1) vs := by have := At.box (w.alloc o) vs t; rwa [World.size_alloc] at this
/-- Of what was there nothing has turned but the blocks that S names. -/
structure Turn (S : Nat → Prop) (w w' : World) : Prop where
  os : w'.os = w.os
  tape : w'.tape = w.tape
  output : w'.output = w.output
  size : w.heap.size ≤ w'.heap.size
  block : ∀ k, k < w.heap.size → ¬ S k → w'.heap[k]? = w.heap[k]?
theorem Turn.refl {S : Nat → Prop} (w : World) : Turn S w w := ⟨rfl, rfl, rfl, Nat.le_refl _, fun _ _ _ => rfl⟩
theorem Turn.trans {S : Nat → Prop} {a b c : World} (h : Turn S a b) (k : Turn S b c) : Turn S a c :=
  ⟨k.os.trans h.os, k.tape.trans h.tape, k.output.trans h.output, Nat.le_trans h.size k.size, fun i hi hs => (k.block i (Nat.lt_of_lt_of_le hi h.size) hs).trans (h.block i hi hs)⟩
theorem Turn.of_below {S : Nat → Prop} {w w' : World} (h : Below w.heap.size w w') : Turn S w w' := ⟨h.os, h.tape, h.output, h.size, fun k hk _ => h.block k hk⟩
theorem Turn.of_grown {S : Nat → Prop} {w w' : World} {row : Option Nat} (h : w.grownBy w' row) (hS : ∀ j, row = some j → S j ∨ w.heap.size ≤ j) : Turn S w w' :=
  ⟨h.os, h.tape, h.output, h.size, fun k hk hs => h.block k hk (fun e => by rcases hS k e.symm with h | h; exact hs h; omega)⟩
theorem Turn.and {S : Nat → Prop} {w w1 w' : World} {row : Option Nat} (h : Turn S w w1) (k : w1.grownBy w' row) (hS : ∀ j, row = some j → S j ∨ w.heap.size ≤ j) : Turn S w w' :=
  ⟨k.os.trans h.os, k.tape.trans h.tape, k.output.trans h.output, Nat.le_trans h.size k.size, fun i hi hs => (k.block i (Nat.lt_of_lt_of_le hi h.size) (fun e => by rcases hS i e.symm with h | h; exact hs h; omega)).trans (h.block i hi hs)⟩
theorem Turn.later {S : Nat → Prop} {w w1 w' : World} (h : Turn S w w1) (k : Below w1.heap.size w1 w') : Turn S w w' := h.trans (Turn.of_below k)
/-- Two steps; what the second one turned lies among S, or is younger than the first world. -/
theorem Turn.step {S S' : Nat → Prop} {a b c : World} (h : Turn S a b) (k : Turn S' b c) (hS : ∀ j, S' j → S j ∨ a.heap.size ≤ j) : Turn S a c :=
  ⟨k.os.trans h.os, k.tape.trans h.tape, k.output.trans h.output, Nat.le_trans h.size k.size, fun i hi hs => (k.block i (Nat.lt_of_lt_of_le hi h.size) (fun e => by rcases hS i e with h | h; exact hs h; omega)).trans (h.block i hi hs)⟩
theorem Turn.below {S : Nat → Prop} {w w' : World} {n : Nat} (h : Turn S w w') (hn : n ≤ w.heap.size) (hS : ∀ k, k < n → ¬ S k) : Below n w w' :=
  ⟨h.os, h.tape, h.output, h.size, fun k hk => h.block k (Nat.lt_of_lt_of_le hk hn) (hS k hk)⟩
theorem Turn.mono {S S' : Nat → Prop} {w w' : World} (h : Turn S w w') (hS : ∀ k, S k → S' k) : Turn S' w w' :=
  ⟨h.os, h.tape, h.output, h.size, fun k hk hs => h.block k hk (fun e => hs (hS k e))⟩
theorem Turn.cell {S : Nat → Prop} {w w' : World} (h : Turn S w w') {b : Nat} (hb : b < w.heap.size) (hs : ¬ S b) (o : Nat) : w'.cell? ⟨b, o, none⟩ = w.cell? ⟨b, o, none⟩ := World.cell?_of_block (h.block b hb hs)
theorem Turn.undrew {S : Nat → Prop} {w w' : World} (h : Turn S w.drew w') : Turn S w w' := ⟨h.os, h.tape, h.output, h.size, h.block⟩
theorem Turn.undrewN {S : Nat → Prop} {w w' : World} {n : Nat} (h : Turn S (w.drewN n) w') : Turn S w w' := ⟨h.os, h.tape, h.output, h.size, h.block⟩
theorem bel_undrew {w w' : World} (h : Below w.drew.heap.size w.drew w') : Below w.heap.size w w' := ⟨h.os, h.tape, h.output, h.size, h.block⟩
theorem At.turn {S : Nat → Prop} {W x : World} {b : Nat} {vs : Array Value} (h : At W b vs) (ht : Turn S W x) (hs : ¬ S b) : At x b vs :=
  ⟨Nat.lt_of_lt_of_le h.1 ht.size, fun i v hv => by
    obtain ⟨a, b'⟩ := h.2 i v hv
    exact ⟨(ht.cell h.1 hs i).trans a, (World.frozen?_of_block (ht.block b h.1 hs)).trans b'⟩⟩
theorem At.set {W : World} {b : Nat} {vs : Array Value} (h : At W b vs) (i : Nat) (u : Value) : At (W.setCell ⟨b, i, none⟩ u) b (vs.setIfInBounds i u) := by
  refine ⟨by rw [World.size_setCell]; exact h.1, fun j v hj => ?_⟩
  rw [World.frozen?_setCell]
  rw [Array.getElem?_setIfInBounds] at hj
  by_cases e : i = j
  · subst e
    rw [if_pos rfl] at hj
    by_cases l : i < vs.size
    · rw [if_pos l] at hj
      cases hj
      obtain ⟨c, f⟩ := h.2 i vs[i] (Array.getElem?_eq_getElem l)
      exact ⟨World.cell?_setCell_same _ _ _ c, f⟩
    · rw [if_neg l] at hj
      cases hj
  · rw [if_neg e] at hj
    obtain ⟨c, f⟩ := h.2 j v hj
    exact ⟨(World.cell?_setCell_other _ _ _ _ (by intro q; cases q; exact e rfl)).trans c, f⟩
theorem turn_set (w : World) (b o : Nat) (u : Value) : Turn (fun j => j = b) w (w.setCell ⟨b, o, none⟩ u) :=
  ⟨rfl, rfl, rfl, by simp, fun k _ hk => heap_setCell_other w ⟨b, o, none⟩ k u (fun e => hk e)⟩
theorem At.seven {W : World} {b : Nat} {v0 v1 v2 v3 v4 v5 v6 : Value} (h : At W b #[v0, v1, v2, v3, v4, v5, v6]) : (W.cell? ⟨b, 0, none⟩ = some v0 ∧ W.cell? ⟨b, 1, none⟩ = some v1 ∧ W.cell? ⟨b, 2, none⟩ = some v2 ∧ W.cell? ⟨b, 3, none⟩ = some v3 ∧ W.cell? ⟨b, 4, none⟩ = some v4 ∧ W.cell? ⟨b, 5, none⟩ = some v5 ∧ W.cell? ⟨b, 6, none⟩ = some v6) ∧ (W.frozen? ⟨b, 0, none⟩ = false ∧ W.frozen? ⟨b, 1, none⟩ = false ∧ W.frozen? ⟨b, 2, none⟩ = false ∧ W.frozen? ⟨b, 3, none⟩ = false ∧ W.frozen? ⟨b, 4, none⟩ = false ∧ W.frozen? ⟨b, 5, none⟩ = false ∧ W.frozen? ⟨b, 6, none⟩ = false) :=
  ⟨⟨(h.2 0 _ rfl).1, (h.2 1 _ rfl).1, (h.2 2 _ rfl).1, (h.2 3 _ rfl).1, (h.2 4 _ rfl).1, (h.2 5 _ rfl).1, (h.2 6 _ rfl).1⟩, (h.2 0 _ rfl).2, (h.2 1 _ rfl).2, (h.2 2 _ rfl).2, (h.2 3 _ rfl).2, (h.2 4 _ rfl).2, (h.2 5 _ rfl).2, (h.2 6 _ rfl).2⟩
theorem At.three {W : World} {b : Nat} {v0 v1 v2 : Value} (h : At W b #[v0, v1, v2]) : (W.cell? ⟨b, 0, none⟩ = some v0 ∧ W.cell? ⟨b, 1, none⟩ = some v1 ∧ W.cell? ⟨b, 2, none⟩ = some v2) ∧ (W.frozen? ⟨b, 0, none⟩ = false ∧ W.frozen? ⟨b, 1, none⟩ = false ∧ W.frozen? ⟨b, 2, none⟩ = false) :=
  ⟨⟨(h.2 0 _ rfl).1, (h.2 1 _ rfl).1, (h.2 2 _ rfl).1⟩, (h.2 0 _ rfl).2, (h.2 1 _ rfl).2, (h.2 2 _ rfl).2⟩
/-! ### An estimator in plain numbers -/
/-- What samples have brought, and the wait, and how often it was doubled. -/
structure Es where
  so : Bool
  me : Int
  de : Int
  wa : Int
  ba : Int
def rV (le gr : Int) (s : Es) : Array Value := #[.int .i64 le, .int .i64 gr, .bool s.so, .int .i64 s.me, .int .i64 s.de, .int .i64 s.wa, .int .i64 s.ba]
def kV (le gr : Int) (s : Es) : Array Value := #[.int .i64 le, .int .i64 gr, .int .i64 s.wa, .int .i64 s.me, .int .i64 s.de, .int .i64 s.ba, .bool s.so]
def newOk (f l g : Int) : Bool := decide ((1 ≤ l ∧ l ≤ g) ∧ g ≤ 1048576 ∧ l ≤ f ∧ f ≤ g)
def tickOk (t : Int) : Bool := decide (0 ≤ t ∧ t ≤ 1048576)
def meS (so : Bool) (me t : Int) : Int := if so = true then me + (t - me / 8) else 8 * t
def deS (so : Bool) (me de t : Int) : Int := if so = true then de + (max (t - me / 8) (-(t - me / 8)) - de / 4) else 2 * t
def waS (le gr me de : Int) : Int := min (max (me / 8 + max de 1) le) gr
def backE (gr : Int) (s : Es) : Es := { s with wa := min (2 * s.wa) gr, ba := min (s.ba + 1) 32 }
def sampE (le gr t : Int) (s : Es) : Es := { so := true, me := meS s.so s.me t, de := deS s.so s.me s.de t, wa := waS le gr (meS s.so s.me t) (deS s.so s.me s.de t), ba := 0 }
def newE (f : Int) : Es := { so := false, me := 0, de := 0, wa := f, ba := 0 }
/-- What always holds of one. -/
structure Es.Fine (le gr : Int) (s : Es) : Prop where
  l0 : 1 ≤ le
  g1 : gr ≤ 1048576
  m0 : 0 ≤ s.me
  m1 : s.me ≤ 8388608
  d0 : 0 ≤ s.de
  d1 : s.de ≤ 4194307
  w0 : le ≤ s.wa
  w1 : s.wa ≤ gr
  b0 : 0 ≤ s.ba
  b1 : s.ba ≤ 32
  no : s.so = false → s.me = 0 ∧ s.de = 0
theorem fine_new {f l g : Int} (h : newOk f l g = true) : (newE f).Fine l g := by
  have h' := of_decide_eq_true h
  exact ⟨h'.1.1, h'.2.1, by simp [newE], by simp [newE], by simp [newE], by simp [newE], h'.2.2.1, h'.2.2.2, by simp [newE], by simp [newE], fun _ => ⟨rfl, rfl⟩⟩
theorem Es.Fine.me_ok {le gr t : Int} {s : Es} (h : s.Fine le gr) (ht : tickOk t = true) : 0 ≤ meS s.so s.me t ∧ meS s.so s.me t ≤ 8388608 := by
  have h' := of_decide_eq_true ht
  have := h.m0; have := h.m1
  unfold meS
  split <;> omega
theorem Es.Fine.de_ok {le gr t : Int} {s : Es} (h : s.Fine le gr) (ht : tickOk t = true) : 0 ≤ deS s.so s.me s.de t ∧ deS s.so s.me s.de t ≤ 4194307 := by
  have h' := of_decide_eq_true ht
  have := h.m0; have := h.m1; have := h.d0; have := h.d1
  unfold deS
  split <;> omega
theorem Es.Fine.samp {le gr t : Int} {s : Es} (h : s.Fine le gr) (ht : tickOk t = true) : (sampE le gr t s).Fine le gr := by
  have h1 := h.me_ok ht
  have h2 := h.de_ok ht
  have := h.w0; have := h.w1
  refine ⟨h.l0, h.g1, h1.1, h1.2, h2.1, h2.2, ?_, ?_, by simp [sampE], by simp [sampE], fun e => by cases e⟩
  · show le ≤ waS _ _ _ _
    unfold waS
    omega
  · show waS _ _ _ _ ≤ gr
    unfold waS
    omega
theorem Es.Fine.back {le gr : Int} {s : Es} (h : s.Fine le gr) : (backE gr s).Fine le gr := by
  have := h.w0; have := h.w1; have := h.l0; have := h.b0
  refine ⟨h.l0, h.g1, h.m0, h.m1, h.d0, h.d1, ?_, ?_, ?_, ?_, h.no⟩
  · show le ≤ min (2 * s.wa) gr
    omega
  · show min (2 * s.wa) gr ≤ gr
    omega
  · show 0 ≤ min (s.ba + 1) 32
    omega
  · show min (s.ba + 1) 32 ≤ 32
    omega
end Go.Proofs.Ytlhfmkobmaafcaa
