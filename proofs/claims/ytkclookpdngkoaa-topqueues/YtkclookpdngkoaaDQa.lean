/- Boxes, what turns, kinds of blocks; rows of bytes and of parts; a queue. -/
import Derived.Test.YtkclookpdngkoaaMore
import Derived.WalkKit
import Derived.WalkSpells
import Derived.Below
import Derived.WalkSmall
import Derived.Deep.Cut
import Derived.Deep.CutRange
import Derived.Deep.MidRow
import Derived.Deep.QuietTactic
import Derived.BigQuiet
import Derived.Deep.RegionWith
import Derived.OwnWalk
import Derived.Lib.MinMax
import Derived.Deep.RegionHeld3
import Derived.Lib.AppendStr
import Derived.Laws.IdiomStrings
import Derived.Maps.AppendAt
import Derived.Laws.AppendOwnNone
import Derived.Lib.SliceRun
import Derived.Laws.OwnMore
import Derived.Maps.Ext
namespace Go.Proofs.Ytkclookpdngkoaa.S
open Go.RowKit Go.Maps Go.Lib
set_option maxRecDepth 100000
set_option linter.unusedVariables false
set_option linter.unusedSimpArgs false

theorem bt {a b c : World} (h : Below a.heap.size a b) (k : Below b.heap.size b c) : Below a.heap.size a c := h.trans (k.mono h.size)
theorem bel1 (w : World) (o : Obj) : Below w.heap.size w (w.alloc o) := (Below.refl _ _).alloc (Nat.le_refl _) o
theorem later {w x : World} {a : Addr} {v : Value} (hb : Below w.heap.size w x) (h : w.cell? a = some v) : x.cell? a = some v := (hb.cell (World.block_lt_of_cell? _ _ h)).trans h
/-- A boxed struct: its cells, none of them frozen. -/
def At (W : World) (b : Nat) (vs : Array Value) : Prop := b < W.heap.size ∧ ∀ i v, vs[i]? = some v → W.cell? ⟨b, i, none⟩ = some v ∧ W.frozen? ⟨b, i, none⟩ = false
theorem At.box (w : World) (vs : Array Value) (t : TypeId) : At (w.alloc (.cells vs t)) w.heap.size vs := by
  refine ⟨by simp, fun i v h => ⟨?_, ?_⟩⟩
  · simp [World.cell?_alloc_new, h]
  · rw [frozen?_alloc_cells]; simp [World.frozen?]
theorem At.later {W x : World} {b : Nat} {vs : Array Value} (h : At W b vs) (hb : Below W.heap.size W x) : At x b vs :=
  ⟨Nat.lt_of_lt_of_le h.1 hb.size, fun i v hi => ⟨Ytkclookpdngkoaa.S.later hb (h.2 i v hi).1, (hb.frozen (p := ⟨b, i, none⟩) h.1).trans (h.2 i v hi).2⟩⟩
theorem At.box2 (w : World) (o : Obj) (vs : Array Value) (t : TypeId) : At ((w.alloc o).alloc (.cells vs t)) (w.heap.size + 1) vs := by have := At.box (w.alloc o) vs t; rwa [World.size_alloc] at this
structure Turn (S : Nat → Prop) (w w' : World) : Prop where
  os : w'.os = w.os
  tape : w'.tape = w.tape
  output : w'.output = w.output
  size : w.heap.size ≤ w'.heap.size
  block : ∀ k, k < w.heap.size → ¬ S k → w'.heap[k]? = w.heap[k]?
theorem Turn.refl {S : Nat → Prop} (w : World) : Turn S w w := ⟨rfl, rfl, rfl, Nat.le_refl _, fun _ _ _ => rfl⟩
theorem Turn.trans {S : Nat → Prop} {a b c : World} (h : Turn S a b) (k : Turn S b c) : Turn S a c :=
  ⟨k.os.trans h.os, k.tape.trans h.tape, k.output.trans h.output, Nat.le_trans h.size k.size, fun i hi hs => (k.block i (Nat.lt_of_lt_of_le hi h.size) hs).trans (h.block i hi hs)⟩
theorem Turn.of_below {S : Nat → Prop} {w w' : World} (h : Below w.heap.size w w') : Turn S w w' := ⟨h.os, h.tape, h.output, h.size, fun k hk _ => h.block k hk⟩
theorem Turn.of_grown {S : Nat → Prop} {w w' : World} {row : Option Nat} (h : w.grownBy w' row) (hS : ∀ j, row = some j → S j ∨ w.heap.size ≤ j) : Turn S w w' :=
  ⟨h.os, h.tape, h.output, h.size, fun k hk hs => h.block k hk (fun e => by rcases hS k e.symm with h | h; exact hs h; omega)⟩
theorem Turn.and {S : Nat → Prop} {w w1 w' : World} {row : Option Nat} (h : Turn S w w1) (k : w1.grownBy w' row) (hS : ∀ j, row = some j → S j ∨ w.heap.size ≤ j) : Turn S w w' :=
  ⟨k.os.trans h.os, k.tape.trans h.tape, k.output.trans h.output, Nat.le_trans h.size k.size, fun i hi hs => (k.block i (Nat.lt_of_lt_of_le hi h.size) (fun e => by rcases hS i e.symm with h | h; exact hs h; omega)).trans (h.block i hi hs)⟩
theorem Turn.later {S : Nat → Prop} {w w1 w' : World} (h : Turn S w w1) (k : Below w1.heap.size w1 w') : Turn S w w' := h.trans (Turn.of_below k)
/-- Two steps; what the second one turned lies among S, or is younger than the first world. -/
theorem Turn.step {S S' : Nat → Prop} {a b c : World} (h : Turn S a b) (k : Turn S' b c) (hS : ∀ j, S' j → S j ∨ a.heap.size ≤ j) : Turn S a c :=
  ⟨k.os.trans h.os, k.tape.trans h.tape, k.output.trans h.output, Nat.le_trans h.size k.size, fun i hi hs => (k.block i (Nat.lt_of_lt_of_le hi h.size) (fun e => by rcases hS i e with h | h; exact hs h; omega)).trans (h.block i hi hs)⟩
theorem Turn.below {S : Nat → Prop} {w w' : World} {n : Nat} (h : Turn S w w') (hn : n ≤ w.heap.size) (hS : ∀ k, k < n → ¬ S k) : Below n w w' :=
  ⟨h.os, h.tape, h.output, h.size, fun k hk => h.block k (Nat.lt_of_lt_of_le hk hn) (hS k hk)⟩
theorem Turn.mono {S S' : Nat → Prop} {w w' : World} (h : Turn S w w') (hS : ∀ k, S k → S' k) : Turn S' w w' :=
  ⟨h.os, h.tape, h.output, h.size, fun k hk hs => h.block k hk (fun e => hs (hS k e))⟩
theorem Turn.cell {S : Nat → Prop} {w w' : World} (h : Turn S w w') {b : Nat} (hb : b < w.heap.size) (hs : ¬ S b) (o : Nat) : w'.cell? ⟨b, o, none⟩ = w.cell? ⟨b, o, none⟩ := World.cell?_of_block (h.block b hb hs)
theorem Turn.undrew {S : Nat → Prop} {w w' : World} (h : Turn S w.drew w') : Turn S w w' := ⟨h.os, h.tape, h.output, h.size, h.block⟩
theorem Turn.undrewN {S : Nat → Prop} {w w' : World} {n : Nat} (h : Turn S (w.drewN n) w') : Turn S w w' := ⟨h.os, h.tape, h.output, h.size, h.block⟩
theorem bel_undrew {w w' : World} (h : Below w.drew.heap.size w.drew w') : Below w.heap.size w w' := ⟨h.os, h.tape, h.output, h.size, h.block⟩
theorem At.turn {S : Nat → Prop} {W x : World} {b : Nat} {vs : Array Value} (h : At W b vs) (ht : Turn S W x) (hs : ¬ S b) : At x b vs :=
  ⟨Nat.lt_of_lt_of_le h.1 ht.size, fun i v hv => by
    obtain ⟨a, b'⟩ := h.2 i v hv
    exact ⟨(ht.cell h.1 hs i).trans a, (World.frozen?_of_block (ht.block b h.1 hs)).trans b'⟩⟩
theorem At.set {W : World} {b : Nat} {vs : Array Value} (h : At W b vs) (i : Nat) (u : Value) : At (W.setCell ⟨b, i, none⟩ u) b (vs.setIfInBounds i u) := by
  refine ⟨by rw [World.size_setCell]; exact h.1, fun j v hj => ?_⟩
  rw [World.frozen?_setCell]
  rw [Array.getElem?_setIfInBounds] at hj
  by_cases e : i = j
  · subst e
    rw [if_pos rfl] at hj
    by_cases l : i < vs.size
    · rw [if_pos l] at hj
      cases hj
      obtain ⟨c, f⟩ := h.2 i vs[i] (Array.getElem?_eq_getElem l)
      exact ⟨World.cell?_setCell_same _ _ _ c, f⟩
    · rw [if_neg l] at hj
      cases hj
  · rw [if_neg e] at hj
    obtain ⟨c, f⟩ := h.2 j v hj
    exact ⟨(World.cell?_setCell_other _ _ _ _ (by intro q; cases q; exact e rfl)).trans c, f⟩
theorem turn_set (w : World) (b o : Nat) (u : Value) : Turn (fun j => j = b) w (w.setCell ⟨b, o, none⟩ u) :=
  ⟨rfl, rfl, rfl, by simp, fun k _ hk => heap_setCell_other w ⟨b, o, none⟩ k u (fun e => hk e)⟩

/-! ### Rows of one's own, over a set of blocks -/
abbrev Bk := Nat → Prop
def UpR (R : Bk) (w : World) : Prop := ∀ k, w.heap.size ≤ k → R k
theorem UpR.up {R : Bk} {w w' : World} (h : UpR R w) (hs : w.heap.size ≤ w'.heap.size) : UpR R w' := fun k hk => h k (Nat.le_trans hs hk)
def OwnP (w : World) (R : Bk) (e : TypeId) (size : Nat) (v : Value) (n : Nat) (xs : List Value) : Prop := xs.length = n * size ∧ ((v = .slice none 0 0 ∧ n = 0) ∨ ∃ g cap cur, v = .slice (some ⟨g, 0, none⟩) n cap ∧ R g ∧ w.heap[g]? = some (.cells cur e (0, 0)) ∧ n ≤ cap ∧ cap ≤ maxLen ∧ cur.size = cap * size ∧ cur.toList.take (n * size) = xs)
theorem OwnP.nil (w : World) (R : Bk) (e : TypeId) (size : Nat) : OwnP w R e size (.slice none 0 0) 0 [] := ⟨by simp, Or.inl ⟨rfl, rfl⟩⟩
theorem OwnP.own {w : World} {R : Bk} {e : TypeId} {size : Nat} {v : Value} {n : Nat} {xs : List Value} (h : OwnP w R e size v n xs) : w.ownsRow 0 e size v n xs :=
  ⟨h.1, h.2.imp id (fun ⟨g, cap, cur, hv, hg, r⟩ => ⟨g, cap, cur, hv, Nat.zero_le _, r⟩)⟩
theorem OwnP.of {w : World} {R : Bk} {b : Nat} {e : TypeId} {size : Nat} {v : Value} {n : Nat} {xs : List Value} (h : w.ownsRow b e size v n xs) (hR : ∀ k, v.ownBlock = some k → R k) : OwnP w R e size v n xs :=
  ⟨h.1, h.2.imp id (fun ⟨g, cap, cur, hv, hg, r⟩ => ⟨g, cap, cur, hv, hR g (by rw [hv]; rfl), r⟩)⟩
theorem OwnP.of_ge {w : World} {R : Bk} {b : Nat} {e : TypeId} {size : Nat} {v : Value} {n : Nat} {xs : List Value} (h : w.ownsRow b e size v n xs) (hR : ∀ k, b ≤ k → R k) : OwnP w R e size v n xs :=
  ⟨h.1, h.2.imp id (fun ⟨g, cap, cur, hv, hg, r⟩ => ⟨g, cap, cur, hv, hR g hg, r⟩)⟩
theorem OwnP.blk {w : World} {R : Bk} {e : TypeId} {size : Nat} {v : Value} {n : Nat} {xs : List Value} (h : OwnP w R e size v n xs) : ∀ k, v.ownBlock = some k → R k := by
  intro k hk
  rcases h.2 with ⟨rfl, -⟩ | ⟨g, cap, cur, rfl, hg, -⟩
  · cases hk
  · cases hk; exact hg
theorem OwnP.cells {w : World} {R : Bk} {e : TypeId} {size : Nat} {v : Value} {n : Nat} {xs : List Value} (h : OwnP w R e size v n xs) {g : Nat} (hg : v.ownBlock = some g) : ∀ j u, xs[j]? = some u → w.cell? ((⟨g, 0, none⟩ : Addr).add j) = some u := h.own.cells (g := g) hg
/-- A row that was appended to. -/
theorem OwnP.grow {w w' : World} {R : Bk} {e : TypeId} {size : Nat} {v v' : Value} {n n' : Nat} {xs xs' : List Value} (h : OwnP w R e size v n xs) (h' : w'.ownsRow 0 e size v' n' xs') (hl : v'.ownBlock = v.ownBlock ∨ v'.ownBlock = some w.heap.size) (hR : UpR R w) : OwnP w' R e size v' n' xs' :=
  OwnP.of h' (fun k hk => by
    rcases hl with e | e
    · exact h.blk k (e ▸ hk)
    · rw [e] at hk; cases hk; exact hR _ (Nat.le_refl _))
theorem OwnP.stored {w : World} {R : Bk} {e : TypeId} {size g n cap : Nat} {xs : List Value} (h : OwnP w R e size (.slice (some ⟨g, 0, none⟩) n cap) n xs) (j : Nat) (u : Value) : OwnP (w.setCell ⟨g, j, none⟩ u) R e size (.slice (some ⟨g, 0, none⟩) n cap) n (xs.set j u) := OwnP.of (World.ownsRow.stored h.own j u).1 h.blk
/-! ### What kind of block it is -/
def Kd (w : World) (k : Nat) (t : TypeId) : Prop := ∃ c fz, w.heap[k]? = some (.cells c t fz)
theorem Kd.lt {w : World} {k : Nat} {t : TypeId} (h : Kd w k t) : k < w.heap.size := by obtain ⟨c, fz, h⟩ := h; exact (Array.getElem?_eq_some_iff.1 h).1
theorem Kd.one {w : World} {k : Nat} {t u : TypeId} (h : Kd w k t) (g : Kd w k u) : t = u := by
  obtain ⟨c, fz, h⟩ := h
  obtain ⟨c', fz', g⟩ := g
  rw [h] at g
  cases g
  rfl
theorem Kd.box (w : World) (vs : Array Value) (t : TypeId) : Kd (w.alloc (.cells vs t)) w.heap.size t := ⟨vs, (0, 0), by show (w.heap.push (Obj.cells vs t))[w.heap.size]? = some _; exact Array.getElem?_push_size⟩
theorem Kd.later {w x : World} {k : Nat} {t : TypeId} (h : Kd w k t) (hb : Below w.heap.size w x) : Kd x k t := by
  have hl := h.lt
  obtain ⟨c, fz, h⟩ := h
  exact ⟨c, fz, (hb.block k hl).trans h⟩
theorem Kd.set {w : World} {k : Nat} {t : TypeId} (h : Kd w k t) (a : Addr) (u : Value) : Kd (w.setCell a u) k t := by
  obtain ⟨c, fz, h⟩ := h
  by_cases e : a.block = k
  · subst e
    refine ⟨if a.spot.isSome then c else c.setIfInBounds a.off u, fz, ?_⟩
    show (w.heap.modify a.block _)[a.block]? = _
    rw [Array.getElem?_modify, if_pos rfl, h]
    rfl
  · exact ⟨c, fz, (heap_setCell_other w a k u (fun q => e q.symm)).trans h⟩
/-- Only blocks of these kinds, from R on, have turned. -/
def TY (ts : List TypeId) (R : Bk) (w w' : World) : Prop := Turn (fun k => R k ∧ ∃ t ∈ ts, Kd w k t) w w'
abbrev TK := TY [53, 5, 58]
abbrev TD := TY [45, 4]
theorem TY.refl {ts : List TypeId} {R : Bk} (w : World) : TY ts R w w := Turn.refl w
theorem TY.of_below {ts : List TypeId} {R : Bk} {w w' : World} (h : Below w.heap.size w w') : TY ts R w w' := Turn.of_below h
theorem TY.kd {ts : List TypeId} {R : Bk} {w w' : World} (h : TY ts R w w') {k : Nat} {t : TypeId} (hk : Kd w k t) (ht : t ∉ ts) : w'.heap[k]? = w.heap[k]? :=
  h.block k hk.lt (fun ⟨_, u, hu, hq⟩ => ht (by rw [hk.one hq]; exact hu))
theorem TY.trans {ts : List TypeId} {R : Bk} {a b c : World} (h : TY ts R a b) (k : TY ts R b c) : TY ts R a c := by
  refine ⟨k.os.trans h.os, k.tape.trans h.tape, k.output.trans h.output, Nat.le_trans h.size k.size, fun i hi hs => ?_⟩
  have e := h.block i hi hs
  refine (k.block i (Nat.lt_of_lt_of_le hi h.size) ?_).trans e
  rintro ⟨h1, t, ht, c, fz, hc⟩
  exact hs ⟨h1, t, ht, c, fz, by rw [← e]; exact hc⟩
theorem TY.low {ts : List TypeId} {R R' : Bk} {w w' : World} (h : TY ts R w w') (hr : ∀ k, R k → R' k) : TY ts R' w w' :=
  ⟨h.os, h.tape, h.output, h.size, fun i hi hs => h.block i hi (fun ⟨q, r⟩ => hs ⟨hr i q, r⟩)⟩
theorem TY.below {ts : List TypeId} {R : Bk} {w w' : World} {b : Nat} (h : TY ts R w w') (hb : b ≤ w.heap.size) (hr : ∀ k, R k → b ≤ k) : Below b w w' :=
  Turn.below h hb (fun k hk ⟨q, _⟩ => Nat.not_lt.2 (hr k q) hk)
theorem TY.later {ts : List TypeId} {R : Bk} {w w1 w' : World} (h : TY ts R w w1) (k : Below w1.heap.size w1 w') : TY ts R w w' := h.trans (TY.of_below k)
theorem TY.set {ts : List TypeId} {R : Bk} {w : World} {k : Nat} {t : TypeId} (hk : Kd w k t) (ht : t ∈ ts) (hr : R k) (o : Nat) (u : Value) : TY ts R w (w.setCell ⟨k, o, none⟩ u) :=
  (turn_set w k o u).mono (fun j hj => by rw [hj]; exact ⟨hr, t, ht, hk⟩)
theorem TY.grown {ts : List TypeId} {R : Bk} {w w' : World} {row : Option Nat} (h : w.grownBy w' row) (hk : ∀ k, row = some k → R k ∧ ∃ t ∈ ts, Kd w k t) : TY ts R w w' :=
  Turn.of_grown h (fun j hj => Or.inl (hk j hj))
theorem TY.undrew {ts : List TypeId} {R : Bk} {w w' : World} (h : TY ts R w.drew w') : TY ts R w w' := ⟨h.os, h.tape, h.output, h.size, h.block⟩
theorem TY.undrewN {ts : List TypeId} {R : Bk} {n : Nat} {w w' : World} (h : TY ts R (w.drewN n) w') : TY ts R w w' := ⟨h.os, h.tape, h.output, h.size, h.block⟩
theorem TY.at {ts : List TypeId} {R : Bk} {w w' : World} {b : Nat} {t : TypeId} {vs : Array Value} (h : TY ts R w w') (hA : At w b vs) (hk : Kd w b t) (ht : t ∉ ts) : At w' b vs :=
  hA.turn h (fun ⟨_, u, hu, hq⟩ => ht (by rw [hk.one hq]; exact hu))
theorem TY.low_at {ts : List TypeId} {R : Bk} {w w' : World} {b : Nat} {vs : Array Value} (h : TY ts R w w') (hA : At w b vs) (hb : ¬ R b) : At w' b vs :=
  hA.turn h (fun ⟨q, _⟩ => hb q)
theorem Kd.turn {ts : List TypeId} {R : Bk} {w w' : World} {k : Nat} {t : TypeId} (hk : Kd w k t) (h : TY ts R w w') (ht : t ∉ ts ∨ ¬ R k) : Kd w' k t := by
  have e : w'.heap[k]? = w.heap[k]? := by
    rcases ht with ht | ht
    · exact h.kd hk ht
    · exact h.block k hk.lt (fun ⟨q, _⟩ => ht q)
  obtain ⟨c, fz, hk⟩ := hk
  exact ⟨c, fz, e.trans hk⟩
theorem row_turn {S : Nat → Prop} {w w' : World} {base : Bk} {e : TypeId} {size : Nat} {v : Value} {n : Nat} {xs : List Value} (h : OwnP w base e size v n xs) (ht : Turn S w w') (hs : ∀ k, v.ownBlock = some k → ¬ S k) : OwnP w' base e size v n xs := by
  refine ⟨h.1, ?_⟩
  rcases h.2 with h2 | ⟨g, cap, cur, hv, hg, hb, h3⟩
  · exact Or.inl h2
  · exact Or.inr ⟨g, cap, cur, hv, hg, (ht.block g (Array.getElem?_eq_some_iff.1 hb).1 (hs g (by rw [hv]; rfl))).trans hb, h3⟩
theorem row_kd {w : World} {base : Bk} {e : TypeId} {size : Nat} {v : Value} {n : Nat} {xs : List Value} (h : OwnP w base e size v n xs) : ∀ k, v.ownBlock = some k → base k ∧ Kd w k e := by
  intro k hk
  rcases h.2 with ⟨rfl, -⟩ | ⟨g, cap, cur, rfl, hg, hb, -⟩
  · cases hk
  · cases hk
    exact ⟨hg, cur, (0, 0), hb⟩
theorem row_keep {ts : List TypeId} {R : Bk} {w w' : World} {base : Bk} {e : TypeId} {size : Nat} {v : Value} {n : Nat} {xs : List Value} (h : OwnP w base e size v n xs) (ht : TY ts R w w') (he : e ∉ ts) : OwnP w' base e size v n xs :=
  row_turn h ht (fun k hk ⟨_, u, hu, hq⟩ => he (by rw [((row_kd h) k hk).2.one hq]; exact hu))
theorem row_later {w w' : World} {base : Bk} {e : TypeId} {size : Nat} {v : Value} {n : Nat} {xs : List Value} (h : OwnP w base e size v n xs) (hb : Below w.heap.size w w') : OwnP w' base e size v n xs :=
  row_turn (S := fun _ => False) h (Turn.of_below hb) (fun _ _ h => h)
theorem row_low {w : World} {base b' : Bk} {e : TypeId} {size : Nat} {v : Value} {n : Nat} {xs : List Value} (h : OwnP w base e size v n xs) (hb : ∀ k, base k → b' k) : OwnP w b' e size v n xs := ⟨h.1, h.2.imp id (fun ⟨g, cap, cur, hv, hg, r⟩ => ⟨g, cap, cur, hv, hb g hg, r⟩)⟩
theorem row_set {w : World} {base : Bk} {e : TypeId} {size : Nat} {v : Value} {n : Nat} {xs : List Value} (h : OwnP w base e size v n xs) {b : Nat} {t : TypeId} (hk : Kd w b t) (ht : t ≠ e) (o : Nat) (u : Value) : OwnP (w.setCell ⟨b, o, none⟩ u) base e size v n xs :=
  row_turn h (turn_set w b o u) (fun k hk' e' => ht (by subst e'; exact hk.one ((row_kd h) k hk').2))

/-! ### Rows of bytes -/
def byV (b : UInt8) : Value := .int .u8 (b.toNat : Int)
def strB (l : List UInt8) : ByteArray := ⟨l.toArray⟩
theorem strB_size (l : List UInt8) : (strB l).size = l.length := by simp [strB, ByteArray.size]
theorem strCells_strB (l : List UInt8) : strCells (strB l) = l.map byV := by simp [strCells, strB, byV]
theorem strB_list (s : ByteArray) : strB s.data.toList = s := by simp [strB]
def BO (w : World) (base : Bk) (v : Value) (bs : List UInt8) : Prop := OwnP w base 5 1 v bs.length (bs.map byV)
theorem BO.nil (w : World) (base : Bk) : BO w base (.slice none 0 0) [] := OwnP.nil _ _ _ _
theorem info5 : (Try.prog.info? 5).map (fun i => (i.zero, i.size, i.bytes)) = some (some (.int .u8 0), 1, 1) := by kernel_rfl
theorem BO.shape {w : World} {base : Bk} {v : Value} {bs : List UInt8} (h : BO w base v bs) : ∃ a c, v = .slice a bs.length c ∧ (a = none → bs = []) ∧ bs.length ≤ c ∧ (a = none → c = 0) := by
  rcases h.2 with ⟨rfl, h0⟩ | ⟨g, cap, cur, rfl, hg, hb, h1, h2⟩
  · rw [h0]; exact ⟨none, 0, rfl, fun _ => List.length_eq_zero_iff.1 h0, Nat.le_refl _, fun _ => rfl⟩
  · exact ⟨some ⟨g, 0, none⟩, cap, rfl, (fun e => by cases e), h1, (fun e => by cases e)⟩
theorem BO.cell {w : World} {base : Bk} {g : Nat} {n c : Nat} {bs : List UInt8} (h : BO w base (.slice (some ⟨g, 0, none⟩) n c) bs) {j : Nat} {b : UInt8} (hj : bs[j]? = some b) : w.cell? ⟨g, j, none⟩ = some (byV b) := by
  have := h.cells (g := g) rfl j (byV b) (by rw [List.getElem?_map, hj]; rfl)
  rw [Addr.add_mid] at this
  simpa using this
/-- 's[i:j]' of bytes, and as a string. -/
theorem cut_bytes {w : World} {base : Bk} {v : Value} {bs : List UInt8} (h : BO w base v bs) {i j : Nat} (hij : i ≤ j) (hj : j ≤ bs.length) :
    ∃ v', (∀ W, (Instr.slice 50 v (some (.int .i64 (i : Int))) (some (.int .i64 (j : Int))) none).run Try.prog W = .ok v' W) ∧ (∀ W, (∀ g, v.ownBlock = some g → W.heap[g]? = w.heap[g]?) → (convert 50 9 v').run Try.prog W = .ok (.string (strB ((bs.drop i).take (j - i)))) W) := by
  obtain ⟨a, c, rfl, h0, hc, hcz⟩ := h.shape
  cases a with
  | none =>
    obtain rfl := h0 rfl
    obtain rfl := hcz rfl
    obtain rfl : j = 0 := by simpa using hj
    obtain rfl : i = 0 := by omega
    refine ⟨.slice none 0 0, fun W => by simp [Instr.slice, Instr.sliceBounds, Instr.sliceBound, asIntOf, run_underlying Try.underlying50, Result.andThen], fun W _ => ?_⟩
    have := run_convert_bytes_string (P := Try.prog) W 50 9 5 none 0 0 Try.underlying50 Try.underlying5 Try.underlying9
    rw [this]
    rfl
  | some A =>
    obtain ⟨g, cap, cur, hv, hg, hb, h1, h2, h3, h4⟩ : ∃ g cap cur, (Value.slice (some A) bs.length c) = .slice (some ⟨g, 0, none⟩) bs.length cap ∧ base g ∧ w.heap[g]? = some (.cells cur 5 (0, 0)) ∧ bs.length ≤ cap ∧ cap ≤ maxLen ∧ cur.size = cap * 1 ∧ cur.toList.take (bs.length * 1) = bs.map byV := by
      rcases h.2 with ⟨e, -⟩ | h'
      · cases e
      · exact h'
    cases hv
    refine ⟨.slice (if c = i then some ⟨g, 0, none⟩ else some ⟨g, i, none⟩) (j - i) (c - i), fun W => ?_, fun W hW => ?_⟩
    · (simp [Instr.slice, Instr.sliceBounds, Instr.sliceBound, asIntOf, run_underlying Try.underlying50, Try.sizeOf5, Result.andThen, Addr.add_mid, show i ≤ c by omega, show i ≤ bs.length by omega, show j ≤ c by omega, hij]; try (split <;> simp [Addr.add_mid, *]))
    · have hcell : ∀ k (hk : k < ((bs.drop i).take (j - i)).length), W.cell? ⟨g, i + k, none⟩ = some (.int .u8 ((((bs.drop i).take (j - i))[k]).toNat : Int)) := by
        intro k hk
        have hk' := hk
        rw [List.length_take, List.length_drop] at hk'
        rw [World.cell?_of_block (w := w) (hW g rfl)]
        refine (BO.cell h (j := i + k) (b := ((bs.drop i).take (j - i))[k]) ?_).trans rfl
        rw [List.getElem_take, List.getElem_drop]
        exact List.getElem?_eq_getElem (by omega)
      have hlen : ((bs.drop i).take (j - i)).length = j - i := by rw [List.length_take, List.length_drop]; omega
      by_cases hci : c = i
      · have e0 : j - i = 0 := by omega
        rw [if_pos hci, e0]
        have := run_convert_bytes_back (P := Try.prog) W 50 9 5 ⟨g, 0, none⟩ (c - i) [] Try.underlying50 Try.underlying5 Try.underlying9 (fun j hj => absurd hj (Nat.not_lt_zero _))
        simpa [strB] using this
      · rw [if_neg hci]
        have := run_convert_bytes_back (P := Try.prog) W 50 9 5 ⟨g, i, none⟩ (c - i) ((bs.drop i).take (j - i)) Try.underlying50 Try.underlying5 Try.underlying9 (fun k hk => by rw [Addr.add_mid]; exact hcell k hk)
        rw [hlen] at this
        exact this

/-! ### Rows of parts -/
abbrev Pt := Nat × Nat
def enP (e : Pt) : List Value := [.int .i64 (e.1 : Int), .int .i64 (e.2 : Int)]
def PO (w : World) (base : Bk) (v : Value) (L : List Pt) : Prop := OwnP w base 58 2 v L.length (L.flatMap enP)
theorem PO.nil (w : World) (base : Bk) : PO w base (.slice none 0 0) [] := OwnP.nil _ _ _ _
theorem infoP : (Try.prog.info? 58).map (fun i => (i.zero, i.size, i.bytes)) = some (some (.agg #[.int .i64 0, .int .i64 0]), 2, 16) := by kernel_rfl
theorem flat_at : ∀ (L : List Pt) (i : Nat) (e : Pt), L[i]? = some e → (L.flatMap enP)[i * 2]? = some (.int .i64 (e.1 : Int)) ∧ (L.flatMap enP)[i * 2 + 1]? = some (.int .i64 (e.2 : Int))
  | [], i, e, h => by simp at h
  | y :: r, 0, e, h => by
    obtain rfl : y = e := by simpa using h
    simp [List.flatMap_cons, enP]
  | y :: r, i + 1, e, h => by
    have := flat_at r i e (by simpa using h)
    rw [show (i + 1) * 2 = i * 2 + 2 by omega]
    simpa [List.flatMap_cons, enP] using this
theorem flat_len (L : List Pt) : (L.flatMap enP).length = L.length * 2 := by
  induction L with
  | nil => rfl
  | cons y r ih => simp [List.flatMap_cons, enP, ih]; omega
theorem flat_one (L : List Pt) : ∀ u ∈ L.flatMap enP, u.oneCell' = true := by
  intro u hu
  obtain ⟨e, -, hu⟩ := List.mem_flatMap.1 hu
  simp [enP] at hu
  rcases hu with rfl | rfl <;> rfl
theorem flat_take (L : List Pt) (i : Nat) : (L.flatMap enP).take (i * 2) = (L.take i).flatMap enP := by
  induction L generalizing i with
  | nil => simp
  | cons y r ih =>
    cases i with
    | zero => simp
    | succ i => rw [show (i + 1) * 2 = i * 2 + 2 by omega]; simpa [List.flatMap_cons, enP] using ih i
theorem flat_drop (L : List Pt) (i : Nat) : (L.flatMap enP).drop (i * 2) = (L.drop i).flatMap enP := by
  induction L generalizing i with
  | nil => simp
  | cons y r ih =>
    cases i with
    | zero => simp
    | succ i => rw [show (i + 1) * 2 = i * 2 + 2 by omega]; simpa [List.flatMap_cons, enP] using ih i
theorem PO.shape {w : World} {base : Bk} {v : Value} {L : List Pt} (h : PO w base v L) : ∃ a c, v = .slice a L.length c ∧ (a = none → L = []) ∧ L.length ≤ c ∧ (a = none → c = 0) := by
  rcases h.2 with ⟨rfl, h0⟩ | ⟨g, cap, cur, rfl, hg, hb, h1, h2⟩
  · rw [h0]; exact ⟨none, 0, rfl, fun _ => List.length_eq_zero_iff.1 h0, Nat.le_refl _, fun _ => rfl⟩
  · exact ⟨some ⟨g, 0, none⟩, cap, rfl, (fun e => by cases e), h1, (fun e => by cases e)⟩
theorem PO.cell {w : World} {base : Bk} {g : Nat} {n c : Nat} {L : List Pt} (h : PO w base (.slice (some ⟨g, 0, none⟩) n c) L) {j : Nat} {e : Pt} (hj : L[j]? = some e) : w.cell? ⟨g, j * 2, none⟩ = some (.int .i64 (e.1 : Int)) ∧ w.cell? ⟨g, j * 2 + 1, none⟩ = some (.int .i64 (e.2 : Int)) := by
  obtain ⟨a, b⟩ := flat_at L j e hj
  have h1 := h.cells (g := g) rfl _ _ a
  have h2 := h.cells (g := g) rfl _ _ b
  rw [Addr.add_mid] at h1 h2
  simp only [Nat.zero_add] at h1 h2
  exact ⟨h1, h2⟩

/-! ### A queue -/
structure Qu where
  room : Int
  left : Int
  sent : Nat
  bs : List UInt8
  ps : List Pt
/-- Parts in order, that neither overlap nor touch, up to n. -/
def PsOk (n : Nat) (ps : List Pt) : Prop := ps.Pairwise (fun x y => x.2 < y.1) ∧ ∀ e ∈ ps, e.1 < e.2 ∧ e.2 ≤ n
structure Qu.Fine (Q : Qu) : Prop where
  r0 : 1 ≤ Q.room
  r1 : Q.room ≤ 65536
  l0 : 0 ≤ Q.left
  l1 : Q.left ≤ 4294967295
  ln : (Q.bs.length : Int) ≤ Q.room
  sn : Q.sent ≤ Q.bs.length
  ok : PsOk Q.sent Q.ps
abbrev quV (Q : Qu) (vb vp : Value) : Array Value := #[.int .i64 Q.room, .int .i64 Q.left, .int .i64 (Q.sent : Int), vb, vp]
structure QX (w : World) (R : Bk) (q : Nat) (Q : Qu) (vb vp : Value) : Prop where
  at5 : At w q (quV Q vb vp)
  kd : Kd w q 53
  ge : R q
  bo : BO w R vb Q.bs
  po : PO w R vp Q.ps
theorem At.five {W : World} {b : Nat} {v0 v1 v2 v3 v4 : Value} (h : At W b #[v0, v1, v2, v3, v4]) :
    (W.cell? ⟨b, 0, none⟩ = some v0 ∧ W.cell? ⟨b, 1, none⟩ = some v1 ∧ W.cell? ⟨b, 2, none⟩ = some v2 ∧ W.cell? ⟨b, 3, none⟩ = some v3 ∧ W.cell? ⟨b, 4, none⟩ = some v4) ∧
    (W.frozen? ⟨b, 0, none⟩ = false ∧ W.frozen? ⟨b, 1, none⟩ = false ∧ W.frozen? ⟨b, 2, none⟩ = false ∧ W.frozen? ⟨b, 3, none⟩ = false ∧ W.frozen? ⟨b, 4, none⟩ = false) :=
  ⟨⟨(h.2 0 _ rfl).1, (h.2 1 _ rfl).1, (h.2 2 _ rfl).1, (h.2 3 _ rfl).1, (h.2 4 _ rfl).1⟩, (h.2 0 _ rfl).2, (h.2 1 _ rfl).2, (h.2 2 _ rfl).2, (h.2 3 _ rfl).2, (h.2 4 _ rfl).2⟩
theorem QX.later {w w' : World} {R : Bk} {q : Nat} {Q : Qu} {vb vp : Value} (h : QX w R q Q vb vp) (hb : Below w.heap.size w w') : QX w' R q Q vb vp :=
  ⟨h.at5.later hb, h.kd.later hb, h.ge, row_later h.bo hb, row_later h.po hb⟩
theorem QX.keep {ts : List TypeId} {R' : Bk} {w w' : World} {R : Bk} {q : Nat} {Q : Qu} {vb vp : Value} (h : QX w R q Q vb vp) (ht : TY ts R' w w') (h1 : 53 ∉ ts) (h2 : 5 ∉ ts) (h3 : 58 ∉ ts) : QX w' R q Q vb vp :=
  ⟨ht.at h.at5 h.kd h1, h.kd.turn ht (Or.inl h1), h.ge, row_keep h.bo ht h2, row_keep h.po ht h3⟩
end Go.Proofs.Ytkclookpdngkoaa.S
