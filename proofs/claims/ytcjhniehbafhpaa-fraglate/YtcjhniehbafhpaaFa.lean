/- Which blocks may turn; copies of rows of structs; a map whose keys are four numbers. -/
import Derived.Test.YtcjhniehbafhpaaPcs
import Derived.Maps.RangeWalk
import Derived.Maps.OwnSet
import Derived.Maps.Ext
import Derived.Maps.Keyed
import Derived.DeepKeys4
import Derived.WalkSmall
import Derived.Deep.Cut
import Derived.Deep.CutRange
import Derived.Deep.MidRow
import Derived.Deep.QuietTactic
import Derived.BigQuiet
import Derived.Deep.RegionWith
import Derived.OwnWalk
import Derived.WalkSpells
import Derived.Laws.CopyRow
namespace Go.Proofs.Ytcjhniehbafhpaa
open Go.RowKit Go.Maps
set_option maxRecDepth 100000
set_option linter.unusedVariables false
set_option linter.unusedSimpArgs false

/-- Of what was there nothing has turned but the blocks that S names. -/
structure Turn (S : Nat → Prop) (w w' : World) : Prop where
  os : w'.os = w.os
  tape : w'.tape = w.tape
  output : w'.output = w.output
  size : w.heap.size ≤ w'.heap.size
  block : ∀ k, k < w.heap.size → ¬ S k → w'.heap[k]? = w.heap[k]?
theorem Turn.refl {S : Nat → Prop} (w : World) : Turn S w w := ⟨rfl, rfl, rfl, Nat.le_refl _, fun _ _ _ => rfl⟩
theorem Turn.trans {S : Nat → Prop} {a b c : World} (h : Turn S a b) (k : Turn S b c) : Turn S a c :=
  ⟨k.os.trans h.os, k.tape.trans h.tape, k.output.trans h.output, Nat.le_trans h.size k.size, fun i hi hs => (k.block i (Nat.lt_of_lt_of_le hi h.size) hs).trans (h.block i hi hs)⟩
theorem Turn.of_below {S : Nat → Prop} {w w' : World} (h : Below w.heap.size w w') : Turn S w w' := ⟨h.os, h.tape, h.output, h.size, fun k hk _ => h.block k hk⟩
theorem Turn.of_grown {S : Nat → Prop} {w w' : World} {row : Option Nat} (h : w.grownBy w' row) (hS : ∀ j, row = some j → S j ∨ w.heap.size ≤ j) : Turn S w w' :=
  ⟨h.os, h.tape, h.output, h.size, fun k hk hs => h.block k hk (fun e => by rcases hS k e.symm with h | h; exact hs h; omega)⟩
theorem Turn.and {S : Nat → Prop} {w w1 w' : World} {row : Option Nat} (h : Turn S w w1) (k : w1.grownBy w' row) (hS : ∀ j, row = some j → S j ∨ w.heap.size ≤ j) : Turn S w w' :=
  ⟨k.os.trans h.os, k.tape.trans h.tape, k.output.trans h.output, Nat.le_trans h.size k.size, fun i hi hs => (k.block i (Nat.lt_of_lt_of_le hi h.size) (fun e => by rcases hS i e.symm with h | h; exact hs h; omega)).trans (h.block i hi hs)⟩
theorem Turn.later {S : Nat → Prop} {w w1 w' : World} (h : Turn S w w1) (k : Below w1.heap.size w1 w') : Turn S w w' := h.trans (Turn.of_below k)
/-- Two steps; what the second one turned lies among S, or is younger than the first world. -/
theorem Turn.step {S S' : Nat → Prop} {a b c : World} (h : Turn S a b) (k : Turn S' b c) (hS : ∀ j, S' j → S j ∨ a.heap.size ≤ j) : Turn S a c :=
  ⟨k.os.trans h.os, k.tape.trans h.tape, k.output.trans h.output, Nat.le_trans h.size k.size, fun i hi hs => (k.block i (Nat.lt_of_lt_of_le hi h.size) (fun e => by rcases hS i e with h | h; exact hs h; omega)).trans (h.block i hi hs)⟩
theorem Turn.below {S : Nat → Prop} {w w' : World} {n : Nat} (h : Turn S w w') (hn : n ≤ w.heap.size) (hS : ∀ k, k < n → ¬ S k) : Below n w w' :=
  ⟨h.os, h.tape, h.output, h.size, fun k hk => h.block k (Nat.lt_of_lt_of_le hk hn) (hS k hk)⟩
theorem Turn.mono {S S' : Nat → Prop} {w w' : World} (h : Turn S w w') (hS : ∀ k, S k → S' k) : Turn S' w w' :=
  ⟨h.os, h.tape, h.output, h.size, fun k hk hs => h.block k hk (fun e => hs (hS k e))⟩
theorem Turn.cell {S : Nat → Prop} {w w' : World} (h : Turn S w w') {b : Nat} (hb : b < w.heap.size) (hs : ¬ S b) (o : Nat) : w'.cell? ⟨b, o, none⟩ = w.cell? ⟨b, o, none⟩ := World.cell?_of_block (h.block b hb hs)
theorem Turn.undrew {S : Nat → Prop} {w w' : World} (h : Turn S w.drew w') : Turn S w w' := ⟨h.os, h.tape, h.output, h.size, h.block⟩
theorem Turn.undrewN {S : Nat → Prop} {w w' : World} {n : Nat} (h : Turn S (w.drewN n) w') : Turn S w w' := ⟨h.os, h.tape, h.output, h.size, h.block⟩
theorem bel_undrew {w w' : World} (h : Below w.drew.heap.size w.drew w') : Below w.heap.size w w' := ⟨h.os, h.tape, h.output, h.size, h.block⟩
theorem At.turn {S : Nat → Prop} {W x : World} {b : Nat} {vs : Array Value} (h : At W b vs) (ht : Turn S W x) (hs : ¬ S b) : At x b vs :=
  ⟨Nat.lt_of_lt_of_le h.1 ht.size, fun i v hv => by
    obtain ⟨a, b'⟩ := h.2 i v hv
    exact ⟨(ht.cell h.1 hs i).trans a, (World.frozen?_of_block (ht.block b h.1 hs)).trans b'⟩⟩
theorem At.set {W : World} {b : Nat} {vs : Array Value} (h : At W b vs) (i : Nat) (u : Value) : At (W.setCell ⟨b, i, none⟩ u) b (vs.setIfInBounds i u) := by
  refine ⟨by rw [World.size_setCell]; exact h.1, fun j v hj => ?_⟩
  rw [World.frozen?_setCell]
  rw [Array.getElem?_setIfInBounds] at hj
  by_cases e : i = j
  · subst e
    rw [if_pos rfl] at hj
    by_cases l : i < vs.size
    · rw [if_pos l] at hj
      cases hj
      obtain ⟨c, f⟩ := h.2 i vs[i] (Array.getElem?_eq_getElem l)
      exact ⟨World.cell?_setCell_same _ _ _ c, f⟩
    · rw [if_neg l] at hj
      cases hj
  · rw [if_neg e] at hj
    obtain ⟨c, f⟩ := h.2 j v hj
    exact ⟨(World.cell?_setCell_other _ _ _ _ (by intro q; cases q; exact e rfl)).trans c, f⟩
theorem turn_set (w : World) (b o : Nat) (u : Value) : Turn (fun j => j = b) w (w.setCell ⟨b, o, none⟩ u) :=
  ⟨rfl, rfl, rfl, by simp, fun k _ hk => heap_setCell_other w ⟨b, o, none⟩ k u (fun e => hk e)⟩
/-- copy between rows of elements of k cells each; all is read ahead of what is written. -/
theorem run_copy_rowk {P : Program} (w : World) (dT sT ty elem : TypeId) (k g o dLen dCap : Nat) (a : Addr) (sLen sCap n : Nat) (cur : Array Value) (t : TypeId) (cs : List Value)
    (hu : P.underlying dT = some (.slice elem)) (hs : (P.info? elem).map (·.size) = some k)
    (hg : w.heap[g]? = some (.cells cur t (0, 0))) (hn : Nat.min sLen dLen = n) (hcl : cs.length = n * k)
    (hsrc : ∀ j v, cs[j]? = some v → w.cell? (a.add j) = some v) (hfit : o + cs.length ≤ cur.size) (h1 : ∀ v ∈ cs, v.oneCell' = true) :
    (Builtin.copy_ #[dT, sT] ty #[.slice (some ⟨g, o, none⟩) dLen dCap, .slice (some a) sLen sCap]).run P w =
      .ok (goInt n) (w.setRow g (cur.toList.take o ++ cs ++ cur.toList.drop (o + cs.length)).toArray) := by
  have hl := run_loadCells_list (P := P) w a cs hsrc
  have hst := run_storeCells_at P g o t cs 0 cur w hg (by simpa using hfit) h1
  cases hq : P.info? elem with
  | none => simp [hq] at hs
  | some i =>
    have hi : i.size = k := by simpa [hq] using hs
    rw [hcl] at hl
    simp [Builtin.copy_, run_underlying hu, Builtin.lenOf, Builtin.firstCells, sizeOf, typeInfo, hq, hi, hn, hl, hst]
structure Mk where
  f : Int
  t : Int
  pr : Int
  id : Int
deriving DecidableEq
def Mk.V (m : Mk) : Value := .agg #[.int .i64 m.f, .int .i64 m.t, .int .i64 m.pr, .int .i64 m.id]
def Mk.wf (m : Mk) : Prop := (Lit.int .i64 m.f).wf = true ∧ (Lit.int .i64 m.t).wf = true ∧ (Lit.int .i64 m.pr).wf = true ∧ (Lit.int .i64 m.id).wf = true
def Mk.lit (m : Mk) : Lit := .string (keyBytes [.int .i64 m.f, .int .i64 m.t, .int .i64 m.pr, .int .i64 m.id])
theorem laidOut : laidOutB Try.prog = true := by kernel_rfl
theorem lawM : Keyed Try.prog 77 := Keyed.of_law (deep_law_laid laidOut (m := 3) (by omega) (of_decide_eq_true (by kernel_rfl)) (by kernel_rfl) (by kernel_rfl))
theorem cellsM : Try.prog.cellsOf 77 = 4 := by kernel_rfl
theorem cells3 : Try.prog.cellsOf 3 = 1 := by kernel_rfl
theorem keyTM : Try.prog.keyType 77 = true := by kernel_rfl
theorem sizeT : ∃ n, Try.prog.types.size + 1 = n + 2 := by
  have : 2 ≤ Try.prog.types.size := of_decide_eq_true (by kernel_rfl)
  exact ⟨Try.prog.types.size - 1, by omega⟩
theorem lit3 (n : Nat) {x : Int} (h : (Lit.int .i64 x).wf = true) : Try.prog.keyLits (n + 1) 3 [.int .i64 x] = some [.int .i64 x] := by
  unfold Program.keyLits
  simp only [Try.underlying3]
  rw [if_pos]
  first | exact ⟨rfl, h⟩ | exact ⟨trivial, h⟩
theorem litM (n : Nat) {a b c d : Int} (h1 : (Lit.int .i64 a).wf = true) (h2 : (Lit.int .i64 b).wf = true) (h3 : (Lit.int .i64 c).wf = true) (h4 : (Lit.int .i64 d).wf = true) : Try.prog.keyLits (n + 2) 77 [.int .i64 a, .int .i64 b, .int .i64 c, .int .i64 d] = some [.int .i64 a, .int .i64 b, .int .i64 c, .int .i64 d] := by
  unfold Program.keyLits
  simp only [Try.underlying77, cellsM, cells3]
  rw [if_pos ⟨by first | trivial | rfl, by kernel_rfl⟩]
  simp only [List.mapM_cons, List.mapM_nil, List.drop, cells3, List.take, lit3 n h1, lit3 n h2, lit3 n h3, lit3 n h4]
  rfl
theorem formM (a b c d : Int) : (Value.agg #[.int .i64 a, .int .i64 b, .int .i64 c, .int .i64 d]).formed Try.prog 77 = true := by
  simp only [Value.formed, Try.underlying77, cellsM]
  rfl
theorem Mk.key (m : Mk) (h : m.wf) : keyOf Try.prog 77 m.V = some m.lit := by
  obtain ⟨h1, h2, h3, h4⟩ := h
  obtain ⟨n, hn⟩ := sizeT
  unfold keyOf Mk.V Mk.lit
  rw [Try.underlying77]
  simp only [keyTM, formM, Bool.and_self, if_true, Value.cells, hn, litM n h1 h2 h3 h4]
  rfl
theorem Mk.inj {a b : Mk} (ha : a.wf) (hb : b.wf) (h : a.lit = b.lit) : a = b := by
  have := lawM.inj (a.key ha) ((b.key hb).trans (by rw [h]))
  obtain ⟨a1, a2, a3, a4⟩ := a
  obtain ⟨b1, b2, b3, b4⟩ := b
  simpa [Mk.V] using this
end Go.Proofs.Ytcjhniehbafhpaa
