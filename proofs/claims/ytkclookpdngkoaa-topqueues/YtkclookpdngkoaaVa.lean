/- Boxes, what turns; the map as a rising list; rows; a queue over the set of its blocks. -/
import Derived.Test.YtkclookpdngkoaaCuts
import Derived.WalkKit
import Derived.WalkSpells
import Derived.Below
import Derived.WalkSmall
import Derived.Deep.Cut
import Derived.Deep.CutRange
import Derived.Deep.MidRow
import Derived.Deep.QuietTactic
import Derived.BigQuiet
import Derived.Deep.RegionWith
import Derived.OwnWalk
import Derived.Lib.MinMax
import Derived.Deep.RegionHeld3
import Derived.Lib.AppendStr
import Derived.Laws.IdiomStrings
import Derived.Maps.AppendAt
import Derived.Laws.AppendOwnNone
import Derived.Lib.SliceRun
import Derived.Laws.OwnMore
import Derived.Maps.RangeWalk
import Derived.Maps.OwnSet
import Derived.Maps.Ext
namespace Go.Proofs.Ytkclookpdngkoaa.V
open Go.RowKit Go.Maps Go.Lib
set_option maxRecDepth 100000
set_option linter.unusedVariables false
set_option linter.unusedSimpArgs false

theorem bt {a b c : World} (h : Below a.heap.size a b) (k : Below b.heap.size b c) : Below a.heap.size a c := h.trans (k.mono h.size)
theorem bel1 (w : World) (o : Obj) : Below w.heap.size w (w.alloc o) := (Below.refl _ _).alloc (Nat.le_refl _) o
theorem later {w x : World} {a : Addr} {v : Value} (hb : Below w.heap.size w x) (h : w.cell? a = some v) : x.cell? a = some v := (hb.cell (World.block_lt_of_cell? _ _ h)).trans h
/-- A boxed struct: its cells, none of them frozen. -/
def At (W : World) (b : Nat) (vs : Array Value) : Prop := b < W.heap.size ∧ ∀ i v, vs[i]? = some v → W.cell? ⟨b, i, none⟩ = some v ∧ W.frozen? ⟨b, i, none⟩ = false
theorem At.box (w : World) (vs : Array Value) (t : TypeId) : At (w.alloc (.cells vs t)) w.heap.size vs := by
  refine ⟨by simp, fun i v h => ⟨?_, ?_⟩⟩
  · simp [World.cell?_alloc_new, h]
  · rw [frozen?_alloc_cells]; simp [World.frozen?]
theorem At.later {W x : World} {b : Nat} {vs : Array Value} (h : At W b vs) (hb : Below W.heap.size W x) : At x b vs :=
  ⟨Nat.lt_of_lt_of_le h.1 hb.size, fun i v hi => ⟨Ytkclookpdngkoaa.V.later hb (h.2 i v hi).1, (hb.frozen (p := ⟨b, i, none⟩) h.1).trans (h.2 i v hi).2⟩⟩
theorem At.box2 (w : World) (o : Obj) (vs : Array Value) (t : TypeId) : At ((w.alloc o).alloc (.cells vs t)) (w.heap.size + 1) vs := by have := At.box (w.alloc o) vs t; rwa [World.size_alloc] at this
abbrev Vn := Int × Value
def hE (v : Value) : Option (DataW Value × List MemPlace) := some (.held v, [])
def vD (l : List Vn) : DataW Value := .map (l.map fun e => (.int .i64 e.1, .held e.2))
def VRise (l : List Vn) : Prop := l.Pairwise (fun x y => x.1 < y.1)
def vlk (l : List Vn) (k : Int) : Option Value := (l.find? (fun e => e.1 == k)).map (·.2)
def vins (e : Vn) : List Vn → List Vn
  | [] => [e]
  | y :: r => if e.1 < y.1 then e :: y :: r else y :: vins e r
def vdel (l : List Vn) (k : Int) : List Vn := l.filter fun x => x.1 != k
def vput (l : List Vn) (e : Vn) : List Vn := vins e (vdel l e.1)
theorem same_int (a b : Int) : (Lit.int .i64 a).sameKey (.int .i64 b) = (a == b) := by
  show decide (IntKind.i64 = IntKind.i64 ∧ a = b) = (a == b)
  by_cases h : a = b <;> simp [h]
theorem has_vD (l : List Vn) (k : Int) : Maps.has (vD l) (.int .i64 k) = (vlk l k).isSome := by
  rw [vD, has_eq, List.any_map, vlk, Option.isSome_map]
  induction l with
  | nil => rfl
  | cons y r ih =>
    simp only [List.any_cons, List.find?_cons, Function.comp, same_int] at ih ⊢
    cases h : (y.1 == k) <;> simp [ih]
theorem size_vD (l : List Vn) : Maps.size (vD l) = l.length := by simp [vD, size_eq]
theorem at_vD (l : List Vn) (k : Int) (z : Value) : (vD l).atKey (.int .i64 k) (.held z) = .held ((vlk l k).getD z) := by
  unfold vD DataW.atKey vlk
  simp only [List.find?_map]
  have : ((fun p : Lit × DataW Value => p.1.sameKey (.int .i64 k)) ∘ fun e : Vn => (Lit.int .i64 e.1, DataW.held e.2)) = fun e : Vn => e.1 == k := by
    funext e
    exact same_int e.1 k
  rw [this]
  cases l.find? (fun e => e.1 == k) <;> rfl
theorem del_vD (l : List Vn) (k : Int) : (vD l).del (.int .i64 k) = vD (vdel l k) := by
  unfold vD DataW.del vdel
  simp only [List.filter_map]
  congr 3
  funext e
  show (!(Lit.int .i64 e.1).sameKey (.int .i64 k)) = (e.1 != k)
  rw [same_int]
  rfl
theorem ins_vD (e : Vn) : ∀ l : List Vn, DataW.insert ((Lit.int .i64 e.1, DataW.held e.2) : Lit × DataW Value) (l.map fun e => (Lit.int .i64 e.1, DataW.held e.2)) = (vins e l).map fun e => (Lit.int .i64 e.1, DataW.held e.2)
  | [] => rfl
  | y :: r => by
    simp only [List.map, DataW.insert, vins]
    have : (Lit.int .i64 e.1).before (Lit.int .i64 y.1) = decide (e.1 < y.1) := rfl
    rw [this]
    by_cases h : e.1 < y.1
    · simp [h]
    · simp [h, ins_vD e r]
theorem put_vD (l : List Vn) (e : Vn) : (vD l).put (.int .i64 e.1) (.held e.2) = vD (vput l e) := by
  unfold vD DataW.put vput vdel
  simp only [List.filter_map]
  rw [← ins_vD]
  congr 4
  funext x
  show (!(Lit.int .i64 x.1).sameKey (.int .i64 e.1)) = (x.1 != e.1)
  rw [same_int]
  rfl
theorem law3 : Keyed Try.prog 3 := int_keyed Try.underlying3
/-- Block M is a map that holds l. -/
def VM (w : World) (M : Nat) (l : List Vn) : Prop := w.ownsMap Try.prog 3 hE M l.length (vD l) ∧ VRise l
theorem vm_len {w : World} {M n : Nat} {l : List Vn} (h : w.ownsMap Try.prog 3 hE M n (vD l)) : w.ownsMap Try.prog 3 hE M l.length (vD l) := by
  obtain ⟨es, clock, hb, F, hn, hD⟩ := h
  refine ⟨es, clock, hb, F, ?_, hD⟩
  have h2 := congrArg Maps.size hD
  rw [size_vD, size_eq, length_sorted] at h2
  simp at h2
  omega
theorem vm_rise {w : World} {M n : Nat} {l : List Vn} (h : w.ownsMap Try.prog 3 hE M n (vD l)) : VRise l := by
  obtain ⟨es, he, hr, -⟩ := h.canon law3
  unfold vD at he
  injection he with he
  subst he
  rw [List.pairwise_map] at hr
  exact hr.imp fun h => of_decide_eq_true h
theorem VM.of {w : World} {M n : Nat} {l : List Vn} (h : w.ownsMap Try.prog 3 hE M n (vD l)) : VM w M l := ⟨vm_len h, vm_rise h⟩
theorem VM.made (w : World) : VM (w.alloc (.map #[] 0)) w.heap.size [] := ⟨World.ownsMap_made _ _ _ _, List.Pairwise.nil⟩
theorem VM.lt {w : World} {M : Nat} {l : List Vn} (h : VM w M l) : M < w.heap.size := h.1.lt
/-- Of what was there nothing has turned but the blocks that S names. -/
structure Turn (S : Nat → Prop) (w w' : World) : Prop where
  os : w'.os = w.os
  tape : w'.tape = w.tape
  output : w'.output = w.output
  size : w.heap.size ≤ w'.heap.size
  block : ∀ k, k < w.heap.size → ¬ S k → w'.heap[k]? = w.heap[k]?
theorem Turn.refl {S : Nat → Prop} (w : World) : Turn S w w := ⟨rfl, rfl, rfl, Nat.le_refl _, fun _ _ _ => rfl⟩
theorem Turn.trans {S : Nat → Prop} {a b c : World} (h : Turn S a b) (k : Turn S b c) : Turn S a c :=
  ⟨k.os.trans h.os, k.tape.trans h.tape, k.output.trans h.output, Nat.le_trans h.size k.size, fun i hi hs => (k.block i (Nat.lt_of_lt_of_le hi h.size) hs).trans (h.block i hi hs)⟩
theorem Turn.of_below {S : Nat → Prop} {w w' : World} (h : Below w.heap.size w w') : Turn S w w' := ⟨h.os, h.tape, h.output, h.size, fun k hk _ => h.block k hk⟩
theorem Turn.of_grown {S : Nat → Prop} {w w' : World} {row : Option Nat} (h : w.grownBy w' row) (hS : ∀ j, row = some j → S j ∨ w.heap.size ≤ j) : Turn S w w' :=
  ⟨h.os, h.tape, h.output, h.size, fun k hk hs => h.block k hk (fun e => by rcases hS k e.symm with h | h; exact hs h; omega)⟩
theorem Turn.and {S : Nat → Prop} {w w1 w' : World} {row : Option Nat} (h : Turn S w w1) (k : w1.grownBy w' row) (hS : ∀ j, row = some j → S j ∨ w.heap.size ≤ j) : Turn S w w' :=
  ⟨k.os.trans h.os, k.tape.trans h.tape, k.output.trans h.output, Nat.le_trans h.size k.size, fun i hi hs => (k.block i (Nat.lt_of_lt_of_le hi h.size) (fun e => by rcases hS i e.symm with h | h; exact hs h; omega)).trans (h.block i hi hs)⟩
theorem Turn.later {S : Nat → Prop} {w w1 w' : World} (h : Turn S w w1) (k : Below w1.heap.size w1 w') : Turn S w w' := h.trans (Turn.of_below k)
/-- Two steps; what the second one turned lies among S, or is younger than the first world. -/
theorem Turn.step {S S' : Nat → Prop} {a b c : World} (h : Turn S a b) (k : Turn S' b c) (hS : ∀ j, S' j → S j ∨ a.heap.size ≤ j) : Turn S a c :=
  ⟨k.os.trans h.os, k.tape.trans h.tape, k.output.trans h.output, Nat.le_trans h.size k.size, fun i hi hs => (k.block i (Nat.lt_of_lt_of_le hi h.size) (fun e => by rcases hS i e with h | h; exact hs h; omega)).trans (h.block i hi hs)⟩
theorem Turn.below {S : Nat → Prop} {w w' : World} {n : Nat} (h : Turn S w w') (hn : n ≤ w.heap.size) (hS : ∀ k, k < n → ¬ S k) : Below n w w' :=
  ⟨h.os, h.tape, h.output, h.size, fun k hk => h.block k (Nat.lt_of_lt_of_le hk hn) (hS k hk)⟩
theorem Turn.mono {S S' : Nat → Prop} {w w' : World} (h : Turn S w w') (hS : ∀ k, S k → S' k) : Turn S' w w' :=
  ⟨h.os, h.tape, h.output, h.size, fun k hk hs => h.block k hk (fun e => hs (hS k e))⟩
theorem Turn.cell {S : Nat → Prop} {w w' : World} (h : Turn S w w') {b : Nat} (hb : b < w.heap.size) (hs : ¬ S b) (o : Nat) : w'.cell? ⟨b, o, none⟩ = w.cell? ⟨b, o, none⟩ := World.cell?_of_block (h.block b hb hs)
theorem Turn.undrew {S : Nat → Prop} {w w' : World} (h : Turn S w.drew w') : Turn S w w' := ⟨h.os, h.tape, h.output, h.size, h.block⟩
theorem Turn.undrewN {S : Nat → Prop} {w w' : World} {n : Nat} (h : Turn S (w.drewN n) w') : Turn S w w' := ⟨h.os, h.tape, h.output, h.size, h.block⟩
theorem bel_undrew {w w' : World} (h : Below w.drew.heap.size w.drew w') : Below w.heap.size w w' := ⟨h.os, h.tape, h.output, h.size, h.block⟩
theorem At.turn {S : Nat → Prop} {W x : World} {b : Nat} {vs : Array Value} (h : At W b vs) (ht : Turn S W x) (hs : ¬ S b) : At x b vs :=
  ⟨Nat.lt_of_lt_of_le h.1 ht.size, fun i v hv => by
    obtain ⟨a, b'⟩ := h.2 i v hv
    exact ⟨(ht.cell h.1 hs i).trans a, (World.frozen?_of_block (ht.block b h.1 hs)).trans b'⟩⟩
theorem At.set {W : World} {b : Nat} {vs : Array Value} (h : At W b vs) (i : Nat) (u : Value) : At (W.setCell ⟨b, i, none⟩ u) b (vs.setIfInBounds i u) := by
  refine ⟨by rw [World.size_setCell]; exact h.1, fun j v hj => ?_⟩
  rw [World.frozen?_setCell]
  rw [Array.getElem?_setIfInBounds] at hj
  by_cases e : i = j
  · subst e
    rw [if_pos rfl] at hj
    by_cases l : i < vs.size
    · rw [if_pos l] at hj
      cases hj
      obtain ⟨c, f⟩ := h.2 i vs[i] (Array.getElem?_eq_getElem l)
      exact ⟨World.cell?_setCell_same _ _ _ c, f⟩
    · rw [if_neg l] at hj
      cases hj
  · rw [if_neg e] at hj
    obtain ⟨c, f⟩ := h.2 j v hj
    exact ⟨(World.cell?_setCell_other _ _ _ _ (by intro q; cases q; exact e rfl)).trans c, f⟩
theorem turn_set (w : World) (b o : Nat) (u : Value) : Turn (fun j => j = b) w (w.setCell ⟨b, o, none⟩ u) :=
  ⟨rfl, rfl, rfl, by simp, fun k _ hk => heap_setCell_other w ⟨b, o, none⟩ k u (fun e => hk e)⟩
theorem VM.turn {S : Nat → Prop} {w w' : World} {M : Nat} {l : List Vn} (h : VM w M l) (ht : Turn S w w') (hs : ¬ S M) : VM w' M l := by
  obtain ⟨⟨es, clock, hb, hr⟩, h2⟩ := h
  exact ⟨⟨es, clock, (ht.block M (Array.getElem?_eq_some_iff.1 hb).1 hs).trans hb, hr⟩, h2⟩
theorem VM.later {w w' : World} {M : Nat} {l : List Vn} (h : VM w M l) (hb : Below w.heap.size w w') : VM w' M l := h.turn (S := fun _ => False) (Turn.of_below hb) (fun h => h)
theorem ne_at_vm {w : World} {B M : Nat} {vs : Array Value} {x : Value} {l : List Vn} (hA : At w B vs) (h0 : vs[0]? = some x) (hL : VM w M l) : B ≠ M := by
  intro e
  subst e
  obtain ⟨⟨es, clock, hb, -⟩, -⟩ := hL
  have := (hA.2 0 x h0).1
  simp [World.cell?, hb] at this
section
variable {w : World} {M : Nat} {l : List Vn} {t e : TypeId} {z : Value} {k : Int}
theorem VM.look (h : VM w M l) (ht : Try.prog.underlying t = some (.map 3 e)) (hz : ∀ w, (zeroValue e).run Try.prog w = .ok z w) (hk : (Lit.int .i64 k).wf = true) : (Instr.lookup t (.map (some M)) (.int .i64 k) false).run Try.prog w = .ok ((vlk l k).getD z) w := by
  obtain ⟨v, ps, hr, hv⟩ := h.1.lookup law3 ht (hz w) (zd := .held z) (zp := []) rfl (keyOf_int_mk Try.underlying3 hk)
  rw [at_vD] at hv
  unfold hE at hv
  injection hv with hv
  injection hv with h1 h2
  injection h1 with h1
  rw [hr, h1]
/-- 'v, ok := m[k]'. -/
theorem wpList_lookup_vm {ops : Array Oper} {rest : List Oper} {o : Oper} {a : Act} {Q : Exit → Act → World → Prop} (hg : o.guard = none) (m x : Operand) (hop : o.op = Op.lookup t m x true) (M : Nat) (l : List Vn) (k : Int) (hk : (Lit.int .i64 k).wf = true) (ht : Try.prog.underlying t = some (.map 3 e)) (hz : ∀ w, (zeroValue e).run Try.prog w = .ok z w)
    (hm : a.eval m = .map (some M)) (hown : VM w M l) (hx : a.eval x = .int .i64 k) (hK : wpList Try.prog ops Q rest (a.put o.dst (.tuple #[(vlk l k).getD z, .bool (vlk l k).isSome])) w) : wpList Try.prog ops Q (o :: rest) a w := by
  refine wpList_lookup_own_ok w hg m x t hop 3 e law3 ht hE (hz w) (.held z) [] rfl M l.length (vD l) hm hown.1 _ _ hx (keyOf_int_mk Try.underlying3 hk) ?_
  intro v ps hv
  rw [at_vD] at hv
  unfold hE at hv
  injection hv with hv
  injection hv with h1 h2
  injection h1 with h1
  rw [has_vD, h1]
  exact hK
theorem VM.put (h : VM w M l) (ht : Try.prog.underlying t = some (.map 3 e)) (hn : l.length < 1000000) (hk : (Lit.int .i64 k).wf = true) (v : Value) :
    ∃ w', (Instr.mapUpdate t (.map (some M)) (.int .i64 k) v).run Try.prog w = .ok () w' ∧ VM w' M (vput l (k, v)) ∧ Turn (fun j => j = M) w w' := by
  obtain ⟨w', hr, ho, hg⟩ := h.1.update law3 ht (by unfold maxLen; omega) (val := v) (d := .held v) (ps := []) (keyOf_int_mk Try.underlying3 hk) rfl
  rw [put_vD l (k, v)] at ho
  exact ⟨w', hr, VM.of ho, Turn.of_grown hg (fun j hj => by cases hj; exact Or.inl rfl)⟩
theorem VM.del (h : VM w M l) (ht : Try.prog.underlying t = some (.map 3 e)) (hk : (Lit.int .i64 k).wf = true) (ty : TypeId) :
    ∃ w', (Builtin.delete_ #[t, 3] ty #[.map (some M), .int .i64 k]).run Try.prog w = .ok (.tuple #[]) w' ∧ VM w' M (vdel l k) ∧ Turn (fun j => j = M) w w' := by
  obtain ⟨w', hr, ho, hg⟩ := h.1.drop law3 ht (keyOf_int_mk Try.underlying3 hk) ty
  rw [del_vD] at ho
  exact ⟨w', hr, VM.of ho, Turn.of_grown hg.grown (fun j hj => by cases hj; exact Or.inl rfl)⟩
theorem wpList_delete_vm {ops : Array Oper} {rest : List Oper} {o : Oper} {a : Act} {Q : Exit → Act → World → Prop} (hg : o.guard = none) (m x : Operand) (hop : o.op = Op.call { callee := Callee.builtin Builtin.delete, args := #[m, x], argTypes := #[t, 3] }) (M : Nat) (l : List Vn) (k : Int) (hk : (Lit.int .i64 k).wf = true) (ht : Try.prog.underlying t = some (.map 3 e))
    (hm : a.eval m = .map (some M)) (hown : VM w M l) (hx : a.eval x = .int .i64 k) (hK : ∀ w', VM w' M (vdel l k) → Turn (fun j => j = M) w w' → wpList Try.prog ops Q rest (a.put o.dst (.tuple #[])) w') : wpList Try.prog ops Q (o :: rest) a w := by
  refine wpList_delete_own w hg m x t 3 hop e law3 ht hE M l.length (vD l) hm hown.1 _ _ hx (keyOf_int_mk Try.underlying3 hk) ?_
  intro w' ho hg
  rw [del_vD] at ho
  exact hK w' (VM.of ho) (Turn.of_grown hg.grown (fun j hj => by cases hj; exact Or.inl rfl))
theorem wpList_put_vm {ops : Array Oper} {rest : List Oper} {o : Oper} {a : Act} {Q : Exit → Act → World → Prop} (hg : o.guard = none) (m x y : Operand) (hop : o.op = Op.mapUpdate t m x y) (M : Nat) (l : List Vn) (k : Int) (v : Value) (hk : (Lit.int .i64 k).wf = true) (ht : Try.prog.underlying t = some (.map 3 e)) (hn : l.length < 1000000)
    (hm : a.eval m = .map (some M)) (hown : VM w M l) (hx : a.eval x = .int .i64 k) (hy : a.eval y = v) (hK : ∀ w', VM w' M (vput l (k, v)) → Turn (fun j => j = M) w w' → wpList Try.prog ops Q rest (a.put o.dst undef) w') : wpList Try.prog ops Q (o :: rest) a w := by
  refine wpList_plain hg fun K' hK' => ?_
  obtain ⟨w', hrun, r1, r2⟩ := hown.put ht hn hk v
  unfold Oper.wp
  simp [execOp, hop, hm, hx, hy, hrun, Result.andThen]
  exact hK' _ _ (hK w' r1 r2)
theorem VM.len (h : VM w M l) (ht : Try.prog.underlying t = some (.map 3 e)) (ty : TypeId) : (Builtin.len_ #[t] ty #[.map (some M)]).run Try.prog w = .ok (.int .i64 l.length) w := by
  have := h.1.len ht ty
  rwa [size_vD] at this
end
theorem vuniq {l : List Vn} (h : VRise l) {e e' : Vn} (he : e ∈ l) (he' : e' ∈ l) (hk : e.1 = e'.1) : e = e' := by
  induction l with
  | nil => cases he
  | cons y r ih =>
    have hy := List.pairwise_cons.1 h
    rcases List.mem_cons.1 he with h1 | h1
    · rcases List.mem_cons.1 he' with h2 | h2
      · rw [h1, h2]
      · have := hy.1 _ h2; rw [h1] at hk; omega
    · rcases List.mem_cons.1 he' with h2 | h2
      · have := hy.1 _ h1; rw [h2] at hk; omega
      · exact ih hy.2 h1 h2
theorem vlk_mem {l : List Vn} {k : Int} {v : Value} (h : vlk l k = some v) : (k, v) ∈ l := by
  unfold vlk at h
  cases hf : l.find? (fun e => e.1 == k) with
  | none => rw [hf] at h; cases h
  | some e =>
    rw [hf] at h
    have h1 := List.find?_some hf
    have h2 := List.mem_of_find?_eq_some hf
    simp at h1 h
    subst h1 h
    exact h2
theorem vlk_of {l : List Vn} (hr : VRise l) {k : Int} {v : Value} (h : (k, v) ∈ l) : vlk l k = some v := by
  unfold vlk
  cases hf : l.find? (fun e => e.1 == k) with
  | none =>
    rw [List.find?_eq_none] at hf
    have := hf _ h
    simp at this
  | some e =>
    have h1 := List.find?_some hf
    have h2 := List.mem_of_find?_eq_some hf
    simp at h1
    have := vuniq hr h2 h h1
    subst this
    rfl
theorem mem_vins {e x : Vn} : ∀ {l : List Vn}, x ∈ vins e l ↔ x = e ∨ x ∈ l
  | [] => by simp [vins]
  | y :: r => by
    unfold vins
    split
    · simp
    · simp only [List.mem_cons, mem_vins (l := r)]
      constructor
      · rintro (h | h | h) <;> simp [h]
      · rintro (h | h | h) <;> simp [h]
theorem len_vins (e : Vn) : ∀ l : List Vn, (vins e l).length = l.length + 1
  | [] => rfl
  | y :: r => by
    unfold vins
    split
    · simp
    · simp [len_vins e r]
theorem vlk_put {l : List Vn} {k x : Int} {v : Value} (hr : VRise (vput l (k, v))) (hl : VRise l) : vlk (vput l (k, v)) x = if x = k then some v else vlk l x := by
  by_cases hx : x = k
  · rw [if_pos hx, hx]
    exact vlk_of hr (mem_vins.2 (Or.inl rfl))
  · rw [if_neg hx]
    cases hq : vlk l x with
    | some c => exact vlk_of hr (mem_vins.2 (Or.inr (List.mem_filter.2 ⟨vlk_mem hq, by simpa using hx⟩)))
    | none =>
      cases hq2 : vlk (vput l (k, v)) x with
      | none => rfl
      | some c =>
        rcases mem_vins.1 (vlk_mem hq2) with h | h
        · exact absurd (congrArg Prod.fst h) hx
        · rw [vlk_of hl (List.mem_filter.1 h).1] at hq
          cases hq
theorem vdel_rise {l : List Vn} (hl : VRise l) (k : Int) : VRise (vdel l k) := List.Pairwise.filter _ hl
theorem vlk_del {l : List Vn} (hl : VRise l) {k x : Int} : vlk (vdel l k) x = if x = k then none else vlk l x := by
  by_cases hx : x = k
  · rw [if_pos hx, hx]
    cases hq : vlk (vdel l k) k with
    | none => rfl
    | some c =>
      have := (List.mem_filter.1 (vlk_mem hq)).2
      simp at this
  · rw [if_neg hx]
    cases hq : vlk l x with
    | some c => exact vlk_of (vdel_rise hl k) (List.mem_filter.2 ⟨vlk_mem hq, by simpa using hx⟩)
    | none =>
      cases hq2 : vlk (vdel l k) x with
      | none => rfl
      | some c =>
        rw [vlk_of hl (List.mem_filter.1 (vlk_mem hq2)).1] at hq
        cases hq
/-- A slice of numbers of its own memory, from base on. -/
def Ints (w : World) (base : Nat) (v : Value) (zs : List Int) : Prop := w.ownsRow base 3 1 v zs.length (zs.map (Value.int .i64))
theorem Ints.nil (w : World) (base : Nat) : Ints w base (.slice none 0 0) [] := World.ownsRow_nil _ _ _ _
theorem info3 : (Try.prog.info? 3).map (fun i => (i.zero, i.size, i.bytes)) = some (some (.int .i64 0), 1, 8) := by kernel_rfl
theorem one_news {X : World} {x : Addr} {t : Int} (h : X.cell? x = some (.int .i64 t)) : ∀ j y, [Value.int .i64 t][j]? = some y → X.cell? (x.add j) = some y := by
  intro j y hy
  have hj : j = 0 := by have := (List.getElem?_eq_some_iff.1 hy).1; simpa using this
  subst hj
  obtain rfl : y = .int .i64 t := by simpa using hy.symm
  rw [show x.add 0 = x by simp [Addr.add]]
  exact h
theorem own_ge {w : World} {base : Nat} {v : Value} {zs : List Int} (h : Ints w base v zs) : ∀ j, v.ownBlock = some j → base ≤ j := by
  intro j hj
  rcases h.2 with ⟨rfl, -⟩ | ⟨g, cap, cur, rfl, hg, -⟩
  · simp [Value.ownBlock] at hj
  · simp [Value.ownBlock] at hj; omega
/-- append of one number. -/
theorem wpList_append1 {w : World} {ops : Array Oper} {rest : List Oper} {o : Oper} {a : Act} {Q : Exit → Act → World → Prop} (hgd : o.guard = none) (s x : Operand)
    (ho : o.op = .call { callee := .builtin .append, args := #[s, x], argTypes := #[61, 61] }) (base : Nat) (v : Value) (zs : List Int) (t : Int) (hs : a.eval s = v) (hown : Ints w base v zs) (hx : a.eval x = .slice (some ⟨w.heap.size, 0, none⟩) 1 1) (hbase : base ≤ w.heap.size) (hlen : zs.length < 1000000)
    (h : ∀ v' w', Ints w' base v' (zs ++ [t]) → Below base w w' → Turn (fun k => v.ownBlock = some k) w w' → wpList Try.prog ops Q rest (a.put o.dst v') w') : wpList Try.prog ops Q (o :: rest) a (w.alloc (.cells #[.int .i64 t] 3)) := by
  obtain ⟨i0, hi, hz0, hz1, hz2⟩ := info_parts info3
  refine wpList_append_own _ hgd s x 61 ho base 3 i0 (.int .i64 0) 1 8 Try.underlying61 hi hz0 hz1 hz2 rfl (by decide) v zs.length (zs.map (Value.int .i64)) hs (World.ownsRow.alloc hown _) ⟨w.heap.size, 0, none⟩ 1 1 [.int .i64 t] hx rfl (one_news ((At.box w #[.int .i64 t] 3).2 0 _ rfl).1) (by simp [Value.oneCell']) (by unfold maxLen; omega) (by omega) (Nat.le_trans hbase (bel1 w _).size) ?_
  intro v' w' h1 h2 h3
  have hT : Turn (fun k => v.ownBlock = some k) w w' := (Turn.of_below (bel1 w _)).and h2 (fun j hj => Or.inl hj)
  refine h v' w' ?_ (hT.below hbase (fun k hk he => by have := own_ge hown k he; omega)) hT
  unfold Ints
  simpa using h1
theorem ints_one (w : World) (t : Int) : Ints (w.alloc (.cells #[.int .i64 t] 3)) w.heap.size (.slice (some ⟨w.heap.size, 0, none⟩) 1 1) [t] := World.ownsRow_lit w #[.int .i64 t] 1 (Nat.le_refl _) (by unfold maxLen; omega) rfl
theorem Ints.below {w : World} {b b' : Nat} {v : Value} {zs : List Int} (h : Ints w b v zs) (hb : b' ≤ b) : Ints w b' v zs := by
  obtain ⟨h1, h2⟩ := h
  refine ⟨h1, ?_⟩
  rcases h2 with h | ⟨g, cap, cur, a1, a2, a3⟩
  · exact Or.inl h
  · exact Or.inr ⟨g, cap, cur, a1, Nat.le_trans hb a2, a3⟩
theorem pigeon : ∀ (n : Nat) (l : List Nat), l.Nodup → (∀ x ∈ l, x < n) → l.length ≤ n
  | 0, l, _, h => by
    cases l with
    | nil => exact Nat.le_refl _
    | cons x r => have := h x (List.mem_cons_self ..); omega
  | n + 1, l, hn, h => by
    by_cases hm : n ∈ l
    · have h1 := pigeon n (l.erase n) (hn.erase n) (fun x hx => by
        have h2 := (List.Nodup.mem_erase_iff hn).1 hx
        have h3 := h x h2.2
        have h4 := h2.1
        omega)
      have h5 := List.length_erase_of_mem hm
      omega
    · have h1 := pigeon n l hn (fun x hx => by
        have h3 := h x hx
        have h4 : x ≠ n := fun e => hm (e ▸ hx)
        omega)
      omega
theorem row_turn {S : Nat → Prop} {w w' : World} {base : Nat} {e : TypeId} {size : Nat} {v : Value} {n : Nat} {xs : List Value} (h : w.ownsRow base e size v n xs) (ht : Turn S w w') (hs : ∀ k, v.ownBlock = some k → ¬ S k) : w'.ownsRow base e size v n xs := by
  refine ⟨h.1, ?_⟩
  rcases h.2 with h2 | ⟨g, cap, cur, hv, hg, hb, h3⟩
  · exact Or.inl h2
  · exact Or.inr ⟨g, cap, cur, hv, hg, (ht.block g (Array.getElem?_eq_some_iff.1 hb).1 (hs g (by rw [hv]; rfl))).trans hb, h3⟩
theorem row_later {w w' : World} {base : Nat} {e : TypeId} {size : Nat} {v : Value} {n : Nat} {xs : List Value} (h : w.ownsRow base e size v n xs) (hb : Below w.heap.size w w') : w'.ownsRow base e size v n xs :=
  row_turn (S := fun _ => False) h (Turn.of_below hb) (fun _ _ h => h)
theorem row_low {w : World} {base b' : Nat} {e : TypeId} {size : Nat} {v : Value} {n : Nat} {xs : List Value} (h : w.ownsRow base e size v n xs) (hb : b' ≤ base) : w.ownsRow b' e size v n xs := ⟨h.1, h.2.imp id (fun ⟨g, cap, cur, hv, hg, r⟩ => ⟨g, cap, cur, hv, Nat.le_trans hb hg, r⟩)⟩
/-! ### Rows of bytes -/
def byV (b : UInt8) : Value := .int .u8 (b.toNat : Int)
def strB (l : List UInt8) : ByteArray := ⟨l.toArray⟩
theorem strB_size (l : List UInt8) : (strB l).size = l.length := by simp [strB, ByteArray.size]
theorem strCells_strB (l : List UInt8) : strCells (strB l) = l.map byV := by simp [strCells, strB, byV]
theorem strB_list (s : ByteArray) : strB s.data.toList = s := by simp [strB]
def BO (w : World) (base : Nat) (v : Value) (bs : List UInt8) : Prop := w.ownsRow base 5 1 v bs.length (bs.map byV)
theorem BO.nil (w : World) (base : Nat) : BO w base (.slice none 0 0) [] := World.ownsRow_nil _ _ _ _
theorem info5 : (Try.prog.info? 5).map (fun i => (i.zero, i.size, i.bytes)) = some (some (.int .u8 0), 1, 1) := by kernel_rfl
theorem BO.shape {w : World} {base : Nat} {v : Value} {bs : List UInt8} (h : BO w base v bs) : ∃ a c, v = .slice a bs.length c ∧ (a = none → bs = []) ∧ bs.length ≤ c ∧ (a = none → c = 0) := by
  rcases h.2 with ⟨rfl, h0⟩ | ⟨g, cap, cur, rfl, hg, hb, h1, h2⟩
  · rw [h0]; exact ⟨none, 0, rfl, fun _ => List.length_eq_zero_iff.1 h0, Nat.le_refl _, fun _ => rfl⟩
  · exact ⟨some ⟨g, 0, none⟩, cap, rfl, (fun e => by cases e), h1, (fun e => by cases e)⟩
theorem BO.cell {w : World} {base g : Nat} {n c : Nat} {bs : List UInt8} (h : BO w base (.slice (some ⟨g, 0, none⟩) n c) bs) {j : Nat} {b : UInt8} (hj : bs[j]? = some b) : w.cell? ⟨g, j, none⟩ = some (byV b) := by
  have := h.cells (g := g) rfl j (byV b) (by rw [List.getElem?_map, hj]; rfl)
  rw [Addr.add_mid] at this
  simpa using this
/-- 's[i:j]' of bytes, and as a string. -/
theorem cut_bytes {w : World} {base : Nat} {v : Value} {bs : List UInt8} (h : BO w base v bs) {i j : Nat} (hij : i ≤ j) (hj : j ≤ bs.length) :
    ∃ v', (∀ W, (Instr.slice 50 v (some (.int .i64 (i : Int))) (some (.int .i64 (j : Int))) none).run Try.prog W = .ok v' W) ∧ (∀ W, (∀ g, v.ownBlock = some g → W.heap[g]? = w.heap[g]?) → (convert 50 9 v').run Try.prog W = .ok (.string (strB ((bs.drop i).take (j - i)))) W) := by
  obtain ⟨a, c, rfl, h0, hc, hcz⟩ := h.shape
  cases a with
  | none =>
    obtain rfl := h0 rfl
    obtain rfl := hcz rfl
    obtain rfl : j = 0 := by simpa using hj
    obtain rfl : i = 0 := by omega
    refine ⟨.slice none 0 0, fun W => by simp [Instr.slice, Instr.sliceBounds, Instr.sliceBound, asIntOf, run_underlying Try.underlying50, Result.andThen], fun W _ => ?_⟩
    have := run_convert_bytes_string (P := Try.prog) W 50 9 5 none 0 0 Try.underlying50 Try.underlying5 Try.underlying9
    rw [this]
    rfl
  | some A =>
    obtain ⟨g, cap, cur, hv, hg, hb, h1, h2, h3, h4⟩ : ∃ g cap cur, (Value.slice (some A) bs.length c) = .slice (some ⟨g, 0, none⟩) bs.length cap ∧ base ≤ g ∧ w.heap[g]? = some (.cells cur 5 (0, 0)) ∧ bs.length ≤ cap ∧ cap ≤ maxLen ∧ cur.size = cap * 1 ∧ cur.toList.take (bs.length * 1) = bs.map byV := by
      rcases h.2 with ⟨e, -⟩ | h'
      · cases e
      · exact h'
    cases hv
    refine ⟨.slice (if c = i then some ⟨g, 0, none⟩ else some ⟨g, i, none⟩) (j - i) (c - i), fun W => ?_, fun W hW => ?_⟩
    · (simp [Instr.slice, Instr.sliceBounds, Instr.sliceBound, asIntOf, run_underlying Try.underlying50, Try.sizeOf5, Result.andThen, Addr.add_mid, show i ≤ c by omega, show i ≤ bs.length by omega, show j ≤ c by omega, hij]; try (split <;> simp [Addr.add_mid, *]))
    · have hcell : ∀ k (hk : k < ((bs.drop i).take (j - i)).length), W.cell? ⟨g, i + k, none⟩ = some (.int .u8 ((((bs.drop i).take (j - i))[k]).toNat : Int)) := by
        intro k hk
        have hk' := hk
        rw [List.length_take, List.length_drop] at hk'
        rw [World.cell?_of_block (w := w) (hW g rfl)]
        refine (BO.cell h (j := i + k) (b := ((bs.drop i).take (j - i))[k]) ?_).trans rfl
        rw [List.getElem_take, List.getElem_drop]
        exact List.getElem?_eq_getElem (by omega)
      have hlen : ((bs.drop i).take (j - i)).length = j - i := by rw [List.length_take, List.length_drop]; omega
      by_cases hci : c = i
      · have e0 : j - i = 0 := by omega
        rw [if_pos hci, e0]
        have := run_convert_bytes_back (P := Try.prog) W 50 9 5 ⟨g, 0, none⟩ (c - i) [] Try.underlying50 Try.underlying5 Try.underlying9 (fun j hj => absurd hj (Nat.not_lt_zero _))
        simpa [strB] using this
      · rw [if_neg hci]
        have := run_convert_bytes_back (P := Try.prog) W 50 9 5 ⟨g, i, none⟩ (c - i) ((bs.drop i).take (j - i)) Try.underlying50 Try.underlying5 Try.underlying9 (fun k hk => by rw [Addr.add_mid]; exact hcell k hk)
        rw [hlen] at this
        exact this


abbrev PQ (q : Nat) : Value := .pointer (some ⟨q, 0, none⟩)
theorem belD (w : World) (n : Nat) : Below w.heap.size w (w.drewN n) := below_drewN (Below.refl _ _) n
theorem Turn.grown {w w' : World} {row : Option Nat} (h : Turn (fun k => row = some k) w w') : w.grownBy w' row := ⟨h.os, h.tape, h.output, h.size, fun k hk hne => h.block k hk (fun e => hne e.symm)⟩
/-! ### Sets of blocks -/
abbrev Bk := Nat → Prop
def Dj (A B : Bk) : Prop := ∀ k, A k → ¬ B k
/-- The set has taken new blocks alone. -/
def Gr (n : Nat) (A A' : Bk) : Prop := ∀ k, A' k → A k ∨ n ≤ k
def Lw (w : World) (A : Bk) : Prop := ∀ k, A k → k < w.heap.size
theorem Gr.refl (n : Nat) (A : Bk) : Gr n A A := fun _ h => Or.inl h
theorem Gr.trans {n m : Nat} {A B C : Bk} (h : Gr n A B) (g : Gr m B C) (hm : n ≤ m) : Gr n A C := fun k hk => by
  rcases g k hk with h1 | h1
  · exact h k h1
  · exact Or.inr (Nat.le_trans hm h1)
theorem Dj.symm {A B : Bk} (h : Dj A B) : Dj B A := fun k hb ha => h k ha hb
theorem Dj.gr {w : World} {A A' B : Bk} (h : Dj A B) (g : Gr w.heap.size A A') (hB : Lw w B) : Dj A' B := fun k hk hb => by
  rcases g k hk with h1 | h1
  · exact h k h1 hb
  · have := hB k hb; omega
theorem Lw.size {w w' : World} {A : Bk} (h : Lw w A) (hs : w.heap.size ≤ w'.heap.size) : Lw w' A := fun k hk => Nat.lt_of_lt_of_le (h k hk) hs
/-- What a call on one thing of its own has turned: blocks of its set alone. -/
theorem Turn.seq {A A' : Bk} {a b c : World} (h : Turn A a b) (k : Turn A' b c) (g : Gr a.heap.size A A') : Turn A a c := h.step k g
theorem Turn.keep {A B : Bk} {w w' : World} (h : Turn A w w') (hd : Dj A B) (hl : Lw w B) {k : Nat} (hk : B k) : w'.heap[k]? = w.heap[k]? := h.block k (hl k hk) (fun e => hd k e hk)
theorem below_of_turn {A : Bk} {b : Nat} {w w' : World} (h : Turn A w w') (hb : b ≤ w.heap.size) (hA : ∀ k, A k → b ≤ k) : Below b w w' := h.below hb (fun k hk e => by have := hA k e; omega)

/-! ### A queue -/
structure Rq where
  room : Nat
  next : Int
  bs : List UInt8
  ap : Nat → Option UInt8
structure Rq.Fine (Q : Rq) : Prop where
  r0 : 1 ≤ Q.room
  r1 : Q.room ≤ 65536
  n0 : 0 ≤ Q.next
  n1 : Q.next ≤ 4294967295
  ln : Q.bs.length ≤ Q.room
  ok : ∀ d, (Q.ap d).isSome = true → 0 < d ∧ d < Q.room - Q.bs.length
/-- The map holds what lies apart, by numbers. -/
def Rep (next : Int) (ap : Nat → Option UInt8) (l : List Vn) : Prop := ∀ k : Int, vlk l k = if 0 ≤ k ∧ k < 4294967296 then (ap ((k - next) % 4294967296).toNat).map byV else none
abbrev quV (Q : Rq) (v : Value) (M : Nat) : Array Value := #[.int .i64 (Q.room : Int), .int .i64 Q.next, v, .map (some M)]
structure QY (w : World) (A : Bk) (q : Nat) (Q : Rq) (M : Nat) (v : Value) (l : List Vn) : Prop where
  at4 : At w q (quV Q v M)
  vm : VM w M l
  rep : Rep Q.next Q.ap l
  bo : BO w 0 v Q.bs
  aq : A q
  aM : A M
  av : ∀ k, v.ownBlock = some k → A k ∧ k ≠ q ∧ k ≠ M
  lw : Lw w A
def QX (w : World) (A : Bk) (q : Nat) (Q : Rq) : Prop := ∃ M v l, QY w A q Q M v l
section
variable {w w' : World} {A B : Bk} {q M : Nat} {Q : Rq} {v : Value} {l : List Vn}
theorem QY.ne (h : QY w A q Q M v l) : q ≠ M := ne_at_vm h.at4 rfl h.vm
theorem QY.turn (h : QY w A q Q M v l) (ht : Turn B w w') (hd : Dj B A) : QY w' A q Q M v l :=
  ⟨h.at4.turn ht (fun e => hd q e h.aq), h.vm.turn ht (fun e => hd M e h.aM), h.rep, row_turn h.bo ht (fun k hk e => hd k e (h.av k hk).1), h.aq, h.aM, h.av, h.lw.size ht.size⟩
theorem QY.later (h : QY w A q Q M v l) (hb : Below w.heap.size w w') : QY w' A q Q M v l := h.turn (B := fun _ => False) (Turn.of_below hb) (fun _ e _ => e)
theorem QX.turn (h : QX w A q Q) (ht : Turn B w w') (hd : Dj B A) : QX w' A q Q := by
  obtain ⟨M, v, l, h⟩ := h
  exact ⟨M, v, l, h.turn ht hd⟩
theorem QX.later (h : QX w A q Q) (hb : Below w.heap.size w w') : QX w' A q Q := by
  obtain ⟨M, v, l, h⟩ := h
  exact ⟨M, v, l, h.later hb⟩
theorem QX.lw (h : QX w A q Q) : Lw w A := by
  obtain ⟨M, v, l, h⟩ := h
  exact h.lw
theorem At.four {W : World} {b : Nat} {v0 v1 v2 v3 : Value} (h : At W b #[v0, v1, v2, v3]) :
    (W.cell? ⟨b, 0, none⟩ = some v0 ∧ W.cell? ⟨b, 1, none⟩ = some v1 ∧ W.cell? ⟨b, 2, none⟩ = some v2 ∧ W.cell? ⟨b, 3, none⟩ = some v3) ∧
    (W.frozen? ⟨b, 0, none⟩ = false ∧ W.frozen? ⟨b, 1, none⟩ = false ∧ W.frozen? ⟨b, 2, none⟩ = false ∧ W.frozen? ⟨b, 3, none⟩ = false) :=
  ⟨⟨(h.2 0 _ rfl).1, (h.2 1 _ rfl).1, (h.2 2 _ rfl).1, (h.2 3 _ rfl).1⟩, (h.2 0 _ rfl).2, (h.2 1 _ rfl).2, (h.2 2 _ rfl).2, (h.2 3 _ rfl).2⟩
end
/-! ### The map as what lies apart -/
theorem rep_nil (next : Int) : Rep next (fun _ => none) [] := fun k => by simp [vlk]
theorem keep_mod {a n : Int} (h0 : 0 ≤ a) (h1 : a < n) : a % n = a := Int.emod_eq_of_lt h0 h1
def upd (ap : Nat → Option UInt8) (x : Nat) (b : UInt8) : Nat → Option UInt8 := fun y => if y = x then some b else ap y
theorem rep_at {next : Int} {ap : Nat → Option UInt8} {l : List Vn} (h : Rep next ap l) (x : Nat) (hx : x < 4294967296) (n0 : 0 ≤ next) (n1 : next < 4294967296) : vlk l ((next + (x : Int)) % 4294967296) = (ap x).map byV := by
  rw [h, if_pos (by omega)]
  have : (((next + (x : Int)) % 4294967296 - next) % 4294967296).toNat = x := by omega
  rw [this]
theorem rep_put {next : Int} {ap : Nat → Option UInt8} {l : List Vn} (h : Rep next ap l) (hl : VRise l) (x : Nat) (b : UInt8) (hx : x < 4294967296) (n0 : 0 ≤ next) (n1 : next < 4294967296) (hr : VRise (vput l ((next + (x : Int)) % 4294967296, byV b))) : Rep next (upd ap x b) (vput l ((next + (x : Int)) % 4294967296, byV b)) := by
  intro k
  rw [vlk_put hr hl]
  by_cases hk : k = (next + (x : Int)) % 4294967296
  · rw [if_pos hk, if_pos (by omega)]
    have : ((k - next) % 4294967296).toNat = x := by omega
    rw [this, upd, if_pos rfl]
    rfl
  · rw [if_neg hk, h]
    split
    · rename_i hb
      have : ((k - next) % 4294967296).toNat ≠ x := by omega
      rw [upd, if_neg this]
    · rfl
theorem rep_del {next : Int} {ap : Nat → Option UInt8} {l : List Vn} (h : Rep next ap l) (hl : VRise l) (n0 : 0 ≤ next) (n1 : next < 4294967296) (hb : ∀ d, (ap d).isSome = true → d < 65537) : Rep ((next + 1) % 4294967296) (fun x => ap (x + 1)) (vdel l next) := by
  intro k
  rw [vlk_del hl]
  by_cases hk : k = next
  · rw [if_pos hk, if_pos (by omega)]
    have : ((k - (next + 1) % 4294967296) % 4294967296).toNat + 1 = 4294967296 := by omega
    dsimp only
    rw [this]
    cases hq : ap 4294967296 with
    | none => rfl
    | some b => have := hb 4294967296 (by rw [hq]; rfl); omega
  · rw [if_neg hk, h]
    split
    · rename_i hbk
      have : ((k - (next + 1) % 4294967296) % 4294967296).toNat + 1 = ((k - next) % 4294967296).toNat := by omega
      dsimp only
      rw [this]
    · rfl
theorem vlk_none_nil {l : List Vn} (h : ∀ k, vlk l k = none) : l = [] := by
  cases l with
  | nil => rfl
  | cons y r => have := h y.1; simp [vlk] at this
theorem rep_empty {next : Int} {ap : Nat → Option UInt8} {l : List Vn} (h : Rep next ap l) (n0 : 0 ≤ next) (n1 : next < 4294967296) (hb : ∀ d, (ap d).isSome = true → d < 65537) : (l.length = 0) ↔ ∀ d, ap d = none := by
  constructor
  · intro e d
    obtain rfl := List.length_eq_zero_iff.1 e
    by_cases hd : d < 65537
    · have := rep_at h d (by omega) n0 n1
      cases hq : ap d with
      | none => rfl
      | some b => rw [hq] at this; simp [vlk] at this
    · cases hq : ap d with
      | none => rfl
      | some b => exact absurd (hb d (by rw [hq]; rfl)) hd
  · intro e
    rw [vlk_none_nil (l := l) (fun k => by rw [h]; simp [e])]
    rfl
/-- How far behind next the entries lie. -/
def offL (next : Int) (l : List Vn) : List Nat := l.map fun e => ((e.1 - next) % 4294967296).toNat
theorem key_range {next : Int} {ap : Nat → Option UInt8} {l : List Vn} (h : Rep next ap l) (hl : VRise l) {e : Vn} (he : e ∈ l) : 0 ≤ e.1 ∧ e.1 < 4294967296 ∧ (ap ((e.1 - next) % 4294967296).toNat).isSome = true := by
  have h1 := vlk_of hl (k := e.1) (v := e.2) he
  rw [h] at h1
  split at h1
  · rename_i hk
    refine ⟨hk.1, hk.2, ?_⟩
    cases hq : ap ((e.1 - next) % 4294967296).toNat with
    | none => rw [hq] at h1; cases h1
    | some b => rfl
  · cases h1
theorem off_nodup {next : Int} {ap : Nat → Option UInt8} {l : List Vn} (h : Rep next ap l) (hl : VRise l) : (offL next l).Nodup := by
  unfold offL
  rw [List.nodup_iff_pairwise_ne, List.pairwise_map]
  refine List.Pairwise.imp_of_mem ?_ hl
  intro a b ha hb hlt he
  obtain ⟨a0, a1, -⟩ := key_range h hl ha
  obtain ⟨b0, b1, -⟩ := key_range h hl hb
  omega
theorem off_mem {next : Int} {ap : Nat → Option UInt8} {l : List Vn} (h : Rep next ap l) (hl : VRise l) (n0 : 0 ≤ next) (n1 : next < 4294967296) (x : Nat) (hx : x < 4294967296) : x ∈ offL next l ↔ (ap x).isSome = true := by
  constructor
  · intro hm
    obtain ⟨e, he, rfl⟩ := List.mem_map.1 hm
    exact (key_range h hl he).2.2
  · intro hs
    have h1 := rep_at h x hx n0 n1
    cases hq : ap x with
    | none => rw [hq] at hs; cases hs
    | some b =>
      rw [hq] at h1
      refine List.mem_map.2 ⟨_, vlk_mem h1, ?_⟩
      show (((next + (x : Int)) % 4294967296 - next) % 4294967296).toNat = x
      omega
theorem rep_len {next : Int} {ap : Nat → Option UInt8} {l : List Vn} (h : Rep next ap l) (hl : VRise l) (hb : ∀ d, (ap d).isSome = true → d < 65537) : l.length ≤ 65537 := by
  have := pigeon 65537 (offL next l) (off_nodup h hl) (fun x hx => by
    obtain ⟨e, he, rfl⟩ := List.mem_map.1 hx
    exact hb _ (key_range h hl he).2.2)
  rwa [offL, List.length_map] at this
/-! ### What a Put makes -/
/-- Bytes that come at a place: what was there stays. -/
def addAp (ap : Nat → Option UInt8) (d : Nat) (s : List UInt8) : Nat → Option UInt8 := fun x => if (ap x).isSome = true then ap x else if d ≤ x then s[x - d]? else none
theorem addAp_nil (ap : Nat → Option UInt8) (d : Nat) : addAp ap d [] = ap := by
  funext x
  unfold addAp
  cases h : ap x <;> simp
theorem addAp_step_has {ap : Nat → Option UInt8} {d i : Nat} {s : List UInt8} (h : (ap (d + i)).isSome = true) : addAp ap d (s.take (i + 1)) = addAp ap d (s.take i) := by
  funext x
  unfold addAp
  by_cases hx : (ap x).isSome = true
  · rw [if_pos hx, if_pos hx]
  · rw [if_neg hx, if_neg hx]
    by_cases hd : d ≤ x
    · rw [if_pos hd, if_pos hd, List.getElem?_take, List.getElem?_take]
      have : x ≠ d + i := fun e => hx (e ▸ h)
      by_cases hi : x - d < i
      · rw [if_pos hi, if_pos (by omega)]
      · rw [if_neg hi, if_neg (by omega)]
    · rw [if_neg hd, if_neg hd]
theorem addAp_step_new {ap : Nat → Option UInt8} {d i : Nat} {s : List UInt8} {b : UInt8} (h : ap (d + i) = none) (hb : s[i]? = some b) : addAp ap d (s.take (i + 1)) = upd (addAp ap d (s.take i)) (d + i) b := by
  funext x
  unfold addAp upd
  by_cases hx : x = d + i
  · subst hx
    rw [if_pos rfl, h]
    simp [List.getElem?_take, hb]
  · rw [if_neg hx]
    dsimp only
    by_cases hs : (ap x).isSome = true
    · rw [if_pos hs, if_pos hs]
    · rw [if_neg hs, if_neg hs]
      by_cases hd : d ≤ x
      · rw [if_pos hd, if_pos hd, List.getElem?_take, List.getElem?_take]
        by_cases hi : x - d < i
        · rw [if_pos hi, if_pos (by omega)]
        · rw [if_neg hi, if_neg (by omega)]
      · rw [if_neg hd, if_neg hd]
theorem addAp_at (ap : Nat → Option UInt8) (d i : Nat) (s : List UInt8) : addAp ap d (s.take i) (d + i) = ap (d + i) := by
  unfold addAp
  cases h : ap (d + i) with
  | some b => simp
  | none => simp [List.getElem?_take]
theorem addAp_some {ap : Nat → Option UInt8} {d : Nat} {s : List UInt8} {x : Nat} (h : (addAp ap d s x).isSome = true) : (ap x).isSome = true ∨ (d ≤ x ∧ x < d + s.length) := by
  unfold addAp at h
  split at h
  · rename_i hx; exact Or.inl hx
  · split at h
    · rename_i hd
      refine Or.inr ⟨hd, ?_⟩
      cases hq : s[x - d]? with
      | none => rw [hq] at h; cases h
      | some b => have := (List.getElem?_eq_some_iff.1 hq).1; omega
    · cases h
/-- What lies there without a gap. -/
structure Run (ap : Nat → Option UInt8) (L : List UInt8) : Prop where
  has : ∀ i b, L[i]? = some b → ap i = some b
  fin : ap L.length = none
theorem Run.ex (N : Nat) : ∀ (ap : Nat → Option UInt8), (∀ d, (ap d).isSome = true → d < N) → ∃ L, Run ap L ∧ L.length ≤ N := by
  induction N with
  | zero => exact fun ap h => ⟨[], ⟨fun i b h => by simp at h, by
      show ap 0 = none
      cases hq : ap 0 with
      | none => rfl
      | some b => exact absurd (h 0 (by rw [hq]; rfl)) (by omega)⟩, Nat.le_refl _⟩
  | succ N ih =>
    intro ap h
    cases hq : ap 0 with
    | none => exact ⟨[], ⟨fun i b h => by simp at h, hq⟩, by simp⟩
    | some b =>
      obtain ⟨L, hL, hl⟩ := ih (fun x => ap (x + 1)) (fun d hd => by have := h (d + 1) hd; omega)
      refine ⟨b :: L, ⟨fun i c hc => ?_, hL.fin⟩, by simp; omega⟩
      cases i with
      | zero => simp at hc; rw [hq, hc]
      | succ i => exact hL.has i c (by simpa using hc)
theorem Run.one {ap : Nat → Option UInt8} {L L' : List UInt8} (h : Run ap L) (h' : Run ap L') : L = L' := by
  have hlt : ∀ {L L' : List UInt8}, Run ap L → Run ap L' → ¬ L.length < L'.length := fun {L L'} h h' hl => by
    have h1 := h'.has L.length L'[L.length] (List.getElem?_eq_getElem hl)
    rw [h.fin] at h1
    cases h1
  have e : L.length = L'.length := by have := hlt h h'; have := hlt h' h; omega
  refine List.ext_getElem? fun i => ?_
  by_cases hi : i < L.length
  · have h1 := h.has i _ (List.getElem?_eq_getElem hi)
    have h2 := h'.has i _ (List.getElem?_eq_getElem (by omega))
    rw [h1] at h2
    rw [List.getElem?_eq_getElem hi, List.getElem?_eq_getElem (by omega), h2]
  · rw [List.getElem?_eq_none (by omega), List.getElem?_eq_none (by omega)]
/-- next goes on over L. -/
def goQ (Q : Rq) (ap : Nat → Option UInt8) (L : List UInt8) : Rq := ⟨Q.room, (Q.next + (L.length : Int)) % 4294967296, Q.bs ++ L, fun x => ap (x + L.length)⟩
theorem goQ_fine {Q : Rq} (h : Q.Fine) {ap : Nat → Option UInt8} {L : List UInt8} (hr : Run ap L) (hb : ∀ d, (ap d).isSome = true → d < Q.room - Q.bs.length) : (goQ Q ap L).Fine := by
  have hl : L.length ≤ Q.room - Q.bs.length := by
    cases hn : L.length with
    | zero => omega
    | succ n =>
      have h1 := hr.has n _ (List.getElem?_eq_getElem (by omega))
      have := hb n (by rw [h1]; rfl)
      omega
  have hln := h.ln
  refine ⟨h.r0, h.r1, Int.emod_nonneg _ (by omega), ?_, ?_, fun d hd => ?_⟩
  · show (Q.next + (L.length : Int)) % 4294967296 ≤ 4294967295
    omega
  · show (Q.bs ++ L).length ≤ Q.room
    rw [List.length_append]; omega
  · have h1 := hb _ hd
    refine ⟨?_, ?_⟩
    · rcases Nat.eq_zero_or_pos d with e | e
      · subst e
        have : (ap (0 + L.length)).isSome = true := hd
        rw [Nat.zero_add, hr.fin] at this
        cases this
      · exact e
    · show d < Q.room - (Q.bs ++ L).length
      rw [List.length_append]; omega
end Go.Proofs.Ytkclookpdngkoaa.V
