/- Boxes, what turns; maps as rising lists; rows of numbers. -/
import Derived.Test.YtadmpdeegnppjaaGreatDoorRows
import Derived.WalkKit
import Derived.WalkSpells
import Derived.Below
import Derived.WalkSmall
import Derived.Deep.Cut
import Derived.Deep.CutRange
import Derived.Deep.MidRow
import Derived.Deep.QuietTactic
import Derived.BigQuiet
import Derived.Deep.RegionWith
import Derived.OwnWalk
import Derived.Lib.MinMax
import Derived.Deep.RegionHeld3
import Derived.Maps.RangeWalk
import Derived.Maps.OwnSet
import Derived.Maps.Ext
namespace Go.Proofs.YtadmpdeegnppjaaGreatDoor
open Go.RowKit Go.Maps
set_option maxRecDepth 100000
set_option linter.unusedVariables false
set_option linter.unusedSimpArgs false

theorem bt {a b c : World} (h : Below a.heap.size a b) (k : Below b.heap.size b c) : Below a.heap.size a c := h.trans (k.mono h.size)
theorem bel1 (w : World) (o : Obj) : Below w.heap.size w (w.alloc o) := (Below.refl _ _).alloc (Nat.le_refl _) o
theorem later {w x : World} {a : Addr} {v : Value} (hb : Below w.heap.size w x) (h : w.cell? a = some v) : x.cell? a = some v := (hb.cell (World.block_lt_of_cell? _ _ h)).trans h
/-- A boxed struct: its cells, none of them frozen. -/
def At (W : World) (b : Nat) (vs : Array Value) : Prop := b < W.heap.size ∧ ∀ i v, vs[i]? = some v → W.cell? ⟨b, i, none⟩ = some v ∧ W.frozen? ⟨b, i, none⟩ = false
theorem At.box (w : World) (vs : Array Value) (t : TypeId) : At (w.alloc (.cells vs t)) w.heap.size vs := by
  refine ⟨by simp, fun i v h => ⟨?_, ?_⟩⟩
  · simp [World.cell?_alloc_new, h]
  · rw [frozen?_alloc_cells]; simp [World.frozen?]
theorem At.later {W x : World} {b : Nat} {vs : Array Value} (h : At W b vs) (hb : Below W.heap.size W x) : At x b vs :=
  ⟨Nat.lt_of_lt_of_le h.1 hb.size, fun i v hi => ⟨YtadmpdeegnppjaaGreatDoor.later hb (h.2 i v hi).1, (hb.frozen (p := ⟨b, i, none⟩) h.1).trans (h.2 i v hi).2⟩⟩
theorem At.box2 (w : World) (o : Obj) (vs : Array Value) (t : TypeId) : At ((w.alloc o).alloc (.cells vs t)) (w.heap.size + 1) vs := by have := At.box (w.alloc o) vs t; rwa [World.size_alloc] at this
abbrev Vn := Int × Value
def hE (v : Value) : Option (DataW Value × List MemPlace) := some (.held v, [])
def vD (l : List Vn) : DataW Value := .map (l.map fun e => (.int .i64 e.1, .held e.2))
def VRise (l : List Vn) : Prop := l.Pairwise (fun x y => x.1 < y.1)
def vlk (l : List Vn) (k : Int) : Option Value := (l.find? (fun e => e.1 == k)).map (·.2)
def vins (e : Vn) : List Vn → List Vn
  | [] => [e]
  | y :: r => if e.1 < y.1 then e :: y :: r else y :: vins e r
def vdel (l : List Vn) (k : Int) : List Vn := l.filter fun x => x.1 != k
def vput (l : List Vn) (e : Vn) : List Vn := vins e (vdel l e.1)
theorem same_int (a b : Int) : (Lit.int .i64 a).sameKey (.int .i64 b) = (a == b) := by
  show decide (IntKind.i64 = IntKind.i64 ∧ a = b) = (a == b)
  by_cases h : a = b <;> simp [h]
theorem has_vD (l : List Vn) (k : Int) : Maps.has (vD l) (.int .i64 k) = (vlk l k).isSome := by
  rw [vD, has_eq, List.any_map, vlk, Option.isSome_map]
  induction l with
  | nil => rfl
  | cons y r ih =>
    simp only [List.any_cons, List.find?_cons, Function.comp, same_int] at ih ⊢
    cases h : (y.1 == k) <;> simp [ih]
theorem size_vD (l : List Vn) : Maps.size (vD l) = l.length := by simp [vD, size_eq]
theorem at_vD (l : List Vn) (k : Int) (z : Value) : (vD l).atKey (.int .i64 k) (.held z) = .held ((vlk l k).getD z) := by
  unfold vD DataW.atKey vlk
  simp only [List.find?_map]
  have : ((fun p : Lit × DataW Value => p.1.sameKey (.int .i64 k)) ∘ fun e : Vn => (Lit.int .i64 e.1, DataW.held e.2)) = fun e : Vn => e.1 == k := by
    funext e
    exact same_int e.1 k
  rw [this]
  cases l.find? (fun e => e.1 == k) <;> rfl
theorem del_vD (l : List Vn) (k : Int) : (vD l).del (.int .i64 k) = vD (vdel l k) := by
  unfold vD DataW.del vdel
  simp only [List.filter_map]
  congr 3
  funext e
  show (!(Lit.int .i64 e.1).sameKey (.int .i64 k)) = (e.1 != k)
  rw [same_int]
  rfl
theorem ins_vD (e : Vn) : ∀ l : List Vn, DataW.insert ((Lit.int .i64 e.1, DataW.held e.2) : Lit × DataW Value) (l.map fun e => (Lit.int .i64 e.1, DataW.held e.2)) = (vins e l).map fun e => (Lit.int .i64 e.1, DataW.held e.2)
  | [] => rfl
  | y :: r => by
    simp only [List.map, DataW.insert, vins]
    have : (Lit.int .i64 e.1).before (Lit.int .i64 y.1) = decide (e.1 < y.1) := rfl
    rw [this]
    by_cases h : e.1 < y.1
    · simp [h]
    · simp [h, ins_vD e r]
theorem put_vD (l : List Vn) (e : Vn) : (vD l).put (.int .i64 e.1) (.held e.2) = vD (vput l e) := by
  unfold vD DataW.put vput vdel
  simp only [List.filter_map]
  rw [← ins_vD]
  congr 4
  funext x
  show (!(Lit.int .i64 x.1).sameKey (.int .i64 e.1)) = (x.1 != e.1)
  rw [same_int]
  rfl
theorem law3 : Keyed Tryz.prog 3 := int_keyed Tryz.underlying3
/-- Block M is a map that holds l. -/
def VM (w : World) (M : Nat) (l : List Vn) : Prop := w.ownsMap Tryz.prog 3 hE M l.length (vD l) ∧ VRise l
theorem vm_len {w : World} {M n : Nat} {l : List Vn} (h : w.ownsMap Tryz.prog 3 hE M n (vD l)) : w.ownsMap Tryz.prog 3 hE M l.length (vD l) := by
  obtain ⟨es, clock, hb, F, hn, hD⟩ := h
  refine ⟨es, clock, hb, F, ?_, hD⟩
  have h2 := congrArg Maps.size hD
  rw [size_vD, size_eq, length_sorted] at h2
  simp at h2
  omega
theorem vm_rise {w : World} {M n : Nat} {l : List Vn} (h : w.ownsMap Tryz.prog 3 hE M n (vD l)) : VRise l := by
  obtain ⟨es, he, hr, -⟩ := h.canon law3
  unfold vD at he
  injection he with he
  subst he
  rw [List.pairwise_map] at hr
  exact hr.imp fun h => of_decide_eq_true h
theorem VM.of {w : World} {M n : Nat} {l : List Vn} (h : w.ownsMap Tryz.prog 3 hE M n (vD l)) : VM w M l := ⟨vm_len h, vm_rise h⟩
theorem VM.made (w : World) : VM (w.alloc (.map #[] 0)) w.heap.size [] := ⟨World.ownsMap_made _ _ _ _, List.Pairwise.nil⟩
theorem VM.lt {w : World} {M : Nat} {l : List Vn} (h : VM w M l) : M < w.heap.size := h.1.lt
/-- Of what was there nothing has turned but the blocks that S names. -/
structure Turn (S : Nat → Prop) (w w' : World) : Prop where
  os : w'.os = w.os
  tape : w'.tape = w.tape
  output : w'.output = w.output
  size : w.heap.size ≤ w'.heap.size
  block : ∀ k, k < w.heap.size → ¬ S k → w'.heap[k]? = w.heap[k]?
theorem Turn.refl {S : Nat → Prop} (w : World) : Turn S w w := ⟨rfl, rfl, rfl, Nat.le_refl _, fun _ _ _ => rfl⟩
theorem Turn.trans {S : Nat → Prop} {a b c : World} (h : Turn S a b) (k : Turn S b c) : Turn S a c :=
  ⟨k.os.trans h.os, k.tape.trans h.tape, k.output.trans h.output, Nat.le_trans h.size k.size, fun i hi hs => (k.block i (Nat.lt_of_lt_of_le hi h.size) hs).trans (h.block i hi hs)⟩
theorem Turn.of_below {S : Nat → Prop} {w w' : World} (h : Below w.heap.size w w') : Turn S w w' := ⟨h.os, h.tape, h.output, h.size, fun k hk _ => h.block k hk⟩
theorem Turn.of_grown {S : Nat → Prop} {w w' : World} {row : Option Nat} (h : w.grownBy w' row) (hS : ∀ j, row = some j → S j ∨ w.heap.size ≤ j) : Turn S w w' :=
  ⟨h.os, h.tape, h.output, h.size, fun k hk hs => h.block k hk (fun e => by rcases hS k e.symm with h | h; exact hs h; omega)⟩
theorem Turn.and {S : Nat → Prop} {w w1 w' : World} {row : Option Nat} (h : Turn S w w1) (k : w1.grownBy w' row) (hS : ∀ j, row = some j → S j ∨ w.heap.size ≤ j) : Turn S w w' :=
  ⟨k.os.trans h.os, k.tape.trans h.tape, k.output.trans h.output, Nat.le_trans h.size k.size, fun i hi hs => (k.block i (Nat.lt_of_lt_of_le hi h.size) (fun e => by rcases hS i e.symm with h | h; exact hs h; omega)).trans (h.block i hi hs)⟩
theorem Turn.later {S : Nat → Prop} {w w1 w' : World} (h : Turn S w w1) (k : Below w1.heap.size w1 w') : Turn S w w' := h.trans (Turn.of_below k)
/-- Two steps; what the second one turned lies among S, or is younger than the first world. -/
theorem Turn.step {S S' : Nat → Prop} {a b c : World} (h : Turn S a b) (k : Turn S' b c) (hS : ∀ j, S' j → S j ∨ a.heap.size ≤ j) : Turn S a c :=
  ⟨k.os.trans h.os, k.tape.trans h.tape, k.output.trans h.output, Nat.le_trans h.size k.size, fun i hi hs => (k.block i (Nat.lt_of_lt_of_le hi h.size) (fun e => by rcases hS i e with h | h; exact hs h; omega)).trans (h.block i hi hs)⟩
theorem Turn.below {S : Nat → Prop} {w w' : World} {n : Nat} (h : Turn S w w') (hn : n ≤ w.heap.size) (hS : ∀ k, k < n → ¬ S k) : Below n w w' :=
  ⟨h.os, h.tape, h.output, h.size, fun k hk => h.block k (Nat.lt_of_lt_of_le hk hn) (hS k hk)⟩
theorem Turn.mono {S S' : Nat → Prop} {w w' : World} (h : Turn S w w') (hS : ∀ k, S k → S' k) : Turn S' w w' :=
  ⟨h.os, h.tape, h.output, h.size, fun k hk hs => h.block k hk (fun e => hs (hS k e))⟩
theorem Turn.cell {S : Nat → Prop} {w w' : World} (h : Turn S w w') {b : Nat} (hb : b < w.heap.size) (hs : ¬ S b) (o : Nat) : w'.cell? ⟨b, o, none⟩ = w.cell? ⟨b, o, none⟩ := World.cell?_of_block (h.block b hb hs)
theorem Turn.undrew {S : Nat → Prop} {w w' : World} (h : Turn S w.drew w') : Turn S w w' := ⟨h.os, h.tape, h.output, h.size, h.block⟩
theorem Turn.undrewN {S : Nat → Prop} {w w' : World} {n : Nat} (h : Turn S (w.drewN n) w') : Turn S w w' := ⟨h.os, h.tape, h.output, h.size, h.block⟩
theorem bel_undrew {w w' : World} (h : Below w.drew.heap.size w.drew w') : Below w.heap.size w w' := ⟨h.os, h.tape, h.output, h.size, h.block⟩
theorem At.turn {S : Nat → Prop} {W x : World} {b : Nat} {vs : Array Value} (h : At W b vs) (ht : Turn S W x) (hs : ¬ S b) : At x b vs :=
  ⟨Nat.lt_of_lt_of_le h.1 ht.size, fun i v hv => by
    obtain ⟨a, b'⟩ := h.2 i v hv
    exact ⟨(ht.cell h.1 hs i).trans a, (World.frozen?_of_block (ht.block b h.1 hs)).trans b'⟩⟩
theorem At.set {W : World} {b : Nat} {vs : Array Value} (h : At W b vs) (i : Nat) (u : Value) : At (W.setCell ⟨b, i, none⟩ u) b (vs.setIfInBounds i u) := by
  refine ⟨by rw [World.size_setCell]; exact h.1, fun j v hj => ?_⟩
  rw [World.frozen?_setCell]
  rw [Array.getElem?_setIfInBounds] at hj
  by_cases e : i = j
  · subst e
    rw [if_pos rfl] at hj
    by_cases l : i < vs.size
    · rw [if_pos l] at hj
      cases hj
      obtain ⟨c, f⟩ := h.2 i vs[i] (Array.getElem?_eq_getElem l)
      exact ⟨World.cell?_setCell_same _ _ _ c, f⟩
    · rw [if_neg l] at hj
      cases hj
  · rw [if_neg e] at hj
    obtain ⟨c, f⟩ := h.2 j v hj
    exact ⟨(World.cell?_setCell_other _ _ _ _ (by intro q; cases q; exact e rfl)).trans c, f⟩
theorem turn_set (w : World) (b o : Nat) (u : Value) : Turn (fun j => j = b) w (w.setCell ⟨b, o, none⟩ u) :=
  ⟨rfl, rfl, rfl, by simp, fun k _ hk => heap_setCell_other w ⟨b, o, none⟩ k u (fun e => hk e)⟩
theorem VM.turn {S : Nat → Prop} {w w' : World} {M : Nat} {l : List Vn} (h : VM w M l) (ht : Turn S w w') (hs : ¬ S M) : VM w' M l := by
  obtain ⟨⟨es, clock, hb, hr⟩, h2⟩ := h
  exact ⟨⟨es, clock, (ht.block M (Array.getElem?_eq_some_iff.1 hb).1 hs).trans hb, hr⟩, h2⟩
theorem VM.later {w w' : World} {M : Nat} {l : List Vn} (h : VM w M l) (hb : Below w.heap.size w w') : VM w' M l := h.turn (S := fun _ => False) (Turn.of_below hb) (fun h => h)
theorem ne_at_vm {w : World} {B M : Nat} {vs : Array Value} {x : Value} {l : List Vn} (hA : At w B vs) (h0 : vs[0]? = some x) (hL : VM w M l) : B ≠ M := by
  intro e
  subst e
  obtain ⟨⟨es, clock, hb, -⟩, -⟩ := hL
  have := (hA.2 0 x h0).1
  simp [World.cell?, hb] at this
section
variable {w : World} {M : Nat} {l : List Vn} {t e : TypeId} {z : Value} {k : Int}
theorem VM.look (h : VM w M l) (ht : Tryz.prog.underlying t = some (.map 3 e)) (hz : ∀ w, (zeroValue e).run Tryz.prog w = .ok z w) (hk : (Lit.int .i64 k).wf = true) : (Instr.lookup t (.map (some M)) (.int .i64 k) false).run Tryz.prog w = .ok ((vlk l k).getD z) w := by
  obtain ⟨v, ps, hr, hv⟩ := h.1.lookup law3 ht (hz w) (zd := .held z) (zp := []) rfl (keyOf_int_mk Tryz.underlying3 hk)
  rw [at_vD] at hv
  unfold hE at hv
  injection hv with hv
  injection hv with h1 h2
  injection h1 with h1
  rw [hr, h1]
/-- 'v, ok := m[k]'. -/
theorem wpList_lookup_vm {ops : Array Oper} {rest : List Oper} {o : Oper} {a : Act} {Q : Exit → Act → World → Prop} (hg : o.guard = none) (m x : Operand) (hop : o.op = Op.lookup t m x true) (M : Nat) (l : List Vn) (k : Int) (hk : (Lit.int .i64 k).wf = true) (ht : Tryz.prog.underlying t = some (.map 3 e)) (hz : ∀ w, (zeroValue e).run Tryz.prog w = .ok z w)
    (hm : a.eval m = .map (some M)) (hown : VM w M l) (hx : a.eval x = .int .i64 k) (hK : wpList Tryz.prog ops Q rest (a.put o.dst (.tuple #[(vlk l k).getD z, .bool (vlk l k).isSome])) w) : wpList Tryz.prog ops Q (o :: rest) a w := by
  refine wpList_lookup_own_ok w hg m x t hop 3 e law3 ht hE (hz w) (.held z) [] rfl M l.length (vD l) hm hown.1 _ _ hx (keyOf_int_mk Tryz.underlying3 hk) ?_
  intro v ps hv
  rw [at_vD] at hv
  unfold hE at hv
  injection hv with hv
  injection hv with h1 h2
  injection h1 with h1
  rw [has_vD, h1]
  exact hK
theorem VM.put (h : VM w M l) (ht : Tryz.prog.underlying t = some (.map 3 e)) (hn : l.length < 1000000) (hk : (Lit.int .i64 k).wf = true) (v : Value) :
    ∃ w', (Instr.mapUpdate t (.map (some M)) (.int .i64 k) v).run Tryz.prog w = .ok () w' ∧ VM w' M (vput l (k, v)) ∧ Turn (fun j => j = M) w w' := by
  obtain ⟨w', hr, ho, hg⟩ := h.1.update law3 ht (by unfold maxLen; omega) (val := v) (d := .held v) (ps := []) (keyOf_int_mk Tryz.underlying3 hk) rfl
  rw [put_vD l (k, v)] at ho
  exact ⟨w', hr, VM.of ho, Turn.of_grown hg (fun j hj => by cases hj; exact Or.inl rfl)⟩
theorem VM.del (h : VM w M l) (ht : Tryz.prog.underlying t = some (.map 3 e)) (hk : (Lit.int .i64 k).wf = true) (ty : TypeId) :
    ∃ w', (Builtin.delete_ #[t, 3] ty #[.map (some M), .int .i64 k]).run Tryz.prog w = .ok (.tuple #[]) w' ∧ VM w' M (vdel l k) ∧ Turn (fun j => j = M) w w' := by
  obtain ⟨w', hr, ho, hg⟩ := h.1.drop law3 ht (keyOf_int_mk Tryz.underlying3 hk) ty
  rw [del_vD] at ho
  exact ⟨w', hr, VM.of ho, Turn.of_grown hg.grown (fun j hj => by cases hj; exact Or.inl rfl)⟩
theorem wpList_delete_vm {ops : Array Oper} {rest : List Oper} {o : Oper} {a : Act} {Q : Exit → Act → World → Prop} (hg : o.guard = none) (m x : Operand) (hop : o.op = Op.call { callee := Callee.builtin Builtin.delete, args := #[m, x], argTypes := #[t, 3] }) (M : Nat) (l : List Vn) (k : Int) (hk : (Lit.int .i64 k).wf = true) (ht : Tryz.prog.underlying t = some (.map 3 e))
    (hm : a.eval m = .map (some M)) (hown : VM w M l) (hx : a.eval x = .int .i64 k) (hK : ∀ w', VM w' M (vdel l k) → Turn (fun j => j = M) w w' → wpList Tryz.prog ops Q rest (a.put o.dst (.tuple #[])) w') : wpList Tryz.prog ops Q (o :: rest) a w := by
  refine wpList_delete_own w hg m x t 3 hop e law3 ht hE M l.length (vD l) hm hown.1 _ _ hx (keyOf_int_mk Tryz.underlying3 hk) ?_
  intro w' ho hg
  rw [del_vD] at ho
  exact hK w' (VM.of ho) (Turn.of_grown hg.grown (fun j hj => by cases hj; exact Or.inl rfl))
theorem wpList_put_vm {ops : Array Oper} {rest : List Oper} {o : Oper} {a : Act} {Q : Exit → Act → World → Prop} (hg : o.guard = none) (m x y : Operand) (hop : o.op = Op.mapUpdate t m x y) (M : Nat) (l : List Vn) (k : Int) (v : Value) (hk : (Lit.int .i64 k).wf = true) (ht : Tryz.prog.underlying t = some (.map 3 e)) (hn : l.length < 1000000)
    (hm : a.eval m = .map (some M)) (hown : VM w M l) (hx : a.eval x = .int .i64 k) (hy : a.eval y = v) (hK : ∀ w', VM w' M (vput l (k, v)) → Turn (fun j => j = M) w w' → wpList Tryz.prog ops Q rest (a.put o.dst undef) w') : wpList Tryz.prog ops Q (o :: rest) a w := by
  refine wpList_plain hg fun K' hK' => ?_
  obtain ⟨w', hrun, r1, r2⟩ := hown.put ht hn hk v
  unfold Oper.wp
  simp [execOp, hop, hm, hx, hy, hrun, Result.andThen]
  exact hK' _ _ (hK w' r1 r2)
theorem VM.len (h : VM w M l) (ht : Tryz.prog.underlying t = some (.map 3 e)) (ty : TypeId) : (Builtin.len_ #[t] ty #[.map (some M)]).run Tryz.prog w = .ok (.int .i64 l.length) w := by
  have := h.1.len ht ty
  rwa [size_vD] at this
end
theorem vuniq {l : List Vn} (h : VRise l) {e e' : Vn} (he : e ∈ l) (he' : e' ∈ l) (hk : e.1 = e'.1) : e = e' := by
  induction l with
  | nil => cases he
  | cons y r ih =>
    have hy := List.pairwise_cons.1 h
    rcases List.mem_cons.1 he with h1 | h1
    · rcases List.mem_cons.1 he' with h2 | h2
      · rw [h1, h2]
      · have := hy.1 _ h2; rw [h1] at hk; omega
    · rcases List.mem_cons.1 he' with h2 | h2
      · have := hy.1 _ h1; rw [h2] at hk; omega
      · exact ih hy.2 h1 h2
theorem vlk_mem {l : List Vn} {k : Int} {v : Value} (h : vlk l k = some v) : (k, v) ∈ l := by
  unfold vlk at h
  cases hf : l.find? (fun e => e.1 == k) with
  | none => rw [hf] at h; cases h
  | some e =>
    rw [hf] at h
    have h1 := List.find?_some hf
    have h2 := List.mem_of_find?_eq_some hf
    simp at h1 h
    subst h1 h
    exact h2
theorem vlk_of {l : List Vn} (hr : VRise l) {k : Int} {v : Value} (h : (k, v) ∈ l) : vlk l k = some v := by
  unfold vlk
  cases hf : l.find? (fun e => e.1 == k) with
  | none =>
    rw [List.find?_eq_none] at hf
    have := hf _ h
    simp at this
  | some e =>
    have h1 := List.find?_some hf
    have h2 := List.mem_of_find?_eq_some hf
    simp at h1
    have := vuniq hr h2 h h1
    subst this
    rfl
theorem mem_vins {e x : Vn} : ∀ {l : List Vn}, x ∈ vins e l ↔ x = e ∨ x ∈ l
  | [] => by simp [vins]
  | y :: r => by
    unfold vins
    split
    · simp
    · simp only [List.mem_cons, mem_vins (l := r)]
      constructor
      · rintro (h | h | h) <;> simp [h]
      · rintro (h | h | h) <;> simp [h]
theorem len_vins (e : Vn) : ∀ l : List Vn, (vins e l).length = l.length + 1
  | [] => rfl
  | y :: r => by
    unfold vins
    split
    · simp
    · simp [len_vins e r]
theorem vlk_put {l : List Vn} {k x : Int} {v : Value} (hr : VRise (vput l (k, v))) (hl : VRise l) : vlk (vput l (k, v)) x = if x = k then some v else vlk l x := by
  by_cases hx : x = k
  · rw [if_pos hx, hx]
    exact vlk_of hr (mem_vins.2 (Or.inl rfl))
  · rw [if_neg hx]
    cases hq : vlk l x with
    | some c => exact vlk_of hr (mem_vins.2 (Or.inr (List.mem_filter.2 ⟨vlk_mem hq, by simpa using hx⟩)))
    | none =>
      cases hq2 : vlk (vput l (k, v)) x with
      | none => rfl
      | some c =>
        rcases mem_vins.1 (vlk_mem hq2) with h | h
        · exact absurd (congrArg Prod.fst h) hx
        · rw [vlk_of hl (List.mem_filter.1 h).1] at hq
          cases hq
theorem vdel_rise {l : List Vn} (hl : VRise l) (k : Int) : VRise (vdel l k) := List.Pairwise.filter _ hl
theorem vlk_del {l : List Vn} (hl : VRise l) {k x : Int} : vlk (vdel l k) x = if x = k then none else vlk l x := by
  by_cases hx : x = k
  · rw [if_pos hx, hx]
    cases hq : vlk (vdel l k) k with
    | none => rfl
    | some c =>
      have := (List.mem_filter.1 (vlk_mem hq)).2
      simp at this
  · rw [if_neg hx]
    cases hq : vlk l x with
    | some c => exact vlk_of (vdel_rise hl k) (List.mem_filter.2 ⟨vlk_mem hq, by simpa using hx⟩)
    | none =>
      cases hq2 : vlk (vdel l k) x with
      | none => rfl
      | some c =>
        rw [vlk_of hl (List.mem_filter.1 (vlk_mem hq2)).1] at hq
        cases hq
theorem VM.clear {w : World} {M : Nat} {l : List Vn} {t e : TypeId} (h : VM w M l) (ht : Tryz.prog.underlying t = some (.map 3 e)) (ty : TypeId) :
    ∃ w', (Builtin.clear_ #[t] ty #[.map (some M)]).run Tryz.prog w = .ok (.tuple #[]) w' ∧ VM w' M [] ∧ Turn (fun j => j = M) w w' := by
  obtain ⟨⟨es, clock, hb, F, hn, hD⟩, hr⟩ := h
  have hs := MapKept.heap_set (o' := .map #[] clock) hb
  refine ⟨{ w with heap := w.heap.setIfInBounds M (.map #[] clock) }, ?_, ⟨⟨#[], clock, hs.1, ⟨by simp, MapKept.stamped_empty clock, by simp⟩, Nat.le_refl _, rfl⟩, List.Pairwise.nil⟩, rfl, rfl, rfl, by simp, fun k _ hne => hs.2 k hne⟩
  simp [Builtin.clear_, run_underlying ht, MapKept.run_getObj_map hb, MapKept.run_setObj_map _ hb, Result.andThen]
theorem wpList_clear_vm {w : World} {M : Nat} {l : List Vn} {t e : TypeId} {ops : Array Oper} {rest : List Oper} {o : Oper} {a : Act} {Q : Exit → Act → World → Prop} (hg : o.guard = none) (m : Operand) (hop : o.op = Op.call { callee := Callee.builtin Builtin.clear, args := #[m], argTypes := #[t] }) (ht : Tryz.prog.underlying t = some (.map 3 e))
    (hm : a.eval m = .map (some M)) (hown : VM w M l) (hK : ∀ w', VM w' M [] → Turn (fun j => j = M) w w' → wpList Tryz.prog ops Q rest (a.put o.dst (.tuple #[])) w') : wpList Tryz.prog ops Q (o :: rest) a w := by
  refine wpList_plain hg fun K' hK' => ?_
  obtain ⟨w', hrun, r1, r2⟩ := hown.clear ht o.type
  unfold Oper.wp
  simp [execOp, hop, resolve, invoke, builtin, hm, hrun, Result.andThen]
  exact hK' _ _ (hK w' r1 r2)
theorem info3 : (Tryz.prog.info? 3).map (fun i => (i.zero, i.size, i.bytes)) = some (some (.int .i64 0), 1, 8) := by kernel_rfl
theorem one_news {X : World} {x : Addr} {t : Int} (h : X.cell? x = some (.int .i64 t)) : ∀ j y, [Value.int .i64 t][j]? = some y → X.cell? (x.add j) = some y := by
  intro j y hy
  have hj : j = 0 := by have := (List.getElem?_eq_some_iff.1 hy).1; simpa using this
  subst hj
  obtain rfl : y = .int .i64 t := by simpa using hy.symm
  rw [show x.add 0 = x by simp [Addr.add]]
  exact h
/-- A list of numbers: it has none, or it leads to a row of cells that hold them. -/
def Row (w : World) (a : Option Addr) (zs : List Int) : Prop :=
  zs = [] ∨ ∃ b off, a = some ⟨b, off, none⟩ ∧ ∀ j, j < zs.length → w.cell? ⟨b, off + j, none⟩ = some (.int .i64 (zs.getD j 0))
theorem tmod_round (n m : Int) (hm : 0 < m) : (n.tmod m + m) % m = n % m ∧ -m < n.tmod m ∧ n.tmod m < m := by
  refine ⟨?_, ?_, Int.tmod_lt_of_pos n hm⟩
  · rw [Int.add_emod_right]
    by_cases h0 : 0 ≤ n
    · rw [Int.tmod_eq_emod_of_nonneg h0, Int.emod_emod]
    · obtain ⟨k, rfl⟩ : ∃ k : Int, n = -k := ⟨-n, by omega⟩
      rw [Int.neg_tmod, Int.tmod_eq_emod_of_nonneg (by omega : 0 ≤ k)]
      have e : -k = -(k % m) + m * (-(k / m)) := by have := Int.emod_add_mul_ediv k m; rw [Int.mul_neg]; omega
      have h := Int.add_mul_emod_self_left (-(k % m)) m (-(k / m))
      rw [← e] at h; exact h.symm
  · by_cases h0 : 0 ≤ n
    · have := Int.tmod_nonneg m h0; omega
    · obtain ⟨k, rfl⟩ : ∃ k : Int, n = -k := ⟨-n, by omega⟩
      rw [Int.neg_tmod]; have := Int.tmod_lt_of_pos k hm; omega
theorem At.drewN {W : World} {b : Nat} {vs : Array Value} (h : At W b vs) (n : Nat) : At (W.drewN n) b vs := h.later (below_drewN (Below.refl _ _) n)
theorem Turn.grown {w w' : World} {row : Option Nat} (h : Turn (fun k => row = some k) w w') : w.grownBy w' row := ⟨h.os, h.tape, h.output, h.size, fun k hk hne => h.block k hk (fun e => hne e.symm)⟩
end Go.Proofs.YtadmpdeegnppjaaGreatDoor
