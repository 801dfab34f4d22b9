/- the texts KFa, KFb, in part, merged by program -/
import Derived.Test.YthjbmloemmggaaaGreatDoorRows
import Derived.Maps.RangeWalk
import Derived.Maps.OwnSet
import Derived.Maps.Ext
import Derived.Maps.Keyed
import Derived.DeepKeys4
import Derived.WalkSmall
import Derived.Deep.Cut
import Derived.Deep.CutRange
import Derived.Deep.MidRow
import Derived.Deep.QuietTactic
import Derived.BigQuiet
import Derived.Deep.RegionWith
import Derived.OwnWalk
import Derived.WalkSpells
import Derived.Laws.CopyRow
import Derived.WalkKit
import Derived.Laws.OwnMore
import Derived.Laws.AppendOwn
import Derived.Laws.AppendOwnNone
import Derived.Carry
import Derived.Deep.RegionHeld3
import Derived.LoopN
import Derived.Test.YthjbmloemmggaaaGreatDoorMA01
import Derived.Test.YthjbmloemmggaaaGreatDoorMA04
namespace Go.Proofs.YthjbmloemmggaaaGreatDoor.Ip
open Go.RowKit Go.Maps
set_option maxRecDepth 100000
set_option linter.unusedVariables false
set_option linter.unusedSimpArgs false

structure Turn (S : Nat → Prop) (w w' : World) : Prop where
  os : w'.os = w.os
  tape : w'.tape = w.tape
  output : w'.output = w.output
  size : w.heap.size ≤ w'.heap.size
  block : ∀ k, k < w.heap.size → ¬ S k → w'.heap[k]? = w.heap[k]?
theorem Turn.refl {S : Nat → Prop} (w : World) : Turn S w w := ⟨rfl, rfl, rfl, Nat.le_refl _, fun _ _ _ => rfl⟩
theorem Turn.trans {S : Nat → Prop} {a b c : World} (h : Turn S a b) (k : Turn S b c) : Turn S a c :=
  ⟨k.os.trans h.os, k.tape.trans h.tape, k.output.trans h.output, Nat.le_trans h.size k.size, fun i hi hs => (k.block i (Nat.lt_of_lt_of_le hi h.size) hs).trans (h.block i hi hs)⟩
theorem Turn.of_below {S : Nat → Prop} {w w' : World} (h : Below w.heap.size w w') : Turn S w w' := ⟨h.os, h.tape, h.output, h.size, fun k hk _ => h.block k hk⟩
theorem Turn.of_grown {S : Nat → Prop} {w w' : World} {row : Option Nat} (h : w.grownBy w' row) (hS : ∀ j, row = some j → S j ∨ w.heap.size ≤ j) : Turn S w w' :=
  ⟨h.os, h.tape, h.output, h.size, fun k hk hs => h.block k hk (fun e => by rcases hS k e.symm with h | h; exact hs h; omega)⟩
theorem Turn.and {S : Nat → Prop} {w w1 w' : World} {row : Option Nat} (h : Turn S w w1) (k : w1.grownBy w' row) (hS : ∀ j, row = some j → S j ∨ w.heap.size ≤ j) : Turn S w w' :=
  ⟨k.os.trans h.os, k.tape.trans h.tape, k.output.trans h.output, Nat.le_trans h.size k.size, fun i hi hs => (k.block i (Nat.lt_of_lt_of_le hi h.size) (fun e => by rcases hS i e.symm with h | h; exact hs h; omega)).trans (h.block i hi hs)⟩
theorem Turn.later {S : Nat → Prop} {w w1 w' : World} (h : Turn S w w1) (k : Below w1.heap.size w1 w') : Turn S w w' := h.trans (Turn.of_below k)
theorem Turn.step {S S' : Nat → Prop} {a b c : World} (h : Turn S a b) (k : Turn S' b c) (hS : ∀ j, S' j → S j ∨ a.heap.size ≤ j) : Turn S a c :=
  ⟨k.os.trans h.os, k.tape.trans h.tape, k.output.trans h.output, Nat.le_trans h.size k.size, fun i hi hs => (k.block i (Nat.lt_of_lt_of_le hi h.size) (fun e => by rcases hS i e with h | h; exact hs h; omega)).trans (h.block i hi hs)⟩
theorem Turn.below {S : Nat → Prop} {w w' : World} {n : Nat} (h : Turn S w w') (hn : n ≤ w.heap.size) (hS : ∀ k, k < n → ¬ S k) : Below n w w' :=
  ⟨h.os, h.tape, h.output, h.size, fun k hk => h.block k (Nat.lt_of_lt_of_le hk hn) (hS k hk)⟩
theorem Turn.mono {S S' : Nat → Prop} {w w' : World} (h : Turn S w w') (hS : ∀ k, S k → S' k) : Turn S' w w' :=
  ⟨h.os, h.tape, h.output, h.size, fun k hk hs => h.block k hk (fun e => hs (hS k e))⟩
theorem Turn.cell {S : Nat → Prop} {w w' : World} (h : Turn S w w') {b : Nat} (hb : b < w.heap.size) (hs : ¬ S b) (o : Nat) : w'.cell? ⟨b, o, none⟩ = w.cell? ⟨b, o, none⟩ := World.cell?_of_block (h.block b hb hs)
theorem Turn.undrew {S : Nat → Prop} {w w' : World} (h : Turn S w.drew w') : Turn S w w' := ⟨h.os, h.tape, h.output, h.size, h.block⟩
theorem bel_undrew {w w' : World} (h : Below w.drew.heap.size w.drew w') : Below w.heap.size w w' := ⟨h.os, h.tape, h.output, h.size, h.block⟩
theorem At.turn {S : Nat → Prop} {W x : World} {b : Nat} {vs : Array Value} (h : At W b vs) (ht : Turn S W x) (hs : ¬ S b) : At x b vs :=
  ⟨Nat.lt_of_lt_of_le h.1 ht.size, fun i v hv => by
    obtain ⟨a, b'⟩ := h.2 i v hv
    exact ⟨(ht.cell h.1 hs i).trans a, (World.frozen?_of_block (ht.block b h.1 hs)).trans b'⟩⟩
theorem At.set {W : World} {b : Nat} {vs : Array Value} (h : At W b vs) (i : Nat) (u : Value) : At (W.setCell ⟨b, i, none⟩ u) b (vs.setIfInBounds i u) := by
  refine ⟨by rw [World.size_setCell]; exact h.1, fun j v hj => ?_⟩
  rw [World.frozen?_setCell]
  rw [Array.getElem?_setIfInBounds] at hj
  by_cases e : i = j
  · subst e
    rw [if_pos rfl] at hj
    by_cases l : i < vs.size
    · rw [if_pos l] at hj
      cases hj
      obtain ⟨c, f⟩ := h.2 i vs[i] (Array.getElem?_eq_getElem l)
      exact ⟨World.cell?_setCell_same _ _ _ c, f⟩
    · rw [if_neg l] at hj
      cases hj
  · rw [if_neg e] at hj
    obtain ⟨c, f⟩ := h.2 j v hj
    exact ⟨(World.cell?_setCell_other _ _ _ _ (by intro q; cases q; exact e rfl)).trans c, f⟩
theorem turn_set (w : World) (b o : Nat) (u : Value) : Turn (fun j => j = b) w (w.setCell ⟨b, o, none⟩ u) :=
  ⟨rfl, rfl, rfl, by simp, fun k _ hk => heap_setCell_other w ⟨b, o, none⟩ k u (fun e => hk e)⟩
theorem run_copy_rowk {P : Program} (w : World) (dT sT ty elem : TypeId) (k g o dLen dCap : Nat) (a : Addr) (sLen sCap n : Nat) (cur : Array Value) (t : TypeId) (cs : List Value)
    (hu : P.underlying dT = some (.slice elem)) (hs : (P.info? elem).map (·.size) = some k)
    (hg : w.heap[g]? = some (.cells cur t (0, 0))) (hn : Nat.min sLen dLen = n) (hcl : cs.length = n * k)
    (hsrc : ∀ j v, cs[j]? = some v → w.cell? (a.add j) = some v) (hfit : o + cs.length ≤ cur.size) (h1 : ∀ v ∈ cs, v.oneCell' = true) :
    (Builtin.copy_ #[dT, sT] ty #[.slice (some ⟨g, o, none⟩) dLen dCap, .slice (some a) sLen sCap]).run P w =
      .ok (goInt n) (w.setRow g (cur.toList.take o ++ cs ++ cur.toList.drop (o + cs.length)).toArray) := by
  have hl := run_loadCells_list (P := P) w a cs hsrc
  have hst := run_storeCells_at P g o t cs 0 cur w hg (by simpa using hfit) h1
  cases hq : P.info? elem with
  | none => simp [hq] at hs
  | some i =>
    have hi : i.size = k := by simpa [hq] using hs
    rw [hcl] at hl
    simp [Builtin.copy_, run_underlying hu, Builtin.lenOf, Builtin.firstCells, sizeOf, typeInfo, hq, hi, hn, hl, hst]
structure Mk where
  f : Int
  t : Int
  pr : Int
  id : Int
deriving DecidableEq
def Mk.V (m : Mk) : Value := .agg #[.int .i64 m.f, .int .i64 m.t, .int .i64 m.pr, .int .i64 m.id]
def Mk.wf (m : Mk) : Prop := (Lit.int .i64 m.f).wf = true ∧ (Lit.int .i64 m.t).wf = true ∧ (Lit.int .i64 m.pr).wf = true ∧ (Lit.int .i64 m.id).wf = true
def Mk.lit (m : Mk) : Lit := .string (keyBytes [.int .i64 m.f, .int .i64 m.t, .int .i64 m.pr, .int .i64 m.id])
theorem laidOut : laidOutB Tryz.prog = true := by kernel_rfl
theorem lawM : Keyed Tryz.prog 113 := Keyed.of_law (deep_law_laid laidOut (m := 3) (by omega) (of_decide_eq_true (by kernel_rfl)) (by kernel_rfl) (by kernel_rfl))
theorem cellsM : Tryz.prog.cellsOf 113 = 4 := by kernel_rfl
theorem cells3 : Tryz.prog.cellsOf 3 = 1 := by kernel_rfl
theorem keyTM : Tryz.prog.keyType 113 = true := by kernel_rfl
theorem sizeT : ∃ n, Tryz.prog.types.size + 1 = n + 2 := by
  have : 2 ≤ Tryz.prog.types.size := of_decide_eq_true (by kernel_rfl)
  exact ⟨Tryz.prog.types.size - 1, by omega⟩
theorem lit3 (n : Nat) {x : Int} (h : (Lit.int .i64 x).wf = true) : Tryz.prog.keyLits (n + 1) 3 [.int .i64 x] = some [.int .i64 x] := by
  unfold Program.keyLits
  simp only [Tryz.underlying3]
  rw [if_pos]
  first | exact ⟨rfl, h⟩ | exact ⟨trivial, h⟩
theorem litM (n : Nat) {a b c d : Int} (h1 : (Lit.int .i64 a).wf = true) (h2 : (Lit.int .i64 b).wf = true) (h3 : (Lit.int .i64 c).wf = true) (h4 : (Lit.int .i64 d).wf = true) : Tryz.prog.keyLits (n + 2) 113 [.int .i64 a, .int .i64 b, .int .i64 c, .int .i64 d] = some [.int .i64 a, .int .i64 b, .int .i64 c, .int .i64 d] := by
  unfold Program.keyLits
  simp only [Tryz.underlying113, cellsM, cells3]
  rw [if_pos ⟨by first | trivial | rfl, by kernel_rfl⟩]
  simp only [List.mapM_cons, List.mapM_nil, List.drop, cells3, List.take, lit3 n h1, lit3 n h2, lit3 n h3, lit3 n h4]
  rfl
theorem formM (a b c d : Int) : (Value.agg #[.int .i64 a, .int .i64 b, .int .i64 c, .int .i64 d]).formed Tryz.prog 113 = true := by
  simp only [Value.formed, Tryz.underlying113, cellsM]
  rfl
theorem Mk.key (m : Mk) (h : m.wf) : keyOf Tryz.prog 113 m.V = some m.lit := by
  obtain ⟨h1, h2, h3, h4⟩ := h
  obtain ⟨n, hn⟩ := sizeT
  unfold keyOf Mk.V Mk.lit
  rw [Tryz.underlying113]
  simp only [keyTM, formM, Bool.and_self, if_true, Value.cells, hn, litM n h1 h2 h3 h4]
  rfl
theorem Mk.inj {a b : Mk} (ha : a.wf) (hb : b.wf) (h : a.lit = b.lit) : a = b := by
  have := lawM.inj (a.key ha) ((b.key hb).trans (by rw [h]))
  obtain ⟨a1, a2, a3, a4⟩ := a
  obtain ⟨b1, b2, b3, b4⟩ := b
  simpa [Mk.V] using this
end Go.Proofs.YthjbmloemmggaaaGreatDoor.Ip

namespace Go.Proofs.YthjbmloemmggaaaGreatDoor.Ip
open Go.RowKit Go.Maps
set_option maxRecDepth 100000
set_option linter.unusedVariables false
set_option linter.unusedSimpArgs false

abbrev En := Mk × Value
def hE (v : Value) : Option (DataW Value × List MemPlace) := some (.held v, [])
def enD (e : En) : Lit × DataW Value := (e.1.lit, .held e.2)
def GM (w : World) (M : Nat) (l : List En) : Prop := (∀ e ∈ l, e.1.wf) ∧ (l.map (·.1)).Nodup ∧ ∃ es, es.Perm (l.map enD) ∧ w.ownsMap Tryz.prog 113 hE M l.length (.map es)
def glk (l : List En) (m : Mk) : Option Value := (l.find? (fun e => decide (e.1 = m))).map (·.2)
theorem same_mk {a b : Mk} (ha : a.wf) (hb : b.wf) : a.lit.sameKey b.lit = decide (a = b) := by
  by_cases h : a = b
  · subst h
    rw [decide_eq_true rfl]
    exact WideAt.sameKey_self (by unfold Mk.lit WideAt.IsKeyLit; trivial)
  · rw [decide_eq_false h]
    cases hs : a.lit.sameKey b.lit
    · rfl
    · exact absurd (Mk.inj ha hb (WideAt.sameKey_eq hs)) h
theorem glk_of : ∀ {l : List En} (hn : (l.map (·.1)).Nodup) {m : Mk} {v : Value}, (m, v) ∈ l → glk l m = some v
  | [], _, _, _, h => by cases h
  | y :: r, hn, m, v, h => by
    rw [List.map_cons, List.nodup_cons] at hn
    unfold glk
    by_cases e : y.1 = m
    · rw [List.find?_cons_of_pos (by simpa using e)]
      rcases List.mem_cons.1 h with h | h
      · rw [← h]; rfl
      · exact absurd (List.mem_map.2 ⟨_, h, e.symm⟩) hn.1
    · rw [List.find?_cons_of_neg (by simpa using e)]
      rcases List.mem_cons.1 h with h | h
      · rw [← h] at e; exact absurd rfl e
      · exact glk_of hn.2 h
theorem glk_none {l : List En} {m : Mk} (h : m ∉ l.map (·.1)) : glk l m = none := by
  unfold glk
  rw [List.find?_eq_none.2]
  · rfl
  · intro e he
    simp only [decide_eq_true_eq]
    intro hm
    exact h (List.mem_map.2 ⟨e, he, hm⟩)
theorem es_find {l : List En} {es : List (Lit × DataW Value)} (hw : ∀ e ∈ l, e.1.wf) (hn : (l.map (·.1)).Nodup) (hp : es.Perm (l.map enD)) {m : Mk} (hm : m.wf) : es.find? (fun p => p.1.sameKey m.lit) = (glk l m).map (fun v => (m.lit, .held v)) := by
  cases hf : es.find? (fun p => p.1.sameKey m.lit) with
  | none =>
    rw [List.find?_eq_none] at hf
    rw [glk_none]
    · rfl
    · intro h
      obtain ⟨e, he, hq⟩ := List.mem_map.1 h
      have := hf (enD e) (hp.mem_iff.2 (List.mem_map.2 ⟨e, he, rfl⟩))
      apply this
      show e.1.lit.sameKey m.lit = true
      rw [same_mk (hw e he) hm]
      exact decide_eq_true hq
  | some p =>
    have h1 := List.find?_some hf
    obtain ⟨e, he, hq⟩ := List.mem_map.1 (hp.mem_iff.1 (List.mem_of_find?_eq_some hf))
    subst hq
    have h2 : e.1 = m := by
      have : e.1.lit.sameKey m.lit = true := h1
      rw [same_mk (hw e he) hm] at this
      exact of_decide_eq_true this
    subst h2
    rw [glk_of hn (v := e.2) he]
    rfl
theorem has_iff (es : List (Lit × DataW Value)) (k : Lit) : Maps.has (.map es) k = (es.find? (fun p => p.1.sameKey k)).isSome := by
  rw [has_eq]
  induction es with
  | nil => rfl
  | cons y r ih => simp only [List.any_cons, List.find?_cons]; cases y.1.sameKey k <;> simp [ih]
theorem own_len {w : World} {M n : Nat} {es : List (Lit × DataW Value)} (h : w.ownsMap Tryz.prog 113 hE M n (.map es)) : w.ownsMap Tryz.prog 113 hE M es.length (.map es) := by
  obtain ⟨es', clock, hb, F, hn, hD⟩ := h
  refine ⟨es', clock, hb, F, ?_, hD⟩
  have h2 := congrArg Maps.size hD
  rw [size_eq, size_eq, length_sorted] at h2
  simp at h2
  omega
theorem GM.made (w : World) : GM (w.alloc (.map #[] 0)) w.heap.size [] := ⟨(by intro e h; cases h), List.nodup_nil, [], List.Perm.nil, World.ownsMap_made _ _ _ _⟩
theorem GM.turn {S : Nat → Prop} {w w' : World} {M : Nat} {l : List En} (h : GM w M l) (ht : Turn S w w') (hs : ¬ S M) : GM w' M l := by
  obtain ⟨h1, h2, es, hp, es', clock, hb, hr⟩ := h
  exact ⟨h1, h2, es, hp, es', clock, (ht.block M (Array.getElem?_eq_some_iff.1 hb).1 hs).trans hb, hr⟩
theorem GM.later {w w' : World} {M : Nat} {l : List En} (h : GM w M l) (hb : Below w.heap.size w w') : GM w' M l := h.turn (S := fun _ => False) (Turn.of_below hb) (fun h => h)
theorem zeroP (w : World) : (zeroValue 115).run Tryz.prog w = .ok (.agg #[.int .i64 0, .int .i64 0, .slice none 0 0]) w := by kernel_rfl
section
variable {w : World} {M : Nat} {l : List En}
theorem GM.look (h : GM w M l) {m : Mk} (hm : m.wf) : (Instr.lookup 71 (.map (some M)) m.V true).run Tryz.prog w = .ok (.tuple #[(glk l m).getD (.agg #[.int .i64 0, .int .i64 0, .slice none 0 0]), .bool (glk l m).isSome]) w := by
  obtain ⟨h1, h2, es, hp, ho⟩ := h
  obtain ⟨v, ps, hr, hv⟩ := ho.look_ok lawM Tryz.underlying71 (zeroP w) (zd := .held (.agg #[.int .i64 0, .int .i64 0, .slice none 0 0])) (zp := []) rfl (m.key hm)
  rw [has_iff, es_find h1 h2 hp hm] at hr
  have ha : (DataW.map es).atKey m.lit (.held (.agg #[.int .i64 0, .int .i64 0, .slice none 0 0])) = .held ((glk l m).getD (.agg #[.int .i64 0, .int .i64 0, .slice none 0 0])) := by
    unfold DataW.atKey
    simp only [es_find h1 h2 hp hm]
    cases glk l m <;> rfl
  rw [ha] at hv
  unfold hE at hv
  injection hv with hv
  injection hv with e1 e2
  injection e1 with e1
  rw [hr, e1]
  cases glk l m <;> rfl
theorem GM.len (h : GM w M l) (ty : TypeId) : (Builtin.len_ #[71] ty #[.map (some M)]).run Tryz.prog w = .ok (.int .i64 l.length) w := by
  obtain ⟨h1, h2, es, hp, ho⟩ := h
  have := ho.len Tryz.underlying71 ty
  rw [size_eq, hp.length_eq, List.length_map] at this
  exact this
theorem filter_new (hw : ∀ e ∈ l, e.1.wf) {m : Mk} (hm : m.wf) (hn : m ∉ l.map (·.1)) : (l.map enD).filter (fun p => !p.1.sameKey m.lit) = l.map enD := by
  rw [List.filter_eq_self]
  intro p hp
  obtain ⟨e, he, rfl⟩ := List.mem_map.1 hp
  show (!e.1.lit.sameKey m.lit) = true
  rw [same_mk (hw e he) hm, decide_eq_false (fun h => hn (List.mem_map.2 ⟨e, he, h⟩))]
  rfl
theorem filter_at {a b : List En} {u : Value} {m : Mk} (hw : ∀ e ∈ a ++ (m, u) :: b, e.1.wf) (hn : ((a ++ (m, u) :: b).map (·.1)).Nodup) : ((a ++ (m, u) :: b).map enD).filter (fun p => !p.1.sameKey m.lit) = (a ++ b).map enD := by
  have hm : m.wf := hw (m, u) (by simp)
  rw [List.map_append, List.map_cons, List.nodup_append] at hn
  obtain ⟨n1, n2, n3⟩ := hn
  rw [List.nodup_cons] at n2
  have ha : m ∉ a.map (·.1) := fun h => n3 m h m (by simp) rfl
  rw [List.map_append, List.filter_append, filter_new (fun e he => hw e (by simp [he])) hm ha, List.map_cons, List.filter_cons]
  have : (!(enD (m, u)).1.sameKey m.lit) = false := by
    show (!m.lit.sameKey m.lit) = false
    rw [same_mk hm hm]; simp
  rw [this, List.map_append]
  simp only [Bool.false_eq_true, if_false]
  rw [filter_new (fun e he => hw e (by simp [he])) hm n2.1]
theorem GM.put (h : GM w M l) (hn : l.length < 1000000) {m : Mk} (hm : m.wf) (hnew : m ∉ l.map (·.1)) (v : Value) :
    ∃ w', (Instr.mapUpdate 71 (.map (some M)) m.V v).run Tryz.prog w = .ok () w' ∧ GM w' M (l ++ [(m, v)]) ∧ Turn (fun j => j = M) w w' := by
  obtain ⟨h1, h2, es, hp, ho⟩ := h
  obtain ⟨w', hr, ho', hg⟩ := ho.update lawM Tryz.underlying71 (by unfold maxLen; omega) (val := v) (d := .held v) (ps := []) (m.key hm) rfl
  refine ⟨w', hr, ⟨?_, ?_, DataW.insert (m.lit, .held v) (es.filter fun p => !p.1.sameKey m.lit), ?_, ?_⟩, Turn.of_grown hg (fun j hj => by cases hj; exact Or.inl rfl)⟩
  · intro e he
    rcases List.mem_append.1 he with he | he
    · exact h1 e he
    · rw [List.mem_singleton.1 he]; exact hm
  · rw [List.map_append, List.nodup_append]
    exact ⟨h2, by simp, fun a ha b hb e => hnew (by simp at hb; rw [← hb, ← e]; exact ha)⟩
  · refine (WideShapes.insert_perm _ _).trans ?_
    rw [List.map_append]
    refine (List.Perm.cons _ ((hp.filter _).trans (by rw [filter_new h1 hm hnew]))).trans ?_
    exact (List.perm_append_singleton (enD (m, v)) (l.map enD)).symm
  · have := own_len ho'
    have hl : (DataW.insert (m.lit, .held v) (es.filter fun p => !p.1.sameKey m.lit)).length = (l ++ [(m, v)]).length := by
      rw [(WideShapes.insert_perm _ _).length_eq, List.length_cons, (hp.filter _).length_eq, filter_new h1 hm hnew]
      simp
    rw [hl] at this
    exact this
theorem GM.set {a b : List En} {u : Value} {m : Mk} (h : GM w M (a ++ (m, u) :: b)) (hn : (a ++ (m, u) :: b).length < 1000000) (v : Value) :
    ∃ w', (Instr.mapUpdate 71 (.map (some M)) m.V v).run Tryz.prog w = .ok () w' ∧ GM w' M (a ++ (m, v) :: b) ∧ Turn (fun j => j = M) w w' := by
  obtain ⟨h1, h2, es, hp, ho⟩ := h
  have hm : m.wf := h1 (m, u) (by simp)
  obtain ⟨w', hr, ho', hg⟩ := ho.update lawM Tryz.underlying71 (by unfold maxLen; omega) (val := v) (d := .held v) (ps := []) (m.key hm) rfl
  refine ⟨w', hr, ⟨?_, ?_, DataW.insert (m.lit, .held v) (es.filter fun p => !p.1.sameKey m.lit), ?_, ?_⟩, Turn.of_grown hg (fun j hj => by cases hj; exact Or.inl rfl)⟩
  · intro e he
    rcases List.mem_append.1 he with he | he
    · exact h1 e (by simp [he])
    · rcases List.mem_cons.1 he with he | he
      · rw [he]; exact hm
      · exact h1 e (by simp [he])
  · simpa using h2
  · refine (WideShapes.insert_perm _ _).trans ?_
    refine (List.Perm.cons _ ((hp.filter _).trans (by rw [filter_at h1 h2]))).trans ?_
    rw [List.map_append, List.map_append, List.map_cons]
    exact List.perm_middle.symm
  · have := own_len ho'
    have hl : (DataW.insert (m.lit, .held v) (es.filter fun p => !p.1.sameKey m.lit)).length = (a ++ (m, v) :: b).length := by
      rw [(WideShapes.insert_perm _ _).length_eq, List.length_cons, (hp.filter _).length_eq, filter_at h1 h2]
      simp; omega
    rw [hl] at this
    exact this
theorem GM.del {a b : List En} {u : Value} {m : Mk} (h : GM w M (a ++ (m, u) :: b)) (ty : TypeId) :
    ∃ w', (Builtin.delete_ #[71, 113] ty #[.map (some M), m.V]).run Tryz.prog w = .ok (.tuple #[]) w' ∧ GM w' M (a ++ b) ∧ Turn (fun j => j = M) w w' := by
  obtain ⟨h1, h2, es, hp, ho⟩ := h
  have hm : m.wf := h1 (m, u) (by simp)
  obtain ⟨w', hr, ho', hg⟩ := ho.drop lawM Tryz.underlying71 (m.key hm) ty
  refine ⟨w', hr, ⟨?_, ?_, es.filter (fun p => !p.1.sameKey m.lit), ?_, ?_⟩, Turn.of_grown hg.grown (fun j hj => by cases hj; exact Or.inl rfl)⟩
  · intro e he
    rcases List.mem_append.1 he with he | he
    · exact h1 e (by simp [he])
    · exact h1 e (by simp [he])
  · rw [List.map_append, List.map_cons] at h2
    rw [List.map_append]
    exact List.Pairwise.sublist (List.Sublist.append_left (List.sublist_cons_self _ _) _) h2
  · exact (hp.filter _).trans (by rw [filter_at h1 h2])
  · have := own_len ho'
    have hl : (es.filter fun p => !p.1.sameKey m.lit).length = (a ++ b).length := by
      rw [(hp.filter _).length_eq, filter_at h1 h2]
      simp
    rw [hl] at this
    exact this
end
end Go.Proofs.YthjbmloemmggaaaGreatDoor.Ip
