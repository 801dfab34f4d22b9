/- What a bridge has learnt: a map as a rising list of (address, port, tick). -/
import Derived.Test.YtajknafmlghcgaaArps
import Derived.Maps.RangeWalk
import Derived.Maps.OwnSet
import Derived.Maps.Ext
import Derived.WalkSmall
import Derived.Deep.Cut
import Derived.Deep.CutRange
import Derived.Deep.MidRow
import Derived.Deep.QuietTactic
namespace Go.Proofs.Ytajknafmlghcgaa
open Go.RowKit Go.Maps
set_option maxRecDepth 100000
set_option linter.unusedVariables false
set_option linter.unusedSimpArgs false

def okH (p a : Int) : Prop := (0 ≤ p ∧ p ≤ 15) ∧ 0 ≤ a ∧ a ≤ 1099511627776
instance (p a : Int) : Decidable (okH p a) := by unfold okH; infer_instance
/-- How an element reads: a port and a tick. -/
def hElem (v : Value) : Option (DataW Unit × List MemPlace) :=
  match v with
  | .agg ⟨[.int .i64 p, .int .i64 a]⟩ => if okH p a then some (.agg [.lit (.int .i64 p), .lit (.int .i64 a)], []) else none
  | _ => none
theorem hElem_mk {p a : Int} (h : okH p a) : hElem (.agg #[.int .i64 p, .int .i64 a]) = some (.agg [.lit (.int .i64 p), .lit (.int .i64 a)], []) := by
  simp [hElem, h]
theorem hElem_inv {v : Value} {y : DataW Unit × List MemPlace} (h : hElem v = some y) : ∃ c : Int × Int, v = .agg #[.int .i64 c.1, .int .i64 c.2] ∧ y = (.agg [.lit (.int .i64 c.1), .lit (.int .i64 c.2)], []) ∧ okH c.1 c.2 := by
  unfold hElem at h
  split at h
  · rename_i p a
    split at h
    · rename_i hk
      exact ⟨(p, a), rfl, (Option.some.inj h).symm, hk⟩
    · cases h
  · cases h
abbrev En := Int × Int × Int
def enD (e : En) : Lit × DataW Unit := (.int .i64 e.1, .agg [.lit (.int .i64 e.2.1), .lit (.int .i64 e.2.2)])
def toD (l : List En) : DataW Unit := .map (l.map enD)
def Rise (l : List En) : Prop := l.Pairwise (fun x y => x.1 < y.1)
def okE (e : En) : Prop := (Lit.int .i64 e.1).wf = true ∧ okH e.2.1 e.2.2
def lk (l : List En) (k : Int) : Option (Int × Int) := (l.find? (fun e => e.1 == k)).map (·.2)
def ins (e : En) : List En → List En
  | [] => [e]
  | y :: r => if e.1 < y.1 then e :: y :: r else y :: ins e r
def putL (l : List En) (e : En) : List En := ins e (l.filter fun x => x.1 != e.1)
theorem same_int (a b : Int) : (Lit.int .i64 a).sameKey (.int .i64 b) = (a == b) := by
  show decide (IntKind.i64 = IntKind.i64 ∧ a = b) = (a == b)
  by_cases h : a = b <;> simp [h]
theorem has_toD (l : List En) (k : Int) : Maps.has (toD l) (.int .i64 k) = l.any (fun e => e.1 == k) := by
  rw [toD, has_eq, List.any_map]
  congr 1
  funext e
  exact same_int e.1 k
theorem has_lk (l : List En) (k : Int) : Maps.has (toD l) (.int .i64 k) = (lk l k).isSome := by
  rw [has_toD, lk, Option.isSome_map]
  induction l with
  | nil => rfl
  | cons y r ih =>
    simp only [List.any_cons, List.find?_cons]
    cases h : (y.1 == k) <;> simp [ih]
theorem size_toD (l : List En) : Maps.size (toD l) = l.length := by simp [toD, size_eq]
theorem at_toD (l : List En) (k : Int) (z : DataW Unit) : (toD l).atKey (.int .i64 k) z = match lk l k with | some c => .agg [.lit (.int .i64 c.1), .lit (.int .i64 c.2)] | none => z := by
  unfold toD DataW.atKey lk
  simp only [List.find?_map]
  have : ((fun p : Lit × DataW Unit => p.1.sameKey (.int .i64 k)) ∘ enD) = fun e : En => e.1 == k := by
    funext e
    exact same_int e.1 k
  rw [this]
  cases l.find? (fun e => e.1 == k) <;> rfl
theorem del_toD (l : List En) (k : Int) : (toD l).del (.int .i64 k) = toD (l.filter fun x => x.1 != k) := by
  unfold toD DataW.del
  simp only [List.filter_map]
  congr 3
  funext e
  show (!(Lit.int .i64 e.1).sameKey (.int .i64 k)) = (e.1 != k)
  rw [same_int]
  rfl
theorem ins_toD (e : En) : ∀ l : List En, DataW.insert (enD e) (l.map enD) = (ins e l).map enD
  | [] => rfl
  | y :: r => by
    simp only [List.map, DataW.insert, ins]
    have : (enD e).1.before (enD y).1 = decide (e.1 < y.1) := rfl
    rw [this]
    by_cases h : e.1 < y.1
    · simp [h]
    · simp [h, ins_toD e r]
theorem put_toD (l : List En) (e : En) : (toD l).put (.int .i64 e.1) (enD e).2 = toD (putL l e) := by
  unfold toD DataW.put putL
  simp only [List.filter_map]
  rw [← ins_toD]
  congr 4
  funext x
  show (!(Lit.int .i64 x.1).sameKey (.int .i64 e.1)) = (x.1 != e.1)
  rw [same_int]
  rfl
/-- Block M is the map of what was learnt. -/
def Lrn (w : World) (M : Nat) (l : List En) : Prop := w.ownsMap Try.prog 3 hElem M l.length (toD l) ∧ Rise l ∧ ∀ e ∈ l, okE e
theorem owns_len {w : World} {M n : Nat} {l : List En} (h : w.ownsMap Try.prog 3 hElem M n (toD l)) : w.ownsMap Try.prog 3 hElem M l.length (toD l) := by
  obtain ⟨es, clock, hb, F, hn, hD⟩ := h
  refine ⟨es, clock, hb, F, ?_, hD⟩
  have h2 := congrArg Maps.size hD
  rw [size_toD, size_eq, length_sorted] at h2
  simp at h2
  omega
theorem law3 : Keyed Try.prog 3 := int_keyed Try.underlying3
theorem rise_of {w : World} {M n : Nat} {l : List En} (h : w.ownsMap Try.prog 3 hElem M n (toD l)) : Rise l := by
  obtain ⟨es, he, hr, -⟩ := h.canon law3
  unfold toD at he
  injection he with he
  subst he
  rw [List.pairwise_map] at hr
  exact hr.imp fun h => of_decide_eq_true h
theorem mem_ins {e x : En} : ∀ {l : List En}, x ∈ ins e l ↔ x = e ∨ x ∈ l
  | [] => by simp [ins]
  | y :: r => by
    unfold ins
    split
    · simp
    · simp only [List.mem_cons, mem_ins (l := r)]
      constructor
      · rintro (h | h | h) <;> simp [h]
      · rintro (h | h | h) <;> simp [h]
theorem okE_put {l : List En} {e : En} (he : okE e) (h : ∀ x ∈ l, okE x) : ∀ x ∈ putL l e, okE x := fun x hx => by
  rcases mem_ins.1 hx with rfl | hx
  · exact he
  · exact h x (List.mem_filter.1 hx).1
theorem len_ins (e : En) : ∀ l : List En, (ins e l).length = l.length + 1
  | [] => rfl
  | y :: r => by
    unfold ins
    split
    · simp
    · simp [len_ins e r]
theorem Lrn.kept {w w' : World} {M : Nat} {l : List En} {row : Option Nat} (h : Lrn w M l) (hg : w.grownBy w' row) (hne : some M ≠ row) : Lrn w' M l := ⟨h.1.kept hg hne, h.2⟩
theorem Lrn.later {w w' : World} {M : Nat} {l : List En} (h : Lrn w M l) (hb : Below w.heap.size w w') : Lrn w' M l :=
  h.kept (row := none) ⟨hb.os, hb.tape, hb.output, hb.size, fun k hk _ => hb.block k hk⟩ (by simp)
/-- Of what was there nothing has turned but the blocks that S names. -/
structure Turn (S : Nat → Prop) (w w' : World) : Prop where
  os : w'.os = w.os
  tape : w'.tape = w.tape
  output : w'.output = w.output
  size : w.heap.size ≤ w'.heap.size
  block : ∀ k, k < w.heap.size → ¬ S k → w'.heap[k]? = w.heap[k]?
theorem Turn.refl {S : Nat → Prop} (w : World) : Turn S w w := ⟨rfl, rfl, rfl, Nat.le_refl _, fun _ _ _ => rfl⟩
theorem Turn.trans {S : Nat → Prop} {a b c : World} (h : Turn S a b) (k : Turn S b c) : Turn S a c :=
  ⟨k.os.trans h.os, k.tape.trans h.tape, k.output.trans h.output, Nat.le_trans h.size k.size, fun i hi hs => (k.block i (Nat.lt_of_lt_of_le hi h.size) hs).trans (h.block i hi hs)⟩
theorem Turn.of_below {S : Nat → Prop} {w w' : World} (h : Below w.heap.size w w') : Turn S w w' := ⟨h.os, h.tape, h.output, h.size, fun k hk _ => h.block k hk⟩
theorem Turn.of_grown {S : Nat → Prop} {w w' : World} {row : Option Nat} (h : w.grownBy w' row) (hS : ∀ j, row = some j → S j ∨ w.heap.size ≤ j) : Turn S w w' :=
  ⟨h.os, h.tape, h.output, h.size, fun k hk hs => h.block k hk (fun e => by rcases hS k e.symm with h | h; exact hs h; omega)⟩
theorem Turn.and {S : Nat → Prop} {w w1 w' : World} {row : Option Nat} (h : Turn S w w1) (k : w1.grownBy w' row) (hS : ∀ j, row = some j → S j ∨ w.heap.size ≤ j) : Turn S w w' :=
  ⟨k.os.trans h.os, k.tape.trans h.tape, k.output.trans h.output, Nat.le_trans h.size k.size, fun i hi hs => (k.block i (Nat.lt_of_lt_of_le hi h.size) (fun e => by rcases hS i e.symm with h | h; exact hs h; omega)).trans (h.block i hi hs)⟩
theorem Turn.later {S : Nat → Prop} {w w1 w' : World} (h : Turn S w w1) (k : Below w1.heap.size w1 w') : Turn S w w' := h.trans (Turn.of_below k)
theorem Turn.below {S : Nat → Prop} {w w' : World} {n : Nat} (h : Turn S w w') (hn : n ≤ w.heap.size) (hS : ∀ k, k < n → ¬ S k) : Below n w w' :=
  ⟨h.os, h.tape, h.output, h.size, fun k hk => h.block k (Nat.lt_of_lt_of_le hk hn) (hS k hk)⟩
theorem Turn.mono {S S' : Nat → Prop} {w w' : World} (h : Turn S w w') (hS : ∀ k, S k → S' k) : Turn S' w w' :=
  ⟨h.os, h.tape, h.output, h.size, fun k hk hs => h.block k hk (fun e => hs (hS k e))⟩
theorem Turn.cell {S : Nat → Prop} {w w' : World} (h : Turn S w w') {b : Nat} (hb : b < w.heap.size) (hs : ¬ S b) (o : Nat) : w'.cell? ⟨b, o, none⟩ = w.cell? ⟨b, o, none⟩ := World.cell?_of_block (h.block b hb hs)
theorem At.turn {S : Nat → Prop} {W x : World} {b : Nat} {vs : Array Value} (h : At W b vs) (ht : Turn S W x) (hs : ¬ S b) : At x b vs :=
  ⟨Nat.lt_of_lt_of_le h.1 ht.size, fun i v hv => by
    obtain ⟨a, b'⟩ := h.2 i v hv
    exact ⟨(ht.cell h.1 hs i).trans a, (World.frozen?_of_block (ht.block b h.1 hs)).trans b'⟩⟩
theorem Lrn.turn {S : Nat → Prop} {w w' : World} {M : Nat} {l : List En} (h : Lrn w M l) (ht : Turn S w w') (hs : ¬ S M) : Lrn w' M l := by
  obtain ⟨⟨es, clock, hb, hr⟩, h2⟩ := h
  have hlt : M < w.heap.size := by
    rw [Array.getElem?_eq_some_iff] at hb
    exact hb.1
  exact ⟨⟨es, clock, (ht.block M hlt hs).trans hb, hr⟩, h2⟩
/-- A bridge: its five cells. -/
def brV (po ag ro la : Int) (M : Nat) : Array Value := #[.int .i64 po, .int .i64 ag, .int .i64 ro, .int .i64 la, .map (some M)]
theorem zeroH (w : World) : (zeroValue 65).run Try.prog w = .ok (.agg #[.int .i64 0, .int .i64 0]) w := by kernel_rfl
theorem inv3 : ∀ key kl, keyOf Try.prog 3 key = some kl → ∃ x : Int, key = .int .i64 x := fun key kl hkey => by obtain ⟨x, rfl, _⟩ := Maps.keyOf_int_inv Try.underlying3 hkey; exact ⟨x, rfl⟩
theorem invH : ∀ v y, hElem v = some y → ∃ c : Int × Int, v = .agg #[.int .i64 c.1, .int .i64 c.2] := fun v y hv => by obtain ⟨c, h, _⟩ := hElem_inv hv; exact ⟨c, h⟩
/-- 'v, ok := m[k]' in what was learnt. -/
theorem wpList_lookup_h {w : World} {ops : Array Oper} {rest : List Oper} {o : Oper} {a : Act} {Q : Exit → Act → World → Prop} (hg : o.guard = none) (m x : Operand) (hop : o.op = Op.lookup 56 m x true) (M : Nat) (l : List En) (k : Int) (hk : (Lit.int .i64 k).wf = true)
    (hm : a.eval m = .map (some M)) (hown : Lrn w M l) (hx : a.eval x = .int .i64 k)
    (hK : ∀ p t : Int, ((lk l k).getD (0, 0)) = (p, t) → wpList Try.prog ops Q rest (a.put o.dst (.tuple #[.agg #[.int .i64 p, .int .i64 t], .bool (lk l k).isSome])) w) :
    wpList Try.prog ops Q (o :: rest) a w := by
  refine wpList_lookup_own_ok w hg m x 56 hop 3 65 law3 Try.underlying56 hElem (zeroH w) (.agg [.lit (.int .i64 0), .lit (.int .i64 0)]) [] (hElem_mk (by decide)) M l.length (toD l) hm hown.1 _ _ hx (keyOf_int_mk Try.underlying3 hk) ?_
  intro v ps hv
  obtain ⟨⟨p, t⟩, rfl, hy, -⟩ := hElem_inv hv
  rw [has_lk]
  refine hK p t ?_
  have h1 := congrArg Prod.fst hy
  simp only [at_toD] at h1
  cases hq : lk l k with
  | none =>
    rw [hq] at h1
    simp only [DataW.agg.injEq, List.cons.injEq, DataW.lit.injEq, Lit.int.injEq, and_true, true_and] at h1
    exact Prod.ext h1.1 h1.2
  | some c =>
    rw [hq] at h1
    simp only [DataW.agg.injEq, List.cons.injEq, DataW.lit.injEq, Lit.int.injEq, and_true, true_and] at h1
    exact Prod.ext h1.1 h1.2
end Go.Proofs.Ytajknafmlghcgaa
