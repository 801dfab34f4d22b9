/- the texts KBa, KBb, KBc, KBd, KBe, KBf, KBg, in part, merged by program -/
import Derived.Test.YthjbmloemmggaaaGreatDoorRows
import Derived.Maps.RangeWalk
import Derived.Maps.OwnSet
import Derived.Maps.Ext
import Derived.WalkSmall
import Derived.Deep.Cut
import Derived.Deep.CutRange
import Derived.Deep.MidRow
import Derived.Deep.QuietTactic
import Derived.WalkKit
import Derived.WalkSpells
import Derived.RegionTactic
import Derived.BigQuiet
import Derived.OwnWalk
import Derived.Test.YthjbmloemmggaaaGreatDoorMA01
import Derived.Test.YthjbmloemmggaaaGreatDoorMA03
namespace Go.Proofs.YthjbmloemmggaaaGreatDoor.Eth.Arp
open Go.RowKit Go.Maps
set_option maxRecDepth 100000
set_option linter.unusedVariables false
set_option linter.unusedSimpArgs false

def okH (p a : Int) : Prop := (0 ≤ p ∧ p ≤ 15) ∧ 0 ≤ a ∧ a ≤ 1099511627776
instance (p a : Int) : Decidable (okH p a) := by unfold okH; infer_instance
def hElem (v : Value) : Option (DataW Unit × List MemPlace) :=
  match v with
  | .agg ⟨[.int .i64 p, .int .i64 a]⟩ => if okH p a then some (.agg [.lit (.int .i64 p), .lit (.int .i64 a)], []) else none
  | _ => none
theorem hElem_mk {p a : Int} (h : okH p a) : hElem (.agg #[.int .i64 p, .int .i64 a]) = some (.agg [.lit (.int .i64 p), .lit (.int .i64 a)], []) := by
  simp [hElem, h]
theorem hElem_inv {v : Value} {y : DataW Unit × List MemPlace} (h : hElem v = some y) : ∃ c : Int × Int, v = .agg #[.int .i64 c.1, .int .i64 c.2] ∧ y = (.agg [.lit (.int .i64 c.1), .lit (.int .i64 c.2)], []) ∧ okH c.1 c.2 := by
  unfold hElem at h
  split at h
  · rename_i p a
    split at h
    · rename_i hk
      exact ⟨(p, a), rfl, (Option.some.inj h).symm, hk⟩
    · cases h
  · cases h
abbrev En := Int × Int × Int
def enD (e : En) : Lit × DataW Unit := (.int .i64 e.1, .agg [.lit (.int .i64 e.2.1), .lit (.int .i64 e.2.2)])
def toD (l : List En) : DataW Unit := .map (l.map enD)
def Rise (l : List En) : Prop := l.Pairwise (fun x y => x.1 < y.1)
def okE (e : En) : Prop := (Lit.int .i64 e.1).wf = true ∧ okH e.2.1 e.2.2
def lk (l : List En) (k : Int) : Option (Int × Int) := (l.find? (fun e => e.1 == k)).map (·.2)
def ins (e : En) : List En → List En
  | [] => [e]
  | y :: r => if e.1 < y.1 then e :: y :: r else y :: ins e r
def putL (l : List En) (e : En) : List En := ins e (l.filter fun x => x.1 != e.1)
theorem same_int (a b : Int) : (Lit.int .i64 a).sameKey (.int .i64 b) = (a == b) := by
  show decide (IntKind.i64 = IntKind.i64 ∧ a = b) = (a == b)
  by_cases h : a = b <;> simp [h]
theorem has_toD (l : List En) (k : Int) : Maps.has (toD l) (.int .i64 k) = l.any (fun e => e.1 == k) := by
  rw [toD, has_eq, List.any_map]
  congr 1
  funext e
  exact same_int e.1 k
theorem has_lk (l : List En) (k : Int) : Maps.has (toD l) (.int .i64 k) = (lk l k).isSome := by
  rw [has_toD, lk, Option.isSome_map]
  induction l with
  | nil => rfl
  | cons y r ih =>
    simp only [List.any_cons, List.find?_cons]
    cases h : (y.1 == k) <;> simp [ih]
theorem size_toD (l : List En) : Maps.size (toD l) = l.length := by simp [toD, size_eq]
theorem at_toD (l : List En) (k : Int) (z : DataW Unit) : (toD l).atKey (.int .i64 k) z = match lk l k with | some c => .agg [.lit (.int .i64 c.1), .lit (.int .i64 c.2)] | none => z := by
  unfold toD DataW.atKey lk
  simp only [List.find?_map]
  have : ((fun p : Lit × DataW Unit => p.1.sameKey (.int .i64 k)) ∘ enD) = fun e : En => e.1 == k := by
    funext e
    exact same_int e.1 k
  rw [this]
  cases l.find? (fun e => e.1 == k) <;> rfl
theorem del_toD (l : List En) (k : Int) : (toD l).del (.int .i64 k) = toD (l.filter fun x => x.1 != k) := by
  unfold toD DataW.del
  simp only [List.filter_map]
  congr 3
  funext e
  show (!(Lit.int .i64 e.1).sameKey (.int .i64 k)) = (e.1 != k)
  rw [same_int]
  rfl
theorem ins_toD (e : En) : ∀ l : List En, DataW.insert (enD e) (l.map enD) = (ins e l).map enD
  | [] => rfl
  | y :: r => by
    simp only [List.map, DataW.insert, ins]
    have : (enD e).1.before (enD y).1 = decide (e.1 < y.1) := rfl
    rw [this]
    by_cases h : e.1 < y.1
    · simp [h]
    · simp [h, ins_toD e r]
theorem put_toD (l : List En) (e : En) : (toD l).put (.int .i64 e.1) (enD e).2 = toD (putL l e) := by
  unfold toD DataW.put putL
  simp only [List.filter_map]
  rw [← ins_toD]
  congr 4
  funext x
  show (!(Lit.int .i64 x.1).sameKey (.int .i64 e.1)) = (x.1 != e.1)
  rw [same_int]
  rfl
def Lrn (w : World) (M : Nat) (l : List En) : Prop := w.ownsMap Tryz.prog 3 hElem M l.length (toD l) ∧ Rise l ∧ ∀ e ∈ l, okE e
theorem owns_len {w : World} {M n : Nat} {l : List En} (h : w.ownsMap Tryz.prog 3 hElem M n (toD l)) : w.ownsMap Tryz.prog 3 hElem M l.length (toD l) := by
  obtain ⟨es, clock, hb, F, hn, hD⟩ := h
  refine ⟨es, clock, hb, F, ?_, hD⟩
  have h2 := congrArg Maps.size hD
  rw [size_toD, size_eq, length_sorted] at h2
  simp at h2
  omega
theorem law3 : Keyed Tryz.prog 3 := int_keyed Tryz.underlying3
theorem rise_of {w : World} {M n : Nat} {l : List En} (h : w.ownsMap Tryz.prog 3 hElem M n (toD l)) : Rise l := by
  obtain ⟨es, he, hr, -⟩ := h.canon law3
  unfold toD at he
  injection he with he
  subst he
  rw [List.pairwise_map] at hr
  exact hr.imp fun h => of_decide_eq_true h
theorem mem_ins {e x : En} : ∀ {l : List En}, x ∈ ins e l ↔ x = e ∨ x ∈ l
  | [] => by simp [ins]
  | y :: r => by
    unfold ins
    split
    · simp
    · simp only [List.mem_cons, mem_ins (l := r)]
      constructor
      · rintro (h | h | h) <;> simp [h]
      · rintro (h | h | h) <;> simp [h]
theorem okE_put {l : List En} {e : En} (he : okE e) (h : ∀ x ∈ l, okE x) : ∀ x ∈ putL l e, okE x := fun x hx => by
  rcases mem_ins.1 hx with rfl | hx
  · exact he
  · exact h x (List.mem_filter.1 hx).1
theorem Lrn.kept {w w' : World} {M : Nat} {l : List En} {row : Option Nat} (h : Lrn w M l) (hg : w.grownBy w' row) (hne : some M ≠ row) : Lrn w' M l := ⟨h.1.kept hg hne, h.2⟩
theorem Lrn.later {w w' : World} {M : Nat} {l : List En} (h : Lrn w M l) (hb : Below w.heap.size w w') : Lrn w' M l :=
  h.kept (row := none) ⟨hb.os, hb.tape, hb.output, hb.size, fun k hk _ => hb.block k hk⟩ (by simp)
structure Turn (S : Nat → Prop) (w w' : World) : Prop where
  os : w'.os = w.os
  tape : w'.tape = w.tape
  output : w'.output = w.output
  size : w.heap.size ≤ w'.heap.size
  block : ∀ k, k < w.heap.size → ¬ S k → w'.heap[k]? = w.heap[k]?
theorem Turn.trans {S : Nat → Prop} {a b c : World} (h : Turn S a b) (k : Turn S b c) : Turn S a c :=
  ⟨k.os.trans h.os, k.tape.trans h.tape, k.output.trans h.output, Nat.le_trans h.size k.size, fun i hi hs => (k.block i (Nat.lt_of_lt_of_le hi h.size) hs).trans (h.block i hi hs)⟩
theorem Turn.of_below {S : Nat → Prop} {w w' : World} (h : Below w.heap.size w w') : Turn S w w' := ⟨h.os, h.tape, h.output, h.size, fun k hk _ => h.block k hk⟩
theorem Turn.of_grown {S : Nat → Prop} {w w' : World} {row : Option Nat} (h : w.grownBy w' row) (hS : ∀ j, row = some j → S j ∨ w.heap.size ≤ j) : Turn S w w' :=
  ⟨h.os, h.tape, h.output, h.size, fun k hk hs => h.block k hk (fun e => by rcases hS k e.symm with h | h; exact hs h; omega)⟩
theorem Turn.and {S : Nat → Prop} {w w1 w' : World} {row : Option Nat} (h : Turn S w w1) (k : w1.grownBy w' row) (hS : ∀ j, row = some j → S j ∨ w.heap.size ≤ j) : Turn S w w' :=
  ⟨k.os.trans h.os, k.tape.trans h.tape, k.output.trans h.output, Nat.le_trans h.size k.size, fun i hi hs => (k.block i (Nat.lt_of_lt_of_le hi h.size) (fun e => by rcases hS i e.symm with h | h; exact hs h; omega)).trans (h.block i hi hs)⟩
theorem Turn.later {S : Nat → Prop} {w w1 w' : World} (h : Turn S w w1) (k : Below w1.heap.size w1 w') : Turn S w w' := h.trans (Turn.of_below k)
theorem Turn.below {S : Nat → Prop} {w w' : World} {n : Nat} (h : Turn S w w') (hn : n ≤ w.heap.size) (hS : ∀ k, k < n → ¬ S k) : Below n w w' :=
  ⟨h.os, h.tape, h.output, h.size, fun k hk => h.block k (Nat.lt_of_lt_of_le hk hn) (hS k hk)⟩
theorem Turn.mono {S S' : Nat → Prop} {w w' : World} (h : Turn S w w') (hS : ∀ k, S k → S' k) : Turn S' w w' :=
  ⟨h.os, h.tape, h.output, h.size, fun k hk hs => h.block k hk (fun e => hs (hS k e))⟩
theorem Turn.cell {S : Nat → Prop} {w w' : World} (h : Turn S w w') {b : Nat} (hb : b < w.heap.size) (hs : ¬ S b) (o : Nat) : w'.cell? ⟨b, o, none⟩ = w.cell? ⟨b, o, none⟩ := World.cell?_of_block (h.block b hb hs)
theorem At.turn {S : Nat → Prop} {W x : World} {b : Nat} {vs : Array Value} (h : At W b vs) (ht : Turn S W x) (hs : ¬ S b) : At x b vs :=
  ⟨Nat.lt_of_lt_of_le h.1 ht.size, fun i v hv => by
    obtain ⟨a, b'⟩ := h.2 i v hv
    exact ⟨(ht.cell h.1 hs i).trans a, (World.frozen?_of_block (ht.block b h.1 hs)).trans b'⟩⟩
theorem Lrn.turn {S : Nat → Prop} {w w' : World} {M : Nat} {l : List En} (h : Lrn w M l) (ht : Turn S w w') (hs : ¬ S M) : Lrn w' M l := by
  obtain ⟨⟨es, clock, hb, hr⟩, h2⟩ := h
  have hlt : M < w.heap.size := by
    rw [Array.getElem?_eq_some_iff] at hb
    exact hb.1
  exact ⟨⟨es, clock, (ht.block M hlt hs).trans hb, hr⟩, h2⟩
def brV (po ag ro la : Int) (M : Nat) : Array Value := #[.int .i64 po, .int .i64 ag, .int .i64 ro, .int .i64 la, .map (some M)]
theorem zeroH (w : World) : (zeroValue 78).run Tryz.prog w = .ok (.agg #[.int .i64 0, .int .i64 0]) w := by kernel_rfl
theorem inv3 : ∀ key kl, keyOf Tryz.prog 3 key = some kl → ∃ x : Int, key = .int .i64 x := fun key kl hkey => by obtain ⟨x, rfl, _⟩ := Maps.keyOf_int_inv Tryz.underlying3 hkey; exact ⟨x, rfl⟩
theorem invH : ∀ v y, hElem v = some y → ∃ c : Int × Int, v = .agg #[.int .i64 c.1, .int .i64 c.2] := fun v y hv => by obtain ⟨c, h, _⟩ := hElem_inv hv; exact ⟨c, h⟩
theorem wpList_lookup_h {w : World} {ops : Array Oper} {rest : List Oper} {o : Oper} {a : Act} {Q : Exit → Act → World → Prop} (hg : o.guard = none) (m x : Operand) (hop : o.op = Op.lookup 68 m x true) (M : Nat) (l : List En) (k : Int) (hk : (Lit.int .i64 k).wf = true)
    (hm : a.eval m = .map (some M)) (hown : Lrn w M l) (hx : a.eval x = .int .i64 k)
    (hK : ∀ p t : Int, ((lk l k).getD (0, 0)) = (p, t) → wpList Tryz.prog ops Q rest (a.put o.dst (.tuple #[.agg #[.int .i64 p, .int .i64 t], .bool (lk l k).isSome])) w) :
    wpList Tryz.prog ops Q (o :: rest) a w := by
  refine wpList_lookup_own_ok w hg m x 68 hop 3 78 law3 Tryz.underlying68 hElem (zeroH w) (.agg [.lit (.int .i64 0), .lit (.int .i64 0)]) [] (hElem_mk (by decide)) M l.length (toD l) hm hown.1 _ _ hx (keyOf_int_mk Tryz.underlying3 hk) ?_
  intro v ps hv
  obtain ⟨⟨p, t⟩, rfl, hy, -⟩ := hElem_inv hv
  rw [has_lk]
  refine hK p t ?_
  have h1 := congrArg Prod.fst hy
  simp only [at_toD] at h1
  cases hq : lk l k with
  | none =>
    rw [hq] at h1
    simp only [DataW.agg.injEq, List.cons.injEq, DataW.lit.injEq, Lit.int.injEq, and_true, true_and] at h1
    exact Prod.ext h1.1 h1.2
  | some c =>
    rw [hq] at h1
    simp only [DataW.agg.injEq, List.cons.injEq, DataW.lit.injEq, Lit.int.injEq, and_true, true_and] at h1
    exact Prod.ext h1.1 h1.2
end Go.Proofs.YthjbmloemmggaaaGreatDoor.Eth.Arp

namespace Go.Proofs.YthjbmloemmggaaaGreatDoor.Eth.Arp
open Go.RowKit Go.Maps
set_option maxRecDepth 100000
set_option linter.unusedVariables false
set_option linter.unusedSimpArgs false

theorem has_any (B : Nat) (po ag ro la : Int) (M : Nat) (port : Int) (w : World) (hB : At w B (brV po ag ro la M)) : Calls Tryz.prog 19 #[.pointer (some ⟨B, 0, none⟩), .int .i64 port] w fun e w' => e = .returned (.bool (decide (0 ≤ port) && decide (port < po))) ∧ w' = w := by
  have c0 : w.cell? ⟨B, 0, none⟩ = some (.int .i64 po) := (hB.2 0 _ rfl).1
  go_enter Tryz.func19, Tryz.ntmps19
  by_cases h : 0 ≤ port
  · go_wp2
    go_ret
    exact ⟨by simp [h], rfl⟩
  · go_wp2
    go_ret
    exact ⟨by rw [decide_eq_false (by omega)]; rfl, rfl⟩
theorem old_any (B : Nat) (po ag ro la : Int) (M : Nat) (p a now : Int) (w : World) (hB : At w B (brV po ag ro la M)) (ha : okH p a) (hg0 : 1 ≤ ag) (hg1 : ag ≤ 1048576) :
    Calls Tryz.prog 23 #[.pointer (some ⟨B, 0, none⟩), .agg #[.int .i64 p, .int .i64 a], .int .i64 now] w fun e w' => e = .returned (.bool (decide (a + ag ≤ now))) ∧ Below w.heap.size w w' := by
  unfold okH at ha
  have hwr : IntKind.i64.wrap (a + ag) = a + ag := by rw [IntKind.wrap_i64]; omega
  have c1 : (w.alloc (.cells #[.int .i64 p, .int .i64 a] 78)).cell? ⟨B, 1, none⟩ = some (.int .i64 ag) := ((hB.later (bel1 w (.cells #[.int .i64 p, .int .i64 a] 78))).2 1 _ rfl).1
  have d1 : (w.alloc (.cells #[.int .i64 p, .int .i64 a] 78)).cell? ⟨w.heap.size, 1, none⟩ = some (.int .i64 a) := ((At.box w #[.int .i64 p, .int .i64 a] 78).2 1 _ rfl).1
  have hb := bel1 w (.cells #[.int .i64 p, .int .i64 a] 78)
  go_enter Tryz.func23, Tryz.ntmps23
  go_upto_region 1 with fail
  generalize w.alloc (.cells #[.int .i64 p, .int .i64 a] 78) = w1 at *
  go_quiet (fail)
  go_wp2
  go_ret
  exact ⟨rfl, below_drewN hb _⟩
theorem take1_any (Bb Bn B : Nat) (po ag ro la : Int) (M : Nat) (p a now : Int) (w : World) (hB : At w B (brV po ag ro la M)) (ha : okH p a) (hg0 : 1 ≤ ag) (hg1 : ag ≤ 1048576) (hp : w.cell? ⟨Bb, 0, none⟩ = some (.pointer (some ⟨B, 0, none⟩))) (hn : w.cell? ⟨Bn, 0, none⟩ = some (.int .i64 now)) :
    Calls Tryz.prog 22 #[.agg #[.int .i64 p, .int .i64 a], .pointer (some ⟨Bb, 0, none⟩), .pointer (some ⟨Bn, 0, none⟩)] w fun e w' => e = .returned (.bool (decide (a + ag ≤ now))) ∧ Below w.heap.size w w' := by
  have hb := bel1 w (.cells #[.int .i64 p, .int .i64 a] 78)
  have c0 := later hb hp
  have c1 := later hb hn
  have hB' := hB.later hb
  have d0 : (w.alloc (.cells #[.int .i64 p, .int .i64 a] 78)).cell? ⟨w.heap.size, 0, none⟩ = some (.int .i64 p) := ((At.box w #[.int .i64 p, .int .i64 a] 78).2 0 _ rfl).1
  have d1 : (w.alloc (.cells #[.int .i64 p, .int .i64 a] 78)).cell? ⟨w.heap.size, 1, none⟩ = some (.int .i64 a) := ((At.box w #[.int .i64 p, .int .i64 a] 78).2 1 _ rfl).1
  go_enter Tryz.func22, Tryz.ntmps22
  go_wp2_with fail
  refine (old_any B po ag ro la M p a now _ hB' ha hg0 hg1).mono ?_
  rintro e w1 ⟨rfl, hb1⟩
  go_wp2
  go_ret
  exact ⟨rfl, bt hb hb1⟩
end Go.Proofs.YthjbmloemmggaaaGreatDoor.Eth.Arp

namespace Go.Proofs.YthjbmloemmggaaaGreatDoor.Eth.Arp
open Go.RowKit Go.Maps
set_option maxRecDepth 100000
set_option linter.unusedVariables false
set_option linter.unusedSimpArgs false

theorem uniq {l : List En} (h : Rise l) {e e' : En} (he : e ∈ l) (he' : e' ∈ l) (hk : e.1 = e'.1) : e = e' := by
  induction l with
  | nil => cases he
  | cons y r ih =>
    have hy := (List.pairwise_cons.1 h)
    rcases List.mem_cons.1 he with h1 | h1
    · rcases List.mem_cons.1 he' with h2 | h2
      · rw [h1, h2]
      · have := hy.1 _ h2; rw [h1] at hk; omega
    · rcases List.mem_cons.1 he' with h2 | h2
      · have := hy.1 _ h1; rw [h2] at hk; omega
      · exact ih hy.2 h1 h2
theorem lk_mem {l : List En} {k p t : Int} (h : lk l k = some (p, t)) : (k, p, t) ∈ l := by
  unfold lk at h
  cases hf : l.find? (fun e => e.1 == k) with
  | none => rw [hf] at h; cases h
  | some e =>
    rw [hf] at h
    obtain ⟨a, b, c⟩ := e
    have h1 : a = k := by simpa using List.find?_some hf
    have h2 : (b, c) = (p, t) := Option.some.inj h
    cases h2
    subst h1
    exact List.mem_of_find?_eq_some hf
def stF (g : En → Bool) (left : Lit → Bool) (e : En) : Bool := !g e || left (.int .i64 e.1)
theorem st_start (l : List En) (g : En → Bool) : l.filter (stF g (Maps.has (toD l))) = l := by
  rw [List.filter_eq_self]
  intro e he
  unfold stF
  rw [has_toD]
  have : (l.any fun x => x.1 == e.1) = true := List.any_eq_true.2 ⟨e, he, by simp⟩
  rw [this]; simp
theorem st_end (l : List En) (g : En → Bool) {left : Lit → Bool} (h : ∀ k, left k = false) : l.filter (stF g left) = l.filter fun e => !g e :=
  List.filter_congr fun e _ => by unfold stF; rw [h]; simp
theorem st_who {l : List En} (hr : Rise l) {g : En → Bool} {left : Lit → Bool} {x p t : Int} (hlx : left (.int .i64 x) = true) (hlk : lk (l.filter (stF g left)) x = some (p, t)) {e : En} (he : e ∈ l) (hx : e.1 = x) : e = (x, p, t) :=
  uniq hr he (List.mem_filter.1 (lk_mem hlk)).1 hx
theorem st_struck {l : List En} (hr : Rise l) {g : En → Bool} {left : Lit → Bool} {x p t : Int} (hlx : left (.int .i64 x) = true) (hlk : lk (l.filter (stF g left)) x = some (p, t)) (hg : g (x, p, t) = true) :
    (l.filter (stF g left)).filter (fun e => e.1 != x) = l.filter (stF g (fun z => left z && !z.sameKey (.int .i64 x))) := by
  rw [List.filter_filter]
  refine List.filter_congr fun e he => ?_
  unfold stF
  by_cases hx : e.1 = x
  · have := st_who hr hlx hlk he hx
    subst this
    simp [hg, same_int]
  · have h1 : (e.1 == x) = false := by simpa using hx
    simp [bne, h1, same_int]
theorem st_stays {l : List En} (hr : Rise l) {g : En → Bool} {left : Lit → Bool} {x p t : Int} (hlx : left (.int .i64 x) = true) (hlk : lk (l.filter (stF g left)) x = some (p, t)) (hg : g (x, p, t) = false) :
    l.filter (stF g left) = l.filter (stF g (fun z => left z && !z.sameKey (.int .i64 x))) := by
  refine List.filter_congr fun e he => ?_
  unfold stF
  by_cases hx : e.1 = x
  · have := st_who hr hlx hlk he hx
    subst this
    simp [hg]
  · have h1 : (e.1 == x) = false := by simpa using hx
    simp [bne, h1, same_int]
theorem rg_later {w w' : World} {M r n cnt : Nat} {D : DataW Unit} {left : Lit → Bool} (h : w.ranges Tryz.prog 3 hElem M r n D left cnt) (hb : Below w.heap.size w w') : w'.ranges Tryz.prog 3 hElem M r n D left cnt :=
  h.kept (row := none) ⟨hb.os, hb.tape, hb.output, hb.size, fun k hk _ => hb.block k hk⟩ (by simp) (by simp)
theorem at_ne {w : World} {B M : Nat} {u : Value} {o : Nat} {l : List En} (h : w.cell? ⟨B, o, none⟩ = some u) (hM : Lrn w M l) : B ≠ M := by
  rintro rfl
  obtain ⟨⟨es, clock, hb, -⟩, -⟩ := hM
  simp [World.cell?, hb] at h
theorem wpList_next_h {w : World} {ops : Array Oper} {rest : List Oper} {o : Oper} {a : Act} {Q : Exit → Act → World → Prop} (hg : o.guard = none) (it : Operand) (hop : o.op = Op.next it false) (M r n : Nat) (l : List En) (left : Lit → Bool) (cnt : Nat)
    (hit : a.eval it = .pointer (some ⟨r, 0, none⟩)) (h : w.ranges Tryz.prog 3 hElem M r n (toD l) left cnt)
    (hDone : cnt = 0 → (∀ kl, left kl = false) → wpList Tryz.prog ops Q rest (a.put o.dst (.tuple #[.bool false])) w)
    (hMore : ∀ (x p t : Int) (w' : World) (cnt' : Nat), (Lit.int .i64 x).wf = true → okH p t → left (.int .i64 x) = true → lk l x = some (p, t) → w'.ranges Tryz.prog 3 hElem M r n (toD l) (fun z => left z && !z.sameKey (.int .i64 x)) cnt' → cnt' < cnt →
      w.grownBy w' (some r) → w'.heap.size = w.heap.size → (Instr.entry (.pointer (some ⟨r, 0, none⟩))).run Tryz.prog w' = .ok (.tuple #[.int .i64 x, .agg #[.int .i64 p, .int .i64 t]]) w' → wpList Tryz.prog ops Q rest (a.put o.dst (.tuple #[.bool true, .int .i64 x, .agg #[.int .i64 p, .int .i64 t]])) w') :
    wpList Tryz.prog ops Q (o :: rest) a w := by
  refine wpList_next_ranges w hg it hop 3 law3 hElem (fun x : Int => Value.int .i64 x) (fun c : Int × Int => .agg #[.int .i64 c.1, .int .i64 c.2]) inv3 invH M r n (toD l) left cnt hit h hDone ?_
  intro x c kl y w' cnt' hkey hlk hv hat hrg hlt hgr hsz hen
  obtain ⟨x', ex, rfl, hwx⟩ := Maps.keyOf_int_inv Tryz.underlying3 hkey
  cases ex
  obtain ⟨c', ec, rfl, hok⟩ := hElem_inv hv
  obtain ⟨p, t⟩ := c
  obtain ⟨p', t'⟩ := c'
  simp only [Value.agg.injEq, Array.mk.injEq, List.cons.injEq, Value.int.injEq, true_and, and_true] at ec
  obtain ⟨rfl, rfl⟩ := ec
  refine hMore x p t w' cnt' hwx hok hlk ?_ hrg hlt hgr hsz hen
  have h0 := hat (.lit (.bool true))
  rw [at_toD] at h0
  cases hq : lk l x with
  | none => rw [hq] at h0; cases h0
  | some c =>
    rw [hq] at h0
    simp only [DataW.agg.injEq, List.cons.injEq, DataW.lit.injEq, Lit.int.injEq, and_true, true_and] at h0
    exact congrArg some (Prod.ext h0.1 h0.2)
set_option maxHeartbeats 1000000 in
theorem forget_take (B M Bb Bn : Nat) (po ag ro la now : Int) (l : List En) (w : World) (hB : At w B (brV po ag ro la M)) (hM : Lrn w M l) (hg0 : 1 ≤ ag) (hg1 : ag ≤ 1048576) (hBb : w.cell? ⟨Bb, 0, none⟩ = some (.pointer (some ⟨B, 0, none⟩))) (hBn : w.cell? ⟨Bn, 0, none⟩ = some (.int .i64 now)) :
    Calls Tryz.prog 21 #[.pointer (some ⟨B, 0, none⟩), .func (.func 22) #[] #[.pointer (some ⟨Bb, 0, none⟩), .pointer (some ⟨Bn, 0, none⟩)]] w fun e w' => e = .returned (.tuple #[]) ∧ Lrn w' M (l.filter fun e => !(decide (e.2.2 + ag ≤ now))) ∧ Turn (fun k => k = M) w w' := by
  have hne : B ≠ M := at_ne (hB.2 0 _ rfl).1 hM
  have nBb : Bb ≠ M := at_ne hBb hM
  have nBn : Bn ≠ M := at_ne hBn hM
  have c4 : w.cell? ⟨B, 4, none⟩ = some (.map (some M)) := (hB.2 4 _ rfl).1
  go_enter Tryz.func21, Tryz.ntmps21
  go_wp2_with (first
    | (at_range; refine wpList_range_own _ rfl _ 68 rfl 3 78 law3 Tryz.underlying68 _ M l.length _ rfl hM.1 ?_; intro w0 hrg0 hgr0 hs0)
    | go_in)
  go_frame
  go_loopw [11] (fun _ wr => ∃ (left : Lit → Bool) (cnt : Nat), wr.ranges Tryz.prog 3 hElem M w.heap.size l.length (toD (l.filter (stF (fun e => decide (e.2.2 + ag ≤ now)) left))) left cnt ∧ Turn (fun k => k = M) w wr)
    (fun _ wr => wr.rangeLeft M w.heap.size)
  case atStart => exact ⟨_, _, by rw [st_start]; exact hrg0, Turn.of_grown hgr0 (fun j h => by cases h)⟩
  case round =>
    obtain ⟨left, cnt, hrg, ht⟩ := hrel
    go_wp2_with (first
      | (at_next; refine wpList_next_h rfl _ rfl M w.heap.size l.length _ _ _ rfl hrg ?_ ?_)
      | go_in)
    · intro _ hl0
      go_wp2
      go_end0
      have h1 := hrg.owns
      rw [st_end l _ hl0] at h1
      exact ⟨rfl, ⟨owns_len h1, rise_of h1, fun e he => hM.2.2 e (List.mem_filter.1 he).1⟩, ht⟩
    · intro x p t w1 cnt1 hwx hok hlx hlk hrg1 hlt hgr1 hs1 hen
      have ht1 : Turn (fun k => k = M) w w1 := ht.and hgr1 (fun j h => by cases h; exact Or.inr (Nat.le_refl _))
      have hb1 := bel1 w1 (.cells #[.int .i64 p, .int .i64 t] 78)
      have hB1 := (hB.turn ht1 hne).later hb1
      have gBb := later hb1 ((ht1.cell (World.block_lt_of_cell? _ _ hBb) nBb 0).trans hBb)
      have gBn := later hb1 ((ht1.cell (World.block_lt_of_cell? _ _ hBn) nBn 0).trans hBn)
      go_wp2_with fail
      refine (take1_any Bb Bn B po ag ro la M p t now _ hB1 hok hg0 hg1 gBb gBn).mono ?_
      rintro e w2 ⟨rfl, hb2⟩
      have ht2 := (ht1.later hb1).later hb2
      have hrg2 := rg_later (rg_later hrg1 hb1) hb2
      have c4' : w2.cell? ⟨B, 4, none⟩ = some (.map (some M)) := ((hB1.later hb2).2 4 _ rfl).1
      rcases Bool.eq_false_or_eq_true (decide (t + ag ≤ now)) with hq | hq
      · rw [hq]
        go_wp2_with (first
          | (at_delete; refine wpList_delete_ranges _ rfl _ _ 68 3 rfl 78 law3 Tryz.underlying68 _ M w.heap.size l.length _ _ _ rfl hrg2 _ _ rfl (keyOf_int_mk Tryz.underlying3 hwx) ?_; intro w3 cnt3 hrg3 hle hturn; go_frame)
          | go_in)
        rw [Maps.strike_twice, del_toD, st_struck hM.2.1 hlx hlk hq] at hrg3
        go_roundw
        case rel => exact ⟨_, cnt3, hrg3, ht2.and hturn.grown (fun j h => by cases h; exact Or.inl rfl)⟩
        case measure => rw [hrg3.left_eq, hrg.left_eq]; omega
      · rw [hq]
        rw [st_stays hM.2.1 hlx hlk hq] at hrg2
        go_wp2
        go_roundw
        case rel => exact ⟨_, cnt1, hrg2, ht2⟩
        case measure => rw [hrg2.left_eq, hrg.left_eq]; exact hlt
end Go.Proofs.YthjbmloemmggaaaGreatDoor.Eth.Arp

namespace Go.Proofs.YthjbmloemmggaaaGreatDoor.Eth.Arp
open Go.RowKit Go.Maps
set_option maxRecDepth 100000
set_option linter.unusedVariables false
set_option linter.unusedSimpArgs false

def learnL (ro : Int) (l : List En) (e : En) : List En := if (lk l e.1).isSome || decide ((l.length : Int) < ro) then putL l e else l
theorem Lrn.block {w : World} {M : Nat} {l : List En} (h : Lrn w M l) : ∃ es clock, w.heap[M]? = some (.map es clock) ∧ es.size = l.length := by
  obtain ⟨⟨es, clock, hb, F, hn, hD⟩, -⟩ := h
  refine ⟨es, clock, hb, ?_⟩
  have h2 := congrArg Maps.size hD
  rw [size_toD, size_eq, length_sorted] at h2
  simpa using h2.symm
theorem Lrn.store {w : World} {M : Nat} {l : List En} (h : Lrn w M l) {e : En} (he : okE e) (hn : l.length < 5000) :
    ∃ w', (Instr.mapUpdate 68 (.map (some M)) (.int .i64 e.1) (.agg #[.int .i64 e.2.1, .int .i64 e.2.2])).run Tryz.prog w = .ok () w' ∧ Lrn w' M (putL l e) ∧ w.grownBy w' (some M) := by
  obtain ⟨w', hrun, r1, r2⟩ := h.1.store law3 Tryz.underlying68 (by unfold maxLen; omega) (keyOf_int_mk Tryz.underlying3 he.1) (hElem_mk he.2)
  have h1 : w'.ownsMap Tryz.prog 3 hElem M (l.length + 1) (toD (putL l e)) := by
    rw [← put_toD]
    exact r1
  exact ⟨w', hrun, ⟨owns_len h1, rise_of h1, okE_put he h.2.2⟩, r2.grown⟩
set_option maxHeartbeats 1000000 in
theorem learn_any (B M : Nat) (po ag ro la : Int) (k port now : Int) (l : List En) (w : World) (hB : At w B (brV po ag ro la M)) (hM : Lrn w M l) (he : okE (k, port, now)) (hn : l.length < 5000) :
    Calls Tryz.prog 24 #[.pointer (some ⟨B, 0, none⟩), .int .i64 k, .agg #[.int .i64 port, .int .i64 now]] w fun e w' => e = .returned (.tuple #[]) ∧ Lrn w' M (learnL ro l (k, port, now)) ∧ Turn (fun j => j = M) w w' := by
  have hb0 := bel1 w (.cells #[.int .i64 port, .int .i64 now] 78)
  have hM0 := hM.later hb0
  have hB0 := hB.later hb0
  have hH0 := At.box w #[.int .i64 port, .int .i64 now] 78
  have c4 : (w.alloc (.cells #[.int .i64 port, .int .i64 now] 78)).cell? ⟨B, 4, none⟩ = some (.map (some M)) := (hB0.2 4 _ rfl).1
  go_enter Tryz.func24, Tryz.ntmps24
  go_upto_region 1 with fail
  generalize w.alloc (.cells #[.int .i64 port, .int .i64 now] 78) = w1 at *
  go_wp2_with (first
    | (at_lookup; refine wpList_lookup_h rfl _ _ rfl M l k he.1 rfl hM0 rfl ?_; intro p0 t0 hpt)
    | go_in)
  have hb1 := bel1 w1 (.cells #[.int .i64 p0, .int .i64 t0] 78)
  have hM1 := hM0.later hb1
  have hB1 := hB0.later hb1
  have hH1 := hH0.later hb1
  generalize w1.alloc (.cells #[.int .i64 p0, .int .i64 t0] 78) = w2 at *
  have d2 : w2.cell? ⟨B, 2, none⟩ = some (.int .i64 ro) := (hB1.2 2 _ rfl).1
  have d4 : w2.cell? ⟨B, 4, none⟩ = some (.map (some M)) := (hB1.2 4 _ rfl).1
  have e0 : w2.cell? ⟨w.heap.size, 0, none⟩ = some (.int .i64 port) := (hH1.2 0 _ rfl).1
  have e1 : w2.cell? ⟨w.heap.size, 1, none⟩ = some (.int .i64 now) := (hH1.2 1 _ rfl).1
  obtain ⟨es, clock, hh, hsz⟩ := hM1.block
  have u1 := Tryz.underlying68
  have hlen : ∀ (n : Nat) (ty : TypeId), (Builtin.len_ #[68] ty #[.map (some M)]).run Tryz.prog (w2.drewN n) = .ok (.int .i64 l.length) (w2.drewN n) := fun n ty => by
    have h1 : (w2.drewN n).ownsMap Tryz.prog 3 hElem M l.length (toD l) := hM1.1
    have := h1.len Tryz.underlying68 ty
    rwa [size_toD] at this
  obtain ⟨W3, hW3⟩ : ∃ W3 : Nat → World, ∀ n, (Instr.mapUpdate 68 (.map (some M)) (.int .i64 k) (.agg #[.int .i64 port, .int .i64 now])).run Tryz.prog (w2.drewN n) = .ok () (W3 n) ∧ Lrn (W3 n) M (putL l (k, port, now)) ∧ (w2.drewN n).grownBy (W3 n) (some M) :=
    Classical.axiomOfChoice fun n => Lrn.store (w := w2.drewN n) (e := (k, port, now)) hM1 he hn
  have hrun := fun n => (hW3 n).1
  have hfin : ∀ n, Lrn (W3 n) M (putL l (k, port, now)) ∧ Turn (fun j => j = M) w (W3 n) := fun n => ⟨(hW3 n).2.1, (Turn.of_below (bt hb0 (below_drewN hb1 n))).and (hW3 n).2.2 (fun j h => by cases h; exact Or.inl rfl)⟩
  clear hW3
  cases hq : (lk l k).isSome with
  | true =>
    have hL : learnL ro l (k, port, now) = putL l (k, port, now) := by unfold learnL; rw [hq]; rfl
    go_quiet (fail)
    go_upto_region 3 with fail
    go_region
    all_goals go_end0
    all_goals (refine ⟨rfl, ?_⟩; rw [hL]; exact hfin _)
  | false =>
    by_cases hr : (l.length : Int) < ro
    · have hL : learnL ro l (k, port, now) = putL l (k, port, now) := by unfold learnL; rw [decide_eq_true hr, Bool.or_true]; rfl
      go_quiet (fail)
      go_upto_region 3 with fail
      go_region
      all_goals go_end0
      all_goals (refine ⟨rfl, ?_⟩; rw [hL]; exact hfin _)
    · have hL : learnL ro l (k, port, now) = l := by unfold learnL; rw [hq, decide_eq_false hr]; rfl
      go_quiet (fail)
      go_wp2
      go_end0
      exact ⟨rfl, hM1, (Turn.of_below (bt hb0 (below_drewN hb1 _)))⟩
end Go.Proofs.YthjbmloemmggaaaGreatDoor.Eth.Arp

namespace Go.Proofs.YthjbmloemmggaaaGreatDoor.Eth.Arp
open Go.RowKit Go.Maps
set_option maxRecDepth 100000
set_option linter.unusedVariables false
set_option linter.unusedSimpArgs false

def Ints (w : World) (base : Nat) (v : Value) (zs : List Int) : Prop := w.ownsRow base 3 1 v zs.length (zs.map (Value.int .i64))
theorem Ints.nil (w : World) (base : Nat) : Ints w base (.slice none 0 0) [] := World.ownsRow_nil _ _ _ _
theorem info3 : (Tryz.prog.info? 3).map (fun i => (i.zero, i.size, i.bytes)) = some (some (.int .i64 0), 1, 8) := by kernel_rfl
theorem one_news {X : World} {x : Addr} {t : Int} (h : X.cell? x = some (.int .i64 t)) : ∀ j y, [Value.int .i64 t][j]? = some y → X.cell? (x.add j) = some y := by
  intro j y hy
  have hj : j = 0 := by have := (List.getElem?_eq_some_iff.1 hy).1; simpa using this
  subst hj
  obtain rfl : y = .int .i64 t := by simpa using hy.symm
  rw [show x.add 0 = x by simp [Addr.add]]
  exact h
theorem own_ge {w : World} {base : Nat} {v : Value} {zs : List Int} (h : Ints w base v zs) : ∀ j, v.ownBlock = some j → base ≤ j := by
  intro j hj
  rcases h.2 with ⟨rfl, -⟩ | ⟨g, cap, cur, rfl, hg, -⟩
  · simp [Value.ownBlock] at hj
  · simp [Value.ownBlock] at hj; omega
theorem wpList_append1 {w : World} {ops : Array Oper} {rest : List Oper} {o : Oper} {a : Act} {Q : Exit → Act → World → Prop} (hgd : o.guard = none) (s x : Operand)
    (ho : o.op = .call { callee := .builtin .append, args := #[s, x], argTypes := #[24, 24] }) (base : Nat) (v : Value) (zs : List Int) (t : Int) (hs : a.eval s = v) (hown : Ints w base v zs) (hx : a.eval x = .slice (some ⟨w.heap.size, 0, none⟩) 1 1) (hbase : base ≤ w.heap.size) (hlen : zs.length < 1000000)
    (h : ∀ v' w', Ints w' base v' (zs ++ [t]) → Below base w w' → Turn (fun k => v.ownBlock = some k) w w' → wpList Tryz.prog ops Q rest (a.put o.dst v') w') : wpList Tryz.prog ops Q (o :: rest) a (w.alloc (.cells #[.int .i64 t] 3)) := by
  obtain ⟨i0, hi, hz0, hz1, hz2⟩ := info_parts info3
  refine wpList_append_own _ hgd s x 24 ho base 3 i0 (.int .i64 0) 1 8 Tryz.underlying24 hi hz0 hz1 hz2 rfl (by decide) v zs.length (zs.map (Value.int .i64)) hs (World.ownsRow.alloc hown _) ⟨w.heap.size, 0, none⟩ 1 1 [.int .i64 t] hx rfl (one_news ((At.box w #[.int .i64 t] 3).2 0 _ rfl).1) (by simp [Value.oneCell']) (by unfold maxLen; omega) (by omega) (Nat.le_trans hbase (bel1 w _).size) ?_
  intro v' w' h1 h2 h3
  have hT : Turn (fun k => v.ownBlock = some k) w w' := (Turn.of_below (bel1 w _)).and h2 (fun j hj => Or.inl hj)
  refine h v' w' ?_ (hT.below hbase (fun k hk he => by have := own_ge hown k he; omega)) hT
  unfold Ints
  simpa using h1
def othL (from_ : Int) (n : Nat) : List Int := ((List.range n).map (fun i : Nat => (i : Int))).filter fun p => p != from_
theorem oth_succ (f : Int) (n : Nat) : othL f (n + 1) = if (n : Int) = f then othL f n else othL f n ++ [(n : Int)] := by
  unfold othL
  rw [List.range_succ, List.map_append, List.filter_append]
  by_cases h : (n : Int) = f
  · simp [h]
  · simp [h]
theorem oth_len (f : Int) (n : Nat) : (othL f n).length ≤ n := by
  unfold othL
  exact Nat.le_trans (List.length_filter_le _ _) (by simp)
set_option maxHeartbeats 1000000 in
theorem others_any (B M : Nat) (po ag ro la : Int) (from_ : Int) (w : World) (hB : At w B (brV po ag ro la M)) (h0 : 1 ≤ po) (h1 : po ≤ 16) :
    Calls Tryz.prog 40 #[.pointer (some ⟨B, 0, none⟩), .int .i64 from_] w fun e w' => ∃ v, e = .returned v ∧ Ints w' w.heap.size v (othL from_ po.toNat) ∧ Below w.heap.size w w' := by
  have c0 : w.cell? ⟨B, 0, none⟩ = some (.int .i64 po) := (hB.2 0 _ rfl).1
  go_enter Tryz.func40, Tryz.ntmps40
  go_wp2
  go_loopw [5, 11] (fun out c wr => ∃ (k : Nat) (v : Value), v = out ∧ k ≤ po.toNat ∧ c = .int .i64 (k : Int) ∧ Ints wr w.heap.size v (othL from_ k) ∧ Below w.heap.size w wr) (fun _ c _ => po.toNat - (intOf c).toNat)
  case atStart => exact ⟨0, _, rfl, Nat.zero_le _, rfl, Ints.nil _ _, Below.refl _ _⟩
  case round =>
    obtain ⟨k, v, rfl, hk, rfl, hI, hb⟩ := hrel
    have hlen := oth_len from_ k
    by_cases hlt : (k : Int) < po
    · by_cases hf : (k : Int) = from_
      · subst hf
        go_wp2
        go_roundw
        case rel => exact ⟨k + 1, _, rfl, by omega, by simp, by rw [oth_succ, if_pos rfl]; exact hI, hb⟩
        case measure => simp [intOf]; omega
      · go_wp2_with (first
          | (at_builtin; refine wpList_append1 rfl _ _ rfl w.heap.size v (othL from_ k) (k : Int) rfl hI rfl hb.size (by omega) ?_; intro v2 w2 hI2 hb2 ht2)
          | go_in)
        go_roundw
        case rel => exact ⟨k + 1, _, rfl, by omega, by simp, by rw [oth_succ, if_neg hf]; exact hI2, hb.trans hb2⟩
        case measure => simp [intOf]; omega
    · have hkp : po.toNat = k := by omega
      go_wp2
      go_ret
      exact ⟨_, rfl, hI, hb⟩
def waysL (po : Int) (l : List En) (from_ td : Int) : List Int :=
  match lk l td with
  | some c => if macB td && grpB td then othL from_ po.toNat else if c.1 = from_ then [] else [c.1]
  | none => othL from_ po.toNat
theorem ints_one (w : World) (t : Int) : Ints (w.alloc (.cells #[.int .i64 t] 3)) w.heap.size (.slice (some ⟨w.heap.size, 0, none⟩) 1 1) [t] := World.ownsRow_lit w #[.int .i64 t] 1 (Nat.le_refl _) (by unfold maxLen; omega) rfl
theorem Ints.below {w : World} {b b' : Nat} {v : Value} {zs : List Int} (h : Ints w b v zs) (hb : b' ≤ b) : Ints w b' v zs := by
  obtain ⟨h1, h2⟩ := h
  refine ⟨h1, ?_⟩
  rcases h2 with h | ⟨g, cap, cur, a1, a2, a3⟩
  · exact Or.inl h
  · exact Or.inr ⟨g, cap, cur, a1, Nat.le_trans hb a2, a3⟩
set_option maxHeartbeats 1000000 in
theorem ways_any (B M : Nat) (po ag ro la : Int) (from_ td : Int) (l : List En) (w : World) (hB : At w B (brV po ag ro la M)) (hM : Lrn w M l) (h0 : 1 ≤ po) (h1 : po ≤ 16) (ht : (Lit.int .i64 td).wf = true) :
    Calls Tryz.prog 25 #[.pointer (some ⟨B, 0, none⟩), .int .i64 from_, .int .i64 td] w fun e w' => ∃ v, e = .returned v ∧ Ints w' w.heap.size v (waysL po l from_ td) ∧ Below w.heap.size w w' := by
  have c4 : w.cell? ⟨B, 4, none⟩ = some (.map (some M)) := (hB.2 4 _ rfl).1
  go_enter Tryz.func25, Tryz.ntmps25
  go_upto_region 1 with fail
  go_wp2_with (first
    | (at_lookup; refine wpList_lookup_h rfl _ _ rfl M l td ht rfl hM rfl ?_; intro p0 t0 hpt)
    | (go_at_call 39; fail))
  have hb1 := bel1 w (.cells #[.int .i64 p0, .int .i64 t0] 78)
  have hB1 := hB.later hb1
  have hH := At.box w #[.int .i64 p0, .int .i64 t0] 78
  generalize w.alloc (.cells #[.int .i64 p0, .int .i64 t0] 78) = w1 at *
  have d0 : w1.cell? ⟨w.heap.size, 0, none⟩ = some (.int .i64 p0) := (hH.2 0 _ rfl).1
  refine (pgroup_any td w1).mono ?_
  rintro e w2 ⟨rfl, rfl⟩
  cases hq : lk l td with
  | none =>
    have hL : waysL po l from_ td = othL from_ po.toNat := by unfold waysL; rw [hq]
    rcases Bool.eq_false_or_eq_true (macB td && grpB td) with hg | hg <;> rw [hg]
    all_goals
      go_wp2_with fail
      refine (others_any B M po ag ro la from_ _ hB1 h0 h1).mono ?_
      rintro e w3 ⟨v, rfl, hI, hb2⟩
      go_wp2
      go_ret
      exact ⟨_, rfl, by rw [hL]; exact hI.below hb1.size, bt hb1 hb2⟩
  | some c =>
    have hc : c = (p0, t0) := by rw [hq] at hpt; exact hpt
    subst hc
    rcases Bool.eq_false_or_eq_true (macB td && grpB td) with hg | hg
    · have hL : waysL po l from_ td = othL from_ po.toNat := by unfold waysL; rw [hq]; simp [hg]
      rw [hg]
      go_wp2_with fail
      refine (others_any B M po ag ro la from_ _ hB1 h0 h1).mono ?_
      rintro e w3 ⟨v, rfl, hI, hb2⟩
      go_wp2
      go_ret
      exact ⟨_, rfl, by rw [hL]; exact hI.below hb1.size, bt hb1 hb2⟩
    · rw [hg]
      by_cases hp : p0 = from_
      · have hL : waysL po l from_ td = [] := by unfold waysL; rw [hq]; simp [hg, hp]
        subst hp
        go_wp2
        go_ret
        exact ⟨_, rfl, by rw [hL]; exact Ints.nil _ _, hb1⟩
      · have hL : waysL po l from_ td = [p0] := by unfold waysL; rw [hq]; simp [hg, hp]
        have hI := (ints_one w2 p0).below hb1.size
        have hb2 := bel1 w2 (.cells #[.int .i64 p0] 3)
        go_wp2
        go_ret
        exact ⟨_, rfl, by rw [hL]; exact hI, bt hb1 hb2⟩
end Go.Proofs.YthjbmloemmggaaaGreatDoor.Eth.Arp

namespace Go.Proofs.YthjbmloemmggaaaGreatDoor.Eth.Arp
open Go.RowKit Go.Maps
set_option maxRecDepth 100000
set_option linter.unusedVariables false
set_option linter.unusedSimpArgs false
def hasP (po port : Int) : Bool := decide (0 ≤ port) && decide (port < po)
def newOk (po ag ro : Int) : Bool := decide ((1 ≤ po ∧ po ≤ 16) ∧ (1 ≤ ag ∧ ag ≤ 1048576) ∧ (1 ≤ ro ∧ ro ≤ 1024))
set_option maxHeartbeats 1000000 in
theorem new_t (po ag ro : Int) (w : World) (h : newOk po ag ro = true) :
    Calls Tryz.prog 7 #[.int .i64 po, .int .i64 ag, .int .i64 ro] w fun e w' => ∃ B M, e = .returned (.tuple #[.pointer (some ⟨B, 0, none⟩), .int .i64 0]) ∧ w.heap.size ≤ B ∧ w.heap.size ≤ M ∧ At w' B (brV po ag ro 0 M) ∧ Lrn w' M [] ∧ Below w.heap.size w w' := by
  have h' := of_decide_eq_true h
  have hmm := @run_makeMap Tryz.prog
  obtain ⟨⟨a0, a1⟩, ⟨b0, b1⟩, c0, c1⟩ := h'
  go_enter Tryz.func7, Tryz.ntmps7
  go_wp2
  go_ret2
  have hb1 := bel1 w (.map #[] 0)
  have hb2 := bel1 (w.alloc (.map #[] 0)) (.cells #[.int .i64 po, .int .i64 ag, .int .i64 ro, .int .i64 0, .map (some w.heap.size)] 70)
  have hA := At.box (w.alloc (.map #[] 0)) #[.int .i64 po, .int .i64 ag, .int .i64 ro, .int .i64 0, .map (some w.heap.size)] 70
  have hM0 : Lrn (w.alloc (.map #[] 0)) w.heap.size [] := ⟨World.ownsMap_made _ _ _ _, List.Pairwise.nil, fun e he => by cases he⟩
  rw [show (w.alloc (.map #[] 0)).heap.size = w.heap.size + 1 by simp] at hA
  exact ⟨w.heap.size + 1, w.heap.size, rfl, Nat.le_succ _, Nat.le_refl _, hA, hM0.later hb2, bt hb1 hb2⟩
end Go.Proofs.YthjbmloemmggaaaGreatDoor.Eth.Arp

namespace Go.Proofs.YthjbmloemmggaaaGreatDoor.Eth.Arp
open Go.RowKit Go.Maps
set_option maxRecDepth 100000
set_option linter.unusedVariables false
set_option linter.unusedSimpArgs false

theorem At.set {W : World} {b : Nat} {vs : Array Value} (h : At W b vs) (i : Nat) (u : Value) : At (W.setCell ⟨b, i, none⟩ u) b (vs.setIfInBounds i u) := by
  refine ⟨by rw [World.size_setCell]; exact h.1, fun j v hj => ?_⟩
  rw [World.frozen?_setCell]
  rw [Array.getElem?_setIfInBounds] at hj
  by_cases e : i = j
  · subst e
    rw [if_pos rfl] at hj
    by_cases l : i < vs.size
    · rw [if_pos l] at hj
      cases hj
      obtain ⟨c, f⟩ := h.2 i vs[i] (Array.getElem?_eq_getElem l)
      exact ⟨World.cell?_setCell_same _ _ _ c, f⟩
    · rw [if_neg l] at hj
      cases hj
  · rw [if_neg e] at hj
    obtain ⟨c, f⟩ := h.2 j v hj
    exact ⟨(World.cell?_setCell_other _ _ _ _ (by intro q; cases q; exact e rfl)).trans c, f⟩
theorem turn_set (w : World) (b o : Nat) (u : Value) : Turn (fun j => j = b) w (w.setCell ⟨b, o, none⟩ u) :=
  ⟨rfl, rfl, rfl, by simp, fun k _ hk => heap_setCell_other w ⟨b, o, none⟩ k u (fun e => hk e)⟩
def oldL (ag now : Int) (l : List En) : List En := l.filter fun e => !(decide (e.2.2 + ag ≤ now))
def tickB (la now : Int) : Bool := decide (la ≤ now ∧ now ≤ 1099511627776)
set_option maxHeartbeats 2000000 in
theorem take_4 (B M : Nat) (po ag ro la : Int) (port td fd ty now : Int) (da : ByteArray) (l : List En) (w : World) (hB : At w B (brV po ag ro la M)) (hM : Lrn w M l) (hd : da.size ≤ maxLen) (hp : hasP po port = true) (ht : tickB la now = true) (hm : mayB td fd ty da.size = true) (h0 : 1 ≤ po) (h1 : po ≤ 16) (hg0 : 1 ≤ ag) (hg1 : ag ≤ 1048576) (hla : 0 ≤ la) (hn : l.length < 5000) :
    Calls Tryz.prog 9 #[.pointer (some ⟨B, 0, none⟩), .int .i64 port, .agg #[.int .i64 td, .int .i64 fd, .int .i64 ty, .string da], .int .i64 now] w fun e w' => ∃ v, e = .returned (.tuple #[v, .int .i64 0]) ∧ Ints w' w.heap.size v (waysL po (learnL ro (oldL ag now l) (fd, port, now)) port td) ∧ At w' B (brV po ag ro now M) ∧ Lrn w' M (learnL ro (oldL ag now l) (fd, port, now)) ∧ Turn (fun j => j = M ∨ j = B) w w' := by
  have q1 := bel1 w (.cells #[.pointer (some ⟨B, 0, none⟩)] 31)
  have q2 := bel1 (w.alloc (.cells #[.pointer (some ⟨B, 0, none⟩)] 31)) (.cells #[.int .i64 td, .int .i64 fd, .int .i64 ty, .string da] 40)
  have q3 := bel1 ((w.alloc (.cells #[.pointer (some ⟨B, 0, none⟩)] 31)).alloc (.cells #[.int .i64 td, .int .i64 fd, .int .i64 ty, .string da] 40)) (.cells #[.int .i64 now] 3)
  have s1 : (w.alloc (.cells #[.pointer (some ⟨B, 0, none⟩)] 31)).heap.size = w.heap.size + 1 := by simp
  have s2 : ((w.alloc (.cells #[.pointer (some ⟨B, 0, none⟩)] 31)).alloc (.cells #[.int .i64 td, .int .i64 fd, .int .i64 ty, .string da] 40)).heap.size = w.heap.size + 2 := by simp
  have hb1 := bt (bt q1 q2) q3
  have hP := ((At.box w #[.pointer (some ⟨B, 0, none⟩)] 31).later q2).later q3
  have hF := (At.box (w.alloc (.cells #[.pointer (some ⟨B, 0, none⟩)] 31)) #[.int .i64 td, .int .i64 fd, .int .i64 ty, .string da] 40).later q3
  have hN := At.box ((w.alloc (.cells #[.pointer (some ⟨B, 0, none⟩)] 31)).alloc (.cells #[.int .i64 td, .int .i64 fd, .int .i64 ty, .string da] 40)) #[.int .i64 now] 3
  have hB1 := hB.later hb1
  have hM1 := hM.later hb1
  have hmf : ∀ (fn : Fn) (first cap : Array Value) (w : World), (Instr.makeFunc fn first cap).run Tryz.prog w = .ok (.func fn first cap) w := fun _ _ _ _ => rfl
  rw [s1] at hF
  rw [s2] at hN
  clear q1 q2 q3 s1 s2
  go_enter Tryz.func9, Tryz.ntmps9
  go_upto_region 1 with fail
  generalize (((w.alloc (.cells #[.pointer (some ⟨B, 0, none⟩)] 31)).alloc (.cells #[.int .i64 td, .int .i64 fd, .int .i64 ty, .string da] 40)).alloc (.cells #[.int .i64 now] 3)) = w1 at *
  have p0 : w1.cell? ⟨w.heap.size, 0, none⟩ = some (.pointer (some ⟨B, 0, none⟩)) := (hP.2 0 _ rfl).1
  have n0 : w1.cell? ⟨w.heap.size + 2, 0, none⟩ = some (.int .i64 now) := (hN.2 0 _ rfl).1
  go_wp2_with fail
  refine (has_any B po ag ro la M port w1 hB1).mono ?_
  rintro e w2 ⟨rfl, rfl⟩
  rw [show (decide (0 ≤ port) && decide (port < po)) = hasP po port from rfl, hp]
  have d3 : w2.cell? ⟨B, 3, none⟩ = some (.int .i64 la) := (hB1.2 3 _ rfl).1
  have ht' := of_decide_eq_true ht
  have hl1 : ¬ now < la := by omega
  have hl2 : ¬ 1099511627776 < now := by omega
  go_upto_region 3 with fail
  go_quiet (fail)
  have hb1 := below_drewN hb1 nq
  replace hB1 : At (w2.drewN nq) B (brV po ag ro la M) := hB1
  replace hM1 : Lrn (w2.drewN nq) M l := hM1
  replace hP : At (w2.drewN nq) w.heap.size #[.pointer (some ⟨B, 0, none⟩)] := hP
  replace hF : At (w2.drewN nq) (w.heap.size + 1) #[.int .i64 td, .int .i64 fd, .int .i64 ty, .string da] := hF
  replace hN : At (w2.drewN nq) (w.heap.size + 2) #[.int .i64 now] := hN
  clear p0 n0 d3
  generalize w2.drewN nq = w3 at *
  have p0 : w3.cell? ⟨w.heap.size, 0, none⟩ = some (.pointer (some ⟨B, 0, none⟩)) := (hP.2 0 _ rfl).1
  have n0 : w3.cell? ⟨w.heap.size + 2, 0, none⟩ = some (.int .i64 now) := (hN.2 0 _ rfl).1
  have f0 : w3.cell? ⟨w.heap.size + 1, 0, none⟩ = some (.int .i64 td) := (hF.2 0 _ rfl).1
  have f1 : w3.cell? ⟨w.heap.size + 1, 1, none⟩ = some (.int .i64 fd) := (hF.2 1 _ rfl).1
  have f2 : w3.cell? ⟨w.heap.size + 1, 2, none⟩ = some (.int .i64 ty) := (hF.2 2 _ rfl).1
  have f3 : w3.cell? ⟨w.heap.size + 1, 3, none⟩ = some (.string da) := (hF.2 3 _ rfl).1
  go_wp2_with fail
  refine (check_any td fd ty da w3 hd).mono ?_
  rintro e w4 ⟨rfl, hb4⟩
  rw [hm]
  rw [show codeE true = 0 from rfl]
  have hm' := of_decide_eq_true hm
  have hp' : 0 ≤ port ∧ port < po := by unfold hasP at hp; simpa using hp
  have hBM : B ≠ M := at_ne (hB.2 0 _ rfl).1 hM
  have hBl := hB.1
  have hMl := hM.1.lt
  have hb5 := bt hb1 hb4
  replace hB1 := hB1.later hb4
  replace hM1 := hM1.later hb4
  replace hP := hP.later hb4
  replace hF := hF.later hb4
  replace hN := hN.later hb4
  clear p0 n0 f0 f1 f2 f3 hb1 hb4
  have p0 : w4.cell? ⟨w.heap.size, 0, none⟩ = some (.pointer (some ⟨B, 0, none⟩)) := (hP.2 0 _ rfl).1
  have n0 : w4.cell? ⟨w.heap.size + 2, 0, none⟩ = some (.int .i64 now) := (hN.2 0 _ rfl).1
  have d3 : w4.cell? ⟨B, 3, none⟩ = some (.int .i64 la) := (hB1.2 3 _ rfl).1
  have e3 : w4.frozen? ⟨B, 3, none⟩ = false := (hB1.2 3 _ rfl).2
  go_upto_region 9 with fail
  have ts := turn_set w4 B 3 (.int .i64 now)
  have hB2 : At (w4.setCell ⟨B, 3, none⟩ (.int .i64 now)) B (brV po ag ro now M) := hB1.set 3 (.int .i64 now)
  have hM2 := hM1.turn ts (fun e => hBM e.symm)
  have hP2 := hP.turn ts (by omega)
  have hF2 := hF.turn ts (by omega)
  have hN2 := hN.turn ts (by omega)
  have t2 : Turn (fun j => j = M ∨ j = B) w (w4.setCell ⟨B, 3, none⟩ (.int .i64 now)) := (Turn.of_below hb5).trans (ts.mono fun k e => Or.inr e)
  have z2 := t2.size
  clear hB1 hM1 hP hF hN p0 n0 d3 e3
  have hws : w.heap.size + 3 ≤ (w4.setCell ⟨B, 3, none⟩ (.int .i64 now)).heap.size := hN2.1
  generalize w4.setCell ⟨B, 3, none⟩ (.int .i64 now) = w5 at *
  have p0 : w5.cell? ⟨w.heap.size, 0, none⟩ = some (.pointer (some ⟨B, 0, none⟩)) := (hP2.2 0 _ rfl).1
  have n0 : w5.cell? ⟨w.heap.size + 2, 0, none⟩ = some (.int .i64 now) := (hN2.2 0 _ rfl).1
  go_wp2_with fail
  refine (forget_take B M w.heap.size (w.heap.size + 2) po ag ro now now l w5 hB2 hM2 hg0 hg1 p0 n0).mono ?_
  rintro e w6 ⟨rfl, hM6, t6⟩
  have hB6 := hB2.turn t6 hBM
  have hP6 := hP2.turn t6 (by omega)
  have hF6 := hF2.turn t6 (by omega)
  have hN6 := hN2.turn t6 (by omega)
  have t7 := t2.trans (t6.mono fun k e => Or.inl e)
  clear p0 n0 hB2 hM2 hP2 hF2 hN2 t2
  have p0 : w6.cell? ⟨w.heap.size, 0, none⟩ = some (.pointer (some ⟨B, 0, none⟩)) := (hP6.2 0 _ rfl).1
  have n0 : w6.cell? ⟨w.heap.size + 2, 0, none⟩ = some (.int .i64 now) := (hN6.2 0 _ rfl).1
  have f1 : w6.cell? ⟨w.heap.size + 1, 1, none⟩ = some (.int .i64 fd) := (hF6.2 1 _ rfl).1
  have hok : okH port now := ⟨⟨hp'.1, by omega⟩, by omega, ht'.2⟩
  have hwf : (Lit.int .i64 fd).wf = true := WalkArith.wf_i64 (by omega)
  have hle : (oldL ag now l).length < 5000 := Nat.lt_of_le_of_lt (List.length_filter_le _ _) hn
  go_wp2_with fail
  refine (learn_any B M po ag ro now fd port now (oldL ag now l) w6 hB6 hM6 ⟨hwf, hok⟩ hle).mono ?_
  rintro e w7 ⟨rfl, hM7, t8⟩
  have hB7 := hB6.turn t8 hBM
  have hP7 := hP6.turn t8 (by omega)
  have hF7 := hF6.turn t8 (by omega)
  have t9 := t7.trans (t8.mono fun k e => Or.inl e)
  clear p0 n0 f1 hB6 hM6 hP6 hF6 hN6 t7
  have p0 : w7.cell? ⟨w.heap.size, 0, none⟩ = some (.pointer (some ⟨B, 0, none⟩)) := (hP7.2 0 _ rfl).1
  have f0 : w7.cell? ⟨w.heap.size + 1, 0, none⟩ = some (.int .i64 td) := (hF7.2 0 _ rfl).1
  go_wp2_with fail
  refine (ways_any B M po ag ro now port td (learnL ro (oldL ag now l) (fd, port, now)) w7 hB7 hM7 h0 h1 (WalkArith.wf_i64 (by omega))).mono ?_
  rintro e w8 ⟨v, rfl, hI, hb8⟩
  go_wp2
  go_ret2
  exact ⟨v, rfl, hI.below t9.size, hB7.later hb8, hM7.later hb8, t9.later hb8⟩
end Go.Proofs.YthjbmloemmggaaaGreatDoor.Eth.Arp
