/- A set of numbers as a map to true. -/
import Derived.Test.YtcjhniehbafhpaaFv
namespace Go.Proofs.Ytcjhniehbafhpaa
open Go.RowKit Go.Maps
set_option maxRecDepth 100000
set_option linter.unusedVariables false
set_option linter.unusedSimpArgs false

abbrev Vn := Int × Value
def vD (l : List Vn) : DataW Value := .map (l.map fun e => (.int .i64 e.1, .held e.2))
def VRise (l : List Vn) : Prop := l.Pairwise (fun x y => x.1 < y.1)
def vlk (l : List Vn) (k : Int) : Option Value := (l.find? (fun e => e.1 == k)).map (·.2)
def vins (e : Vn) : List Vn → List Vn
  | [] => [e]
  | y :: r => if e.1 < y.1 then e :: y :: r else y :: vins e r
def vdel (l : List Vn) (k : Int) : List Vn := l.filter fun x => x.1 != k
def vput (l : List Vn) (e : Vn) : List Vn := vins e (vdel l e.1)
theorem same_int (a b : Int) : (Lit.int .i64 a).sameKey (.int .i64 b) = (a == b) := by
  show decide (IntKind.i64 = IntKind.i64 ∧ a = b) = (a == b)
  by_cases h : a = b <;> simp [h]
theorem has_vD (l : List Vn) (k : Int) : Maps.has (vD l) (.int .i64 k) = (vlk l k).isSome := by
  rw [vD, has_eq, List.any_map, vlk, Option.isSome_map]
  induction l with
  | nil => rfl
  | cons y r ih =>
    simp only [List.any_cons, List.find?_cons, Function.comp, same_int] at ih ⊢
    cases h : (y.1 == k) <;> simp [ih]
theorem size_vD (l : List Vn) : Maps.size (vD l) = l.length := by simp [vD, size_eq]
theorem at_vD (l : List Vn) (k : Int) (z : Value) : (vD l).atKey (.int .i64 k) (.held z) = .held ((vlk l k).getD z) := by
  unfold vD DataW.atKey vlk
  simp only [List.find?_map]
  have : ((fun p : Lit × DataW Value => p.1.sameKey (.int .i64 k)) ∘ fun e : Vn => (Lit.int .i64 e.1, DataW.held e.2)) = fun e : Vn => e.1 == k := by
    funext e
    exact same_int e.1 k
  rw [this]
  cases l.find? (fun e => e.1 == k) <;> rfl
theorem del_vD (l : List Vn) (k : Int) : (vD l).del (.int .i64 k) = vD (vdel l k) := by
  unfold vD DataW.del vdel
  simp only [List.filter_map]
  congr 3
  funext e
  show (!(Lit.int .i64 e.1).sameKey (.int .i64 k)) = (e.1 != k)
  rw [same_int]
  rfl
theorem ins_vD (e : Vn) : ∀ l : List Vn, DataW.insert ((Lit.int .i64 e.1, DataW.held e.2) : Lit × DataW Value) (l.map fun e => (Lit.int .i64 e.1, DataW.held e.2)) = (vins e l).map fun e => (Lit.int .i64 e.1, DataW.held e.2)
  | [] => rfl
  | y :: r => by
    simp only [List.map, DataW.insert, vins]
    have : (Lit.int .i64 e.1).before (Lit.int .i64 y.1) = decide (e.1 < y.1) := rfl
    rw [this]
    by_cases h : e.1 < y.1
    · simp [h]
    · simp [h, ins_vD e r]
theorem put_vD (l : List Vn) (e : Vn) : (vD l).put (.int .i64 e.1) (.held e.2) = vD (vput l e) := by
  unfold vD DataW.put vput vdel
  simp only [List.filter_map]
  rw [← ins_vD]
  congr 4
  funext x
  show (!(Lit.int .i64 x.1).sameKey (.int .i64 e.1)) = (x.1 != e.1)
  rw [same_int]
  rfl
theorem law3 : Keyed Try.prog 3 := int_keyed Try.underlying3
/-- Block M is a map that holds l. -/
def VM (w : World) (M : Nat) (l : List Vn) : Prop := w.ownsMap Try.prog 3 hE M l.length (vD l) ∧ VRise l
theorem vm_len {w : World} {M n : Nat} {l : List Vn} (h : w.ownsMap Try.prog 3 hE M n (vD l)) : w.ownsMap Try.prog 3 hE M l.length (vD l) := by
  obtain ⟨es, clock, hb, F, hn, hD⟩ := h
  refine ⟨es, clock, hb, F, ?_, hD⟩
  have h2 := congrArg Maps.size hD
  rw [size_vD, size_eq, length_sorted] at h2
  simp at h2
  omega
theorem vm_rise {w : World} {M n : Nat} {l : List Vn} (h : w.ownsMap Try.prog 3 hE M n (vD l)) : VRise l := by
  obtain ⟨es, he, hr, -⟩ := h.canon law3
  unfold vD at he
  injection he with he
  subst he
  rw [List.pairwise_map] at hr
  exact hr.imp fun h => of_decide_eq_true h
theorem VM.of {w : World} {M n : Nat} {l : List Vn} (h : w.ownsMap Try.prog 3 hE M n (vD l)) : VM w M l := ⟨vm_len h, vm_rise h⟩
theorem VM.made (w : World) : VM (w.alloc (.map #[] 0)) w.heap.size [] := ⟨World.ownsMap_made _ _ _ _, List.Pairwise.nil⟩
theorem VM.lt {w : World} {M : Nat} {l : List Vn} (h : VM w M l) : M < w.heap.size := h.1.lt
theorem VM.turn {S : Nat → Prop} {w w' : World} {M : Nat} {l : List Vn} (h : VM w M l) (ht : Turn S w w') (hs : ¬ S M) : VM w' M l := by
  obtain ⟨⟨es, clock, hb, hr⟩, h2⟩ := h
  exact ⟨⟨es, clock, (ht.block M (Array.getElem?_eq_some_iff.1 hb).1 hs).trans hb, hr⟩, h2⟩
theorem VM.later {w w' : World} {M : Nat} {l : List Vn} (h : VM w M l) (hb : Below w.heap.size w w') : VM w' M l := h.turn (S := fun _ => False) (Turn.of_below hb) (fun h => h)
theorem ne_at_vm {w : World} {B M : Nat} {vs : Array Value} {x : Value} {l : List Vn} (hA : At w B vs) (h0 : vs[0]? = some x) (hL : VM w M l) : B ≠ M := by
  intro e
  subst e
  obtain ⟨⟨es, clock, hb, -⟩, -⟩ := hL
  have := (hA.2 0 x h0).1
  simp [World.cell?, hb] at this
section
variable {w : World} {M : Nat} {l : List Vn} {t e : TypeId} {z : Value} {k : Int}
theorem VM.look (h : VM w M l) (ht : Try.prog.underlying t = some (.map 3 e)) (hz : ∀ w, (zeroValue e).run Try.prog w = .ok z w) (hk : (Lit.int .i64 k).wf = true) : (Instr.lookup t (.map (some M)) (.int .i64 k) false).run Try.prog w = .ok ((vlk l k).getD z) w := by
  obtain ⟨v, ps, hr, hv⟩ := h.1.lookup law3 ht (hz w) (zd := .held z) (zp := []) rfl (keyOf_int_mk Try.underlying3 hk)
  rw [at_vD] at hv
  unfold hE at hv
  injection hv with hv
  injection hv with h1 h2
  injection h1 with h1
  rw [hr, h1]
/-- 'v, ok := m[k]'. -/
theorem wpList_lookup_vm {ops : Array Oper} {rest : List Oper} {o : Oper} {a : Act} {Q : Exit → Act → World → Prop} (hg : o.guard = none) (m x : Operand) (hop : o.op = Op.lookup t m x true) (M : Nat) (l : List Vn) (k : Int) (hk : (Lit.int .i64 k).wf = true) (ht : Try.prog.underlying t = some (.map 3 e)) (hz : ∀ w, (zeroValue e).run Try.prog w = .ok z w)
    (hm : a.eval m = .map (some M)) (hown : VM w M l) (hx : a.eval x = .int .i64 k) (hK : wpList Try.prog ops Q rest (a.put o.dst (.tuple #[(vlk l k).getD z, .bool (vlk l k).isSome])) w) : wpList Try.prog ops Q (o :: rest) a w := by
  refine wpList_lookup_own_ok w hg m x t hop 3 e law3 ht hE (hz w) (.held z) [] rfl M l.length (vD l) hm hown.1 _ _ hx (keyOf_int_mk Try.underlying3 hk) ?_
  intro v ps hv
  rw [at_vD] at hv
  unfold hE at hv
  injection hv with hv
  injection hv with h1 h2
  injection h1 with h1
  rw [has_vD, h1]
  exact hK
theorem VM.put (h : VM w M l) (ht : Try.prog.underlying t = some (.map 3 e)) (hn : l.length < 1000000) (hk : (Lit.int .i64 k).wf = true) (v : Value) :
    ∃ w', (Instr.mapUpdate t (.map (some M)) (.int .i64 k) v).run Try.prog w = .ok () w' ∧ VM w' M (vput l (k, v)) ∧ Turn (fun j => j = M) w w' := by
  obtain ⟨w', hr, ho, hg⟩ := h.1.update law3 ht (by unfold maxLen; omega) (val := v) (d := .held v) (ps := []) (keyOf_int_mk Try.underlying3 hk) rfl
  rw [put_vD l (k, v)] at ho
  exact ⟨w', hr, VM.of ho, Turn.of_grown hg (fun j hj => by cases hj; exact Or.inl rfl)⟩
theorem VM.del (h : VM w M l) (ht : Try.prog.underlying t = some (.map 3 e)) (hk : (Lit.int .i64 k).wf = true) (ty : TypeId) :
    ∃ w', (Builtin.delete_ #[t, 3] ty #[.map (some M), .int .i64 k]).run Try.prog w = .ok (.tuple #[]) w' ∧ VM w' M (vdel l k) ∧ Turn (fun j => j = M) w w' := by
  obtain ⟨w', hr, ho, hg⟩ := h.1.drop law3 ht (keyOf_int_mk Try.underlying3 hk) ty
  rw [del_vD] at ho
  exact ⟨w', hr, VM.of ho, Turn.of_grown hg.grown (fun j hj => by cases hj; exact Or.inl rfl)⟩
theorem wpList_delete_vm {ops : Array Oper} {rest : List Oper} {o : Oper} {a : Act} {Q : Exit → Act → World → Prop} (hg : o.guard = none) (m x : Operand) (hop : o.op = Op.call { callee := Callee.builtin Builtin.delete, args := #[m, x], argTypes := #[t, 3] }) (M : Nat) (l : List Vn) (k : Int) (hk : (Lit.int .i64 k).wf = true) (ht : Try.prog.underlying t = some (.map 3 e))
    (hm : a.eval m = .map (some M)) (hown : VM w M l) (hx : a.eval x = .int .i64 k) (hK : ∀ w', VM w' M (vdel l k) → Turn (fun j => j = M) w w' → wpList Try.prog ops Q rest (a.put o.dst (.tuple #[])) w') : wpList Try.prog ops Q (o :: rest) a w := by
  refine wpList_delete_own w hg m x t 3 hop e law3 ht hE M l.length (vD l) hm hown.1 _ _ hx (keyOf_int_mk Try.underlying3 hk) ?_
  intro w' ho hg
  rw [del_vD] at ho
  exact hK w' (VM.of ho) (Turn.of_grown hg.grown (fun j hj => by cases hj; exact Or.inl rfl))
theorem wpList_put_vm {ops : Array Oper} {rest : List Oper} {o : Oper} {a : Act} {Q : Exit → Act → World → Prop} (hg : o.guard = none) (m x y : Operand) (hop : o.op = Op.mapUpdate t m x y) (M : Nat) (l : List Vn) (k : Int) (v : Value) (hk : (Lit.int .i64 k).wf = true) (ht : Try.prog.underlying t = some (.map 3 e)) (hn : l.length < 1000000)
    (hm : a.eval m = .map (some M)) (hown : VM w M l) (hx : a.eval x = .int .i64 k) (hy : a.eval y = v) (hK : ∀ w', VM w' M (vput l (k, v)) → Turn (fun j => j = M) w w' → wpList Try.prog ops Q rest (a.put o.dst undef) w') : wpList Try.prog ops Q (o :: rest) a w := by
  refine wpList_plain hg fun K' hK' => ?_
  obtain ⟨w', hrun, r1, r2⟩ := hown.put ht hn hk v
  unfold Oper.wp
  simp [execOp, hop, hm, hx, hy, hrun, Result.andThen]
  exact hK' _ _ (hK w' r1 r2)
theorem VM.len (h : VM w M l) (ht : Try.prog.underlying t = some (.map 3 e)) (ty : TypeId) : (Builtin.len_ #[t] ty #[.map (some M)]).run Try.prog w = .ok (.int .i64 l.length) w := by
  have := h.1.len ht ty
  rwa [size_vD] at this
end
theorem vuniq {l : List Vn} (h : VRise l) {e e' : Vn} (he : e ∈ l) (he' : e' ∈ l) (hk : e.1 = e'.1) : e = e' := by
  induction l with
  | nil => cases he
  | cons y r ih =>
    have hy := List.pairwise_cons.1 h
    rcases List.mem_cons.1 he with h1 | h1
    · rcases List.mem_cons.1 he' with h2 | h2
      · rw [h1, h2]
      · have := hy.1 _ h2; rw [h1] at hk; omega
    · rcases List.mem_cons.1 he' with h2 | h2
      · have := hy.1 _ h1; rw [h2] at hk; omega
      · exact ih hy.2 h1 h2
theorem vlk_mem {l : List Vn} {k : Int} {v : Value} (h : vlk l k = some v) : (k, v) ∈ l := by
  unfold vlk at h
  cases hf : l.find? (fun e => e.1 == k) with
  | none => rw [hf] at h; cases h
  | some e =>
    rw [hf] at h
    have h1 := List.find?_some hf
    have h2 := List.mem_of_find?_eq_some hf
    simp at h1 h
    subst h1 h
    exact h2
theorem vlk_of {l : List Vn} (hr : VRise l) {k : Int} {v : Value} (h : (k, v) ∈ l) : vlk l k = some v := by
  unfold vlk
  cases hf : l.find? (fun e => e.1 == k) with
  | none =>
    rw [List.find?_eq_none] at hf
    have := hf _ h
    simp at this
  | some e =>
    have h1 := List.find?_some hf
    have h2 := List.mem_of_find?_eq_some hf
    simp at h1
    have := vuniq hr h2 h h1
    subst this
    rfl
theorem mem_vins {e x : Vn} : ∀ {l : List Vn}, x ∈ vins e l ↔ x = e ∨ x ∈ l
  | [] => by simp [vins]
  | y :: r => by
    unfold vins
    split
    · simp
    · simp only [List.mem_cons, mem_vins (l := r)]
      constructor
      · rintro (h | h | h) <;> simp [h]
      · rintro (h | h | h) <;> simp [h]
theorem len_vins (e : Vn) : ∀ l : List Vn, (vins e l).length = l.length + 1
  | [] => rfl
  | y :: r => by
    unfold vins
    split
    · simp
    · simp [len_vins e r]
theorem vlk_put {l : List Vn} {k x : Int} {v : Value} (hr : VRise (vput l (k, v))) (hl : VRise l) : vlk (vput l (k, v)) x = if x = k then some v else vlk l x := by
  by_cases hx : x = k
  · rw [if_pos hx, hx]
    exact vlk_of hr (mem_vins.2 (Or.inl rfl))
  · rw [if_neg hx]
    cases hq : vlk l x with
    | some c => exact vlk_of hr (mem_vins.2 (Or.inr (List.mem_filter.2 ⟨vlk_mem hq, by simpa using hx⟩)))
    | none =>
      cases hq2 : vlk (vput l (k, v)) x with
      | none => rfl
      | some c =>
        rcases mem_vins.1 (vlk_mem hq2) with h | h
        · exact absurd (congrArg Prod.fst h) hx
        · rw [vlk_of hl (List.mem_filter.1 h).1] at hq
          cases hq
theorem vdel_rise {l : List Vn} (hl : VRise l) (k : Int) : VRise (vdel l k) := List.Pairwise.filter _ hl
theorem vlk_del {l : List Vn} (hl : VRise l) {k x : Int} : vlk (vdel l k) x = if x = k then none else vlk l x := by
  by_cases hx : x = k
  · rw [if_pos hx, hx]
    cases hq : vlk (vdel l k) k with
    | none => rfl
    | some c =>
      have := (List.mem_filter.1 (vlk_mem hq)).2
      simp at this
  · rw [if_neg hx]
    cases hq : vlk l x with
    | some c => exact vlk_of (vdel_rise hl k) (List.mem_filter.2 ⟨vlk_mem hq, by simpa using hx⟩)
    | none =>
      cases hq2 : vlk (vdel l k) x with
      | none => rfl
      | some c =>
        rw [vlk_of hl (List.mem_filter.1 (vlk_mem hq2)).1] at hq
        cases hq
def lD (D : List Nat) : List Vn := D.map (fun (d : Nat) => ((d : Int), Value.bool true))
/-- Block M is a map that holds just these numbers. -/
def LF (w : World) (M : Nat) (D : List Nat) : Prop := VM w M (lD D)
theorem vlk_lD : ∀ (D : List Nat) (k : Nat), vlk (lD D) (k : Int) = if k ∈ D then some (.bool true) else none
  | [], k => rfl
  | d :: r, k => by
    have ih := vlk_lD r k
    unfold vlk lD at *
    rw [List.map_cons]
    by_cases e : d = k
    · subst e
      rw [List.find?_cons_of_pos (by simp)]
      simp
    · rw [List.find?_cons_of_neg (by simp; omega), ih]
      by_cases h : k ∈ r
      · rw [if_pos h, if_pos (List.mem_cons_of_mem _ h)]
      · rw [if_neg h, if_neg (by simp; exact ⟨fun e' => e e'.symm, h⟩)]
theorem vdel_lD (D : List Nat) (k : Nat) : vdel (lD D) (k : Int) = lD (D.filter (fun d => decide (d ≠ k))) := by
  unfold vdel lD
  rw [List.filter_map]
  congr 1
  apply List.filter_congr
  intro d _
  simp only [Function.comp]
  by_cases e : d = k
  · subst e; simp
  · simp [e]; omega
theorem vput_lD (D : List Nat) (n : Nat) (h : ∀ d ∈ D, d < n) : vput (lD D) ((n : Int), .bool true) = lD (D ++ [n]) := by
  unfold vput
  rw [vdel_lD, List.filter_eq_self.2 (fun d hd => by have := h d hd; simp; omega)]
  have go : ∀ E : List Nat, (∀ d ∈ E, d < n) → vins ((n : Int), .bool true) (lD E) = lD (E ++ [n]) := by
    intro E
    induction E with
    | nil => intro _; rfl
    | cons d r ih =>
      intro hE
      have h1 := hE d (List.mem_cons_self ..)
      show vins _ (((d : Int), Value.bool true) :: lD r) = ((d : Int), Value.bool true) :: lD (r ++ [n])
      unfold vins
      rw [if_neg (by show ¬ ((n : Int) < (d : Int)); omega), ih (fun x hx => hE x (List.mem_cons_of_mem _ hx))]
  exact go D h
theorem LF.turn {S : Nat → Prop} {w w' : World} {M : Nat} {D : List Nat} (h : LF w M D) (ht : Turn S w w') (hs : ¬ S M) : LF w' M D := VM.turn h ht hs
theorem zeroB4 (w : World) : (zeroValue 4).run Try.prog w = .ok (.bool false) w := by kernel_rfl
theorem LF.look {w : World} {M : Nat} {D : List Nat} (h : LF w M D) (k : Nat) (hk : (Lit.int .i64 (k : Int)).wf = true) : (Instr.lookup 48 (.map (some M)) (.int .i64 (k : Int)) false).run Try.prog w = .ok (.bool (decide (k ∈ D))) w := by
  have := VM.look (t := 48) (k := (k : Int)) h Try.underlying48 zeroB4 hk
  rw [this, vlk_lD]
  by_cases e : k ∈ D
  · rw [if_pos e, decide_eq_true e]; rfl
  · rw [if_neg e, decide_eq_false e]; rfl
theorem LF.len {w : World} {M : Nat} {D : List Nat} (h : LF w M D) (ty : TypeId) : (Builtin.len_ #[48] ty #[.map (some M)]).run Try.prog w = .ok (.int .i64 (D.length : Int)) w := by
  have := VM.len (t := 48) h Try.underlying48 ty
  rw [this]
  simp [lD]
end Go.Proofs.Ytcjhniehbafhpaa
