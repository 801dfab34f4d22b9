/- Texts as lists of bytes; a map from texts to texts, as a rising list. -/
import Derived.Test.YtadmpdeegnppjaaGreatDoorAa
import Derived.Test.YtadmpdeegnppjaaGreatDoorPa
import Derived.StringKeys
import Derived.Maps.StringElems
import Derived.Sort.KeysCollected
namespace Go.Proofs.YtadmpdeegnppjaaGreatDoor
open Go.RowKit Go.Maps
set_option maxRecDepth 100000
set_option linter.unusedVariables false
set_option linter.unusedSimpArgs false

/-- A text as a string of the program's. -/
def B (l : By) : ByteArray := ⟨l.toArray⟩
theorem B_list (l : By) : (B l).data.toList = l := rfl
theorem B_size (l : By) : (B l).size = l.length := by simp [B, ByteArray.size]
theorem B_of (s : ByteArray) : B s.data.toList = s := by cases s; simp [B]
theorem B_inj {a b : By} (h : B a = B b) : a = b := by
  have := congrArg (fun s : ByteArray => s.data.toList) h
  simpa [B] using this
def sD (enc : By → Value) (l : Mp) : DataW Value := .map (l.map fun e => (.string e.1, .held (enc e.2)))
theorem same_str (a b : By) : (Lit.string a).sameKey (.string b) = (a == b) := rfl
variable {enc : By → Value}
theorem has_sD (l : Mp) (k : By) : Maps.has (sD enc l) (.string k) = (mget l k).isSome := by
  rw [sD, has_eq, List.any_map, mget, Option.isSome_map]
  induction l with
  | nil => rfl
  | cons y r ih =>
    simp only [List.any_cons, List.find?_cons, Function.comp, same_str] at ih ⊢
    cases h : (y.1 == k) <;> simp [ih]
theorem size_sD (l : Mp) : Maps.size (sD enc l) = l.length := by simp [sD, size_eq]
theorem at_sD (l : Mp) (k : By) (z : Value) : (sD enc l).atKey (.string k) (.held z) = .held (((mget l k).map enc).getD z) := by
  unfold sD DataW.atKey mget
  simp only [List.find?_map]
  have : ((fun p : Lit × DataW Value => p.1.sameKey (.string k)) ∘ fun e : By × By => (Lit.string e.1, DataW.held (enc e.2))) = fun e : By × By => e.1 == k := by
    funext e
    exact same_str e.1 k
  rw [this]
  cases l.find? (fun e => e.1 == k) <;> rfl
theorem del_sD (l : Mp) (k : By) : (sD enc l).del (.string k) = sD enc (mdel l k) := by
  unfold sD DataW.del mdel
  simp only [List.filter_map]
  congr 3
theorem ins_sD (e : By × By) : ∀ l : Mp, DataW.insert ((Lit.string e.1, DataW.held (enc e.2)) : Lit × DataW Value) (l.map fun e => (Lit.string e.1, DataW.held (enc e.2))) = (mins e l).map fun e => (Lit.string e.1, DataW.held (enc e.2))
  | [] => rfl
  | y :: r => by
    simp only [List.map, DataW.insert, mins]
    have : (Lit.string e.1).before (Lit.string y.1) = bytesBefore e.1 y.1 := rfl
    rw [this]
    by_cases h : bytesBefore e.1 y.1 = true
    · simp [h]
    · simp [h, ins_sD e r]
theorem put_sD (l : Mp) (e : By × By) : (sD enc l).put (.string e.1) (.held (enc e.2)) = sD enc (mput l e) := by
  unfold sD DataW.put mput mdel
  simp only [List.filter_map]
  rw [← ins_sD]
  congr 4
theorem law9 : Keyed Tryz.prog 9 := string_keyed Tryz.underlying9
/-- Block M is a map that holds l, each text as enc says. -/
def VS (enc : By → Value) (w : World) (M : Nat) (l : Mp) : Prop := w.ownsMap Tryz.prog 9 hE M l.length (sD enc l) ∧ Rise l
theorem vs_len {w : World} {M n : Nat} {l : Mp} (h : w.ownsMap Tryz.prog 9 hE M n (sD enc l)) : w.ownsMap Tryz.prog 9 hE M l.length (sD enc l) := by
  obtain ⟨es, clock, hb, F, hn, hD⟩ := h
  refine ⟨es, clock, hb, F, ?_, hD⟩
  have h2 := congrArg Maps.size hD
  rw [size_sD, size_eq, length_sorted] at h2
  simp at h2
  omega
theorem vs_rise {w : World} {M n : Nat} {l : Mp} (h : w.ownsMap Tryz.prog 9 hE M n (sD enc l)) : Rise l := by
  obtain ⟨es, he, hr, -⟩ := h.canon law9
  unfold sD at he
  injection he with he
  subst he
  rw [List.pairwise_map] at hr
  exact hr.imp fun h => h
theorem VS.of {w : World} {M n : Nat} {l : Mp} (h : w.ownsMap Tryz.prog 9 hE M n (sD enc l)) : VS enc w M l := ⟨vs_len h, vs_rise h⟩
theorem VS.made (w : World) : VS enc (w.alloc (.map #[] 0)) w.heap.size [] := ⟨World.ownsMap_made _ _ _ _, List.Pairwise.nil⟩
theorem VS.lt {w : World} {M : Nat} {l : Mp} (h : VS enc w M l) : M < w.heap.size := h.1.lt
theorem VS.turn {S : Nat → Prop} {w w' : World} {M : Nat} {l : Mp} (h : VS enc w M l) (ht : Turn S w w') (hs : ¬ S M) : VS enc w' M l := by
  obtain ⟨⟨es, clock, hb, hr⟩, h2⟩ := h
  exact ⟨⟨es, clock, (ht.block M (Array.getElem?_eq_some_iff.1 hb).1 hs).trans hb, hr⟩, h2⟩
theorem VS.later {w w' : World} {M : Nat} {l : Mp} (h : VS enc w M l) (hb : Below w.heap.size w w') : VS enc w' M l := h.turn (S := fun _ => False) (Turn.of_below hb) (fun h => h)
theorem ne_at_vs {w : World} {b M : Nat} {vs : Array Value} {x : Value} {l : Mp} (hA : At w b vs) (h0 : vs[0]? = some x) (hL : VS enc w M l) : b ≠ M := by
  intro e
  subst e
  obtain ⟨⟨es, clock, hb, -⟩, -⟩ := hL
  have := (hA.2 0 x h0).1
  simp [World.cell?, hb] at this
section
variable {w : World} {M : Nat} {l : Mp} {t e : TypeId} {z : Value} {k : By}
theorem key_mk (hk : k.length ≤ maxLen) : keyOf Tryz.prog 9 (.string (B k)) = some (.string k) := by
  have := Go.WideMaps.keyOf_string_mk (P := Tryz.prog) Tryz.underlying9 (s := B k) (by rw [B_size]; exact hk)
  simpa [B_list] using this
theorem VS.look (h : VS enc w M l) (ht : Tryz.prog.underlying t = some (.map 9 e)) (hz : ∀ w, (zeroValue e).run Tryz.prog w = .ok z w) (hk : k.length ≤ maxLen) : (Instr.lookup t (.map (some M)) (.string (B k)) false).run Tryz.prog w = .ok (((mget l k).map enc).getD z) w := by
  obtain ⟨v, ps, hr, hv⟩ := h.1.lookup law9 ht (hz w) (zd := .held z) (zp := []) rfl (key_mk hk)
  rw [at_sD] at hv
  unfold hE at hv
  injection hv with hv
  injection hv with h1 h2
  injection h1 with h1
  rw [hr, h1]
/-- 'v, ok := m[k]'. -/
theorem wpList_lookup_vs {ops : Array Oper} {rest : List Oper} {o : Oper} {a : Act} {Q : Exit → Act → World → Prop} (hg : o.guard = none) (m x : Operand) (hop : o.op = Op.lookup t m x true) (M : Nat) (l : Mp) (k : By) (hk : k.length ≤ maxLen) (ht : Tryz.prog.underlying t = some (.map 9 e)) (hz : ∀ w, (zeroValue e).run Tryz.prog w = .ok z w)
    (hm : a.eval m = .map (some M)) (hown : VS enc w M l) (hx : a.eval x = .string (B k)) (hK : wpList Tryz.prog ops Q rest (a.put o.dst (.tuple #[((mget l k).map enc).getD z, .bool (mget l k).isSome])) w) : wpList Tryz.prog ops Q (o :: rest) a w := by
  refine wpList_lookup_own_ok w hg m x t hop 9 e law9 ht hE (hz w) (.held z) [] rfl M l.length (sD enc l) hm hown.1 _ _ hx (key_mk hk) ?_
  intro v ps hv
  rw [at_sD] at hv
  unfold hE at hv
  injection hv with hv
  injection hv with h1 h2
  injection h1 with h1
  rw [has_sD, h1]
  exact hK
theorem VS.put (h : VS enc w M l) (ht : Tryz.prog.underlying t = some (.map 9 e)) (hn : l.length < 1000000) (hk : k.length ≤ maxLen) (v : By) :
    ∃ w', (Instr.mapUpdate t (.map (some M)) (.string (B k)) (enc v)).run Tryz.prog w = .ok () w' ∧ VS enc w' M (mput l (k, v)) ∧ Turn (fun j => j = M) w w' := by
  obtain ⟨w', hr, ho, hg⟩ := h.1.update law9 ht (by unfold maxLen; omega) (val := enc v) (d := .held (enc v)) (ps := []) (key_mk hk) rfl
  rw [put_sD l (k, v)] at ho
  exact ⟨w', hr, VS.of ho, Turn.of_grown hg (fun j hj => by cases hj; exact Or.inl rfl)⟩
theorem wpList_put_vs {ops : Array Oper} {rest : List Oper} {o : Oper} {a : Act} {Q : Exit → Act → World → Prop} (hg : o.guard = none) (m x y : Operand) (hop : o.op = Op.mapUpdate t m x y) (M : Nat) (l : Mp) (k v : By) (hk : k.length ≤ maxLen) (ht : Tryz.prog.underlying t = some (.map 9 e)) (hn : l.length < 1000000)
    (hm : a.eval m = .map (some M)) (hown : VS enc w M l) (hx : a.eval x = .string (B k)) (hy : a.eval y = enc v) (hK : ∀ w', VS enc w' M (mput l (k, v)) → Turn (fun j => j = M) w w' → wpList Tryz.prog ops Q rest (a.put o.dst undef) w') : wpList Tryz.prog ops Q (o :: rest) a w := by
  refine wpList_plain hg fun K' hK' => ?_
  obtain ⟨w', hrun, r1, r2⟩ := hown.put ht hn hk v
  unfold Oper.wp
  simp [execOp, hop, hm, hx, hy, hrun, Result.andThen]
  exact hK' _ _ (hK w' r1 r2)
theorem wpList_delete_vs {ops : Array Oper} {rest : List Oper} {o : Oper} {a : Act} {Q : Exit → Act → World → Prop} (hg : o.guard = none) (m x : Operand) (hop : o.op = Op.call { callee := Callee.builtin Builtin.delete, args := #[m, x], argTypes := #[t, 9] }) (M : Nat) (l : Mp) (k : By) (hk : k.length ≤ maxLen) (ht : Tryz.prog.underlying t = some (.map 9 e))
    (hm : a.eval m = .map (some M)) (hown : VS enc w M l) (hx : a.eval x = .string (B k)) (hK : ∀ w', VS enc w' M (mdel l k) → Turn (fun j => j = M) w w' → wpList Tryz.prog ops Q rest (a.put o.dst (.tuple #[])) w') : wpList Tryz.prog ops Q (o :: rest) a w := by
  refine wpList_delete_own w hg m x t 9 hop e law9 ht hE M l.length (sD enc l) hm hown.1 _ _ hx (key_mk hk) ?_
  intro w' ho hg
  rw [del_sD] at ho
  exact hK w' (VS.of ho) (Turn.of_grown hg.grown (fun j hj => by cases hj; exact Or.inl rfl))
theorem VS.len (h : VS enc w M l) (ht : Tryz.prog.underlying t = some (.map 9 e)) (ty : TypeId) : (Builtin.len_ #[t] ty #[.map (some M)]).run Tryz.prog w = .ok (.int .i64 l.length) w := by
  have := h.1.len ht ty
  rwa [size_sD] at this
end
end Go.Proofs.YtadmpdeegnppjaaGreatDoor
