/- the texts Jg, in part, merged by program -/
import Derived.Test.YtcjhniehbafhpaaRows
import Derived.Great.BuildSlice
import Derived.Laws.AppendOwn
import Derived.Laws.AppendOwnNone
import Derived.Maps.AppendAt
import Derived.WalkKit
import Derived.WalkSpells
import Derived.Laws.OwnMore
import Derived.Maps.RangeWalk
import Derived.Maps.OwnSet
import Derived.Maps.Ext
import Derived.Maps.Keyed
import Derived.DeepKeys4
import Derived.WalkSmall
import Derived.Deep.Cut
import Derived.Deep.CutRange
import Derived.Deep.MidRow
import Derived.Deep.QuietTactic
import Derived.BigQuiet
import Derived.Deep.RegionWith
import Derived.OwnWalk
import Derived.Laws.CopyRow
import Derived.OrdersHeld
import Derived.Carry
import Derived.Deep.RegionHeld3
import Derived.LoopN
import Derived.Test.YtcjhniehbafhpaaMA01
import Derived.Test.YtcjhniehbafhpaaMA02
import Derived.Test.YtcjhniehbafhpaaMA03
namespace Go.Proofs.Ytcjhniehbafhpaa
open Go.RowKit Go.Maps
set_option maxRecDepth 100000
set_option linter.unusedVariables false
set_option linter.unusedSimpArgs false

abbrev De := Int × Value
def DR (w : World) (base : Nat) (v : Value) (L : List De) : Prop := (v = .slice none 0 0 ∧ L = []) ∨ ∃ g off c, v = .slice (some ⟨g, off, none⟩) L.length c ∧ L.length ≤ c ∧ base ≤ g ∧ g < w.heap.size ∧ ∀ i e, L[i]? = some e → w.cell? ⟨g, off + i * 2, none⟩ = some (.int .i64 e.1) ∧ w.cell? ⟨g, off + i * 2 + 1, none⟩ = some e.2
theorem DR.turn {S : Nat → Prop} {w w' : World} {base : Nat} {v : Value} {L : List De} (h : DR w base v L) (ht : Turn S w w') (hS : ∀ k, base ≤ k → k < w.heap.size → ¬ S k) : DR w' base v L := by
  rcases h with h | ⟨g, off, c, h1, h2, h3, h4, h5⟩
  · exact Or.inl h
  · exact Or.inr ⟨g, off, c, h1, h2, h3, Nat.lt_of_lt_of_le h4 ht.size, fun i e he => ⟨(ht.cell h4 (hS g h3 h4) _).trans (h5 i e he).1, (ht.cell h4 (hS g h3 h4) _).trans (h5 i e he).2⟩⟩
theorem DR.later {w w' : World} {base : Nat} {v : Value} {L : List De} (h : DR w base v L) (hb : Below w.heap.size w w') : DR w' base v L := h.turn (S := fun _ => False) (Turn.of_below hb) (fun _ _ _ h => h)
theorem DR.low {w : World} {base b : Nat} {v : Value} {L : List De} (h : DR w base v L) (hb : b ≤ base) : DR w b v L := by
  rcases h with h | ⟨g, off, c, h1, h2, h3, h4⟩
  · exact Or.inl h
  · exact Or.inr ⟨g, off, c, h1, h2, Nat.le_trans hb h3, h4⟩
def enDe (e : De) : List Value := [.int .i64 e.1, e.2]
def DO (w : World) (base : Nat) (v : Value) (L : List De) : Prop := w.ownsRow base 64 2 v L.length (L.flatMap enDe)
theorem DO.nil (w : World) (base : Nat) : DO w base (.slice none 0 0) [] := World.ownsRow_nil _ _ _ _
theorem infoDe : (Try.prog.info? 64).map (fun i => (i.zero, i.size, i.bytes)) = some (some (.agg #[.int .i64 0, .slice none 0 0]), 2, 32) := by kernel_rfl
theorem dlat_at : ∀ (L : List De) (i : Nat) (e : De), L[i]? = some e → (L.flatMap enDe)[i * 2]? = some (.int .i64 e.1) ∧ (L.flatMap enDe)[i * 2 + 1]? = some e.2
  | [], i, e, h => by simp at h
  | y :: r, 0, e, h => by
    obtain rfl : y = e := by simpa using h
    simp [List.flatMap_cons, enDe]
  | y :: r, i + 1, e, h => by
    have := dlat_at r i e (by simpa using h)
    rw [show (i + 1) * 2 = i * 2 + 2 by omega]
    simpa [List.flatMap_cons, enDe] using this
theorem dlat_len (L : List De) : (L.flatMap enDe).length = L.length * 2 := by
  induction L with
  | nil => rfl
  | cons y r ih => simp [List.flatMap_cons, enDe, ih]; omega
theorem dlat_of : ∀ (L : List De) (j : Nat) (u : Value), (L.flatMap enDe)[j]? = some u → ∃ i e, L[i]? = some e ∧ (j = i * 2 ∧ u = .int .i64 e.1 ∨ j = i * 2 + 1 ∧ u = e.2)
  | [], j, u, h => by simp at h
  | y :: r, 0, u, h => ⟨0, y, rfl, Or.inl ⟨rfl, by simpa [List.flatMap_cons, enDe] using h.symm⟩⟩
  | y :: r, 1, u, h => ⟨0, y, rfl, Or.inr ⟨rfl, by simpa [List.flatMap_cons, enDe] using h.symm⟩⟩
  | y :: r, j + 2, u, h => by
    obtain ⟨i, e, h1, h2⟩ := dlat_of r j u (by simpa [List.flatMap_cons, enDe] using h)
    refine ⟨i + 1, e, by simpa using h1, ?_⟩
    rcases h2 with ⟨h2, h3⟩ | ⟨h2, h3⟩
    · exact Or.inl ⟨by omega, h3⟩
    · exact Or.inr ⟨by omega, h3⟩
theorem DO.dr {w : World} {base : Nat} {v : Value} {L : List De} (h : DO w base v L) : DR w base v L := by
  rcases h.2 with ⟨rfl, h0⟩ | ⟨g, cap, cur, rfl, hg, hb, h1, h2, h3, h4⟩
  · exact Or.inl ⟨rfl, List.length_eq_zero_iff.1 h0⟩
  · refine Or.inr ⟨g, 0, cap, rfl, h1, hg, (Array.getElem?_eq_some_iff.1 hb).1, fun i e he => ?_⟩
    have hc : ∀ j u, (L.flatMap enDe)[j]? = some u → w.cell? ⟨g, j, none⟩ = some u := by
      intro j u hu
      rw [← h4] at hu
      have hj : j < L.length * 2 := by
        have := (List.getElem?_eq_some_iff.1 hu).1
        rw [List.length_take] at this
        omega
      rw [List.getElem?_take_of_lt hj] at hu
      simp [World.cell?, hb]
      simpa using hu
    obtain ⟨e0, e1⟩ := dlat_at L i e he
    rw [Nat.zero_add]
    exact ⟨hc _ _ e0, hc _ _ e1⟩
theorem DO.ge {w : World} {base : Nat} {v : Value} {L : List De} (h : DO w base v L) : ∀ j, v.ownBlock = some j → base ≤ j := by
  intro j hj
  rcases h.2 with ⟨rfl, -⟩ | ⟨g, cap, cur, rfl, hg, -⟩
  · simp [Value.ownBlock] at hj
  · simp [Value.ownBlock] at hj; omega
theorem append_dr4 {w : World} {base b2 : Nat} {v vs : Value} {L1 L2 : List De} (h1 : DO w base v L1) (h2 : DR w b2 vs L2) (ho : ∀ e ∈ L2, e.2.oneCell' = true) (hb : base ≤ w.heap.size) (hl : L1.length + L2.length < 1000000) (ty : TypeId) :
    ∃ v' w', (Builtin.append_ #[42, 42] ty #[v, vs]).run Try.prog w = .ok v' w' ∧ DO w' base v' (L1 ++ L2) ∧ Turn (fun k => v.ownBlock = some k) w w' ∧ (∀ k, v'.ownBlock = some k → v.ownBlock = some k ∨ w.heap.size ≤ k) := by
  obtain ⟨i0, hi, hz0, hz1, hz2⟩ := info_parts infoDe
  rcases h2 with ⟨rfl, rfl⟩ | ⟨g, off, c, rfl, c2, c3, c4, c5⟩
  · exact ⟨v, w, run_append_owned_none (P := Try.prog) (w := w) base 42 ty 64 i0 2 Try.underlying42 hi v L1.length _ h1, by rw [List.append_nil]; exact h1, Turn.refl _, fun k hk => Or.inl hk⟩
  · obtain ⟨v', w', hr, ho', hg, hw4⟩ := run_append_own_at (P := Try.prog) w base 42 ty 64 i0 _ 2 32 Try.underlying42 hi hz0 hz1 hz2 rfl (by decide) v L1.length _ h1 ⟨g, off, none⟩ L2.length c (L2.flatMap enDe) (dlat_len L2) (fun j u hu => by
      obtain ⟨i, e, he, hq⟩ := dlat_of L2 j u hu
      rw [Addr.add_mid]
      rcases hq with ⟨rfl, rfl⟩ | ⟨rfl, rfl⟩
      · exact (c5 i e he).1
      · have := (c5 i e he).2
        rwa [Nat.add_assoc] at this) (fun u hu => by
      obtain ⟨e, he, hu⟩ := List.mem_flatMap.1 hu
      simp [enDe] at hu
      rcases hu with rfl | rfl
      · rfl
      · exact ho e he) (by unfold maxLen; omega) (by omega) hb
    refine ⟨v', w', hr, ?_, Turn.of_grown hg (fun j hj => Or.inl hj), fun k hk => ?_⟩
    rotate_left
    · rcases hw4.2 with e | e
      · exact Or.inl (by rw [← e]; exact hk)
      · rw [e] at hk
        injection hk with hk
        exact Or.inr (by omega)
    unfold DO
    rw [List.length_append, List.flatMap_append]
    exact ho'
theorem append_dr {w : World} {base b2 : Nat} {v vs : Value} {L1 L2 : List De} (h1 : DO w base v L1) (h2 : DR w b2 vs L2) (ho : ∀ e ∈ L2, e.2.oneCell' = true) (hb : base ≤ w.heap.size) (hl : L1.length + L2.length < 1000000) (ty : TypeId) :
    ∃ v' w', (Builtin.append_ #[42, 42] ty #[v, vs]).run Try.prog w = .ok v' w' ∧ DO w' base v' (L1 ++ L2) ∧ Turn (fun k => v.ownBlock = some k) w w' := by
  obtain ⟨v', w', a, b, c, -⟩ := append_dr4 h1 h2 ho hb hl ty
  exact ⟨v', w', a, b, c⟩
theorem upto_dr {w : World} {base : Nat} {v : Value} {L : List De} (h : DR w base v L) {i : Nat} (hi : i ≤ L.length) :
    ∃ v', (∀ W, (Instr.slice 42 v none (some (.int .i64 (i : Int))) none).run Try.prog W = .ok v' W) ∧ DR w base v' (L.take i) := by
  rcases h with ⟨rfl, rfl⟩ | ⟨g, off, c, rfl, c2, c3, c4, c5⟩
  · simp only [List.length_nil, Nat.le_zero] at hi
    subst hi
    exact ⟨.slice none 0 0, fun W => by (simp [Instr.slice, Instr.sliceBounds, Instr.sliceBound, asIntOf, run_underlying Try.underlying42, Try.sizeOf64, Result.andThen]), Or.inl ⟨rfl, rfl⟩⟩
  · refine ⟨.slice (some ⟨g, off, none⟩) i c, fun W => by (simp [Instr.slice, Instr.sliceBounds, Instr.sliceBound, asIntOf, run_underlying Try.underlying42, Try.sizeOf64, Result.andThen, Addr.add_mid, show i ≤ c by omega, show i ≤ L.length by omega]; try (split <;> simp [Addr.add_mid, *])), Or.inr ⟨g, off, c, by rw [List.length_take, Nat.min_eq_left hi], by rw [List.length_take]; omega, c3, c4, fun j e he => ?_⟩⟩
    have hj : j < i := by have := (List.getElem?_eq_some_iff.1 he).1; rw [List.length_take] at this; omega
    rw [List.getElem?_take_of_lt hj] at he
    exact c5 j e he
theorem from_dr {w : World} {base : Nat} {v : Value} {L : List De} (h : DR w base v L) {i : Nat} (hi : i ≤ L.length) :
    ∃ v', (∀ W, (Instr.slice 42 v (some (.int .i64 (i : Int))) none none).run Try.prog W = .ok v' W) ∧ DR w base v' (L.drop i) := by
  rcases h with ⟨rfl, rfl⟩ | ⟨g, off, c, rfl, c2, c3, c4, c5⟩
  · simp only [List.length_nil, Nat.le_zero] at hi
    subst hi
    exact ⟨.slice none 0 0, fun W => by (simp [Instr.slice, Instr.sliceBounds, Instr.sliceBound, asIntOf, run_underlying Try.underlying42, Try.sizeOf64, Result.andThen]), Or.inl ⟨rfl, rfl⟩⟩
  · refine ⟨.slice (if c = i then some ⟨g, off, none⟩ else some ⟨g, off + i * 2, none⟩) (L.length - i) (c - i), fun W => by (simp [Instr.slice, Instr.sliceBounds, Instr.sliceBound, asIntOf, run_underlying Try.underlying42, Try.sizeOf64, Result.andThen, Addr.add_mid, show i ≤ c by omega, show i ≤ L.length by omega]; try (split <;> simp [Addr.add_mid, *])), ?_⟩
    by_cases hc : c = i
    · rw [if_pos hc]
      have : L.drop i = [] := List.drop_eq_nil_of_le (by omega)
      rw [this]
      exact Or.inr ⟨g, off, c - i, by rw [show L.length - i = 0 by omega]; rfl, by simp, c3, c4, fun j e he => by simp at he⟩
    · rw [if_neg hc]
      refine Or.inr ⟨g, off + i * 2, c - i, by rw [List.length_drop], by rw [List.length_drop]; omega, c3, c4, fun j e he => ?_⟩
      rw [List.getElem?_drop] at he
      have := c5 (i + j) e he
      rw [show off + i * 2 + j * 2 = off + (i + j) * 2 by omega]
      exact this
theorem bs0D (w : World) : (Instr.buildSlice 42 0 #[]).run Try.prog w = .ok (.slice (some ⟨w.heap.size, 0, none⟩) 0 0) (w.alloc (.cells #[] 64)) := by
  first
    | (simp [Instr.buildSlice, run_underlying Try.underlying42, Try.sizeOf64, Result.andThen, Instr.fill, newRow, World.alloc]; done)
    | kernel_rfl
    | (simp [Instr.buildSlice, run_underlying Try.underlying42, Try.sizeOf64, Result.andThen, go_sem])
theorem bsD (n : Int) (u : Value) (w : World) : (Instr.buildSlice 42 1 #[(0, .agg #[.int .i64 n, u])]).run Try.prog w = .ok (.slice (some ⟨w.heap.size, 0, none⟩) 1 1) (w.alloc (.cells #[.int .i64 n, u] 64)) := by
  obtain ⟨i0, hi, hz0, hz1, hz2⟩ := info_parts infoDe
  refine run_buildSlice w 42 64 1 _ _ i0 _ Try.underlying42 hi hz0 (by rw [hz1]; decide) (by rw [hz1]; decide) ?_
  rw [hz1]; kernel_rfl
theorem DR.shape {w : World} {base : Nat} {v : Value} {L : List De} (h : DR w base v L) : ∃ p k c, v = .slice p k c := by
  rcases h with ⟨rfl, -⟩ | ⟨g, off, c, rfl, -⟩
  · exact ⟨_, _, _, rfl⟩
  · exact ⟨_, _, _, rfl⟩
theorem step_append_eqD {w w' : World} {ops : Array Oper} {o : Oper} {a : Act} {K : Act → World → Prop} {Q : Exit → Act → World → Prop} {E : Prop} {v vs v' : Value} {t : TypeId} (hgd : o.guard = none) (s x : Operand) (ho : o.op = .call { callee := .builtin .append, args := #[s, x], argTypes := #[t, t] })
    (hs : a.eval s = v) (hx : a.eval x = vs) (hr : (Builtin.append_ #[t, t] o.type #[v, vs]).run Try.prog w = .ok v' w') (h : K (a.put o.dst v') w') : if Region.wanted o (yielded ops a.tmps) = true then Oper.wp Try.prog o a w K Q else E := by
  have hw : Region.wanted o (yielded ops a.tmps) = true := by simp [Region.wanted, hgd]
  rw [if_pos hw]
  unfold Oper.wp execOp
  simp only [ho, resolve, invoke, builtin, Sem.run_bind, Sem.run_pure, Result.andThen_ok, List.map_toArray, List.map_cons, List.map_nil, hs, hx, hr]
  exact h
theorem At.fourD {W : World} {b : Nat} {v0 v1 v2 v3 : Value} (h : At W b #[v0, v1, v2, v3]) : W.cell? ⟨b, 0, none⟩ = some v0 ∧ W.cell? ⟨b, 1, none⟩ = some v1 ∧ W.cell? ⟨b, 2, none⟩ = some v2 ∧ W.cell? ⟨b, 3, none⟩ = some v3 := ⟨(h.2 0 _ rfl).1, (h.2 1 _ rfl).1, (h.2 2 _ rfl).1, (h.2 3 _ rfl).1⟩
set_option maxHeartbeats 4000000 in
theorem without_any (R base : Nat) (ro pa la : Int) (v : Value) (L : List De) (w : World) (hR : At w R #[.int .i64 ro, .int .i64 pa, .int .i64 la, v]) (hT : DR w base v L) (ho : ∀ e ∈ L, e.2.oneCell' = true) (hll : L.length ≤ 1000) (i : Nat) (hil : i < L.length) :
    Calls Try.prog 28 #[.pointer (some ⟨R, 0, none⟩), .int .i64 (i : Int)] w fun e w' => ∃ v', e = .returned v' ∧ DO w' w.heap.size v' (L.take i ++ L.drop (i + 1)) ∧ Below w.heap.size w w' := by
  have HT : Hid (DR w base v L) := hT
  have HR : Hid (At w R #[.int .i64 ro, .int .i64 pa, .int .i64 la, v]) := hR
  have mixed : Try.prog.follows .mixedOrders = true := by kernel_rfl
  have ho1 : ∀ e ∈ L.take i, e.2.oneCell' = true := fun e he => ho e (List.mem_of_mem_take he)
  have ho2 : ∀ e ∈ L.drop (i + 1), e.2.oneCell' = true := fun e he => ho e (List.mem_of_mem_drop he)
  clear hR hT ho
  obtain ⟨v1, hs1, hT1⟩ := upto_dr HT.out (i := i) (by omega)
  obtain ⟨v2, hs2', hT2⟩ := from_dr HT.out (i := i + 1) (by omega)
  have hs2 : ∀ W, (Instr.slice 42 v (some (.int .i64 ((i : Int) + 1))) none none).run Try.prog W = .ok v2 W := fun W => by have := hs2' W; rwa [show ((i + 1 : Nat) : Int) = (i : Int) + 1 by omega] at this
  clear hs2'
  have q0 := bel1 w (.cells #[] 64)
  have q1 : Below w.heap.size w (w.alloc (.cells #[] 64)).drew := ⟨q0.os, q0.tape, q0.output, q0.size, q0.block⟩
  clear q0
  have hTO : DO (w.alloc (.cells #[] 64)).drew w.heap.size (.slice (some ⟨w.heap.size, 0, none⟩) 0 0) [] := World.ownsRow_lit w #[] 0 (Nat.le_refl _) (by unfold maxLen; omega) rfl
  have hR1 := HR.out.later q1
  obtain ⟨v3, w3, hr3, hT3, ht3⟩ := append_dr hTO (hT1.later q1) ho1 q1.size (by simp; omega) 42
  have hb3 : Below w.heap.size w w3 := q1.trans (ht3.below q1.size (fun k hk e => by have := hTO.ge k e; omega))
  rw [List.nil_append] at hT3
  obtain ⟨v4, w4, hr4, hT4, ht4⟩ := append_dr hT3 (hT2.later hb3) ho2 hb3.size (by simp; omega) 42
  have hb4 : Below w.heap.size w w4 := hb3.trans (ht4.below hb3.size (fun k hk e => by have := hT3.ge k e; omega))
  obtain ⟨-, -, -, d3⟩ := (HR.out.later hb3).fourD
  obtain ⟨-, -, -, c1⟩ := HR.out.fourD
  obtain ⟨-, -, -, e1⟩ := hR1.fourD
  have hi0 : ¬ (i : Int) < 0 := by omega
  have hi2 : IntKind.i64.wrap ((i : Int) + 1) = (i : Int) + 1 := by rw [IntKind.wrap_i64]; omega
  have hbs := bs0D
  have hRl : R < w.heap.size := HR.out.1
  have hRne : ¬ (R = w.heap.size) := by omega
  have HRR : Hid (DO w4 w.heap.size v4 (L.take i ++ L.drop (i + 1)) ∧ Below w.heap.size w w4) := ⟨hT4, hb4⟩
  obtain ⟨p4, n4, k4, rfl⟩ := hT4.dr.shape
  clear hT1 hT2 hTO hR1 hT3 hT4 ht3 ht4 hb3 hb4 q1 HT HR ho1 ho2
  go_enter Try.func28, Try.ntmps28
  go_upto_region 1 with fail
  refine wp_region_held_drew (S := fun _ => True) (by kernel_rfl) trivial (fun hHeld => ?_)
  refine tk (i := 1) (oi := ⟨some 6, .move (.tmp 0), 27, "ref.go:106", #[], none⟩) (v := .pointer (some ⟨R, 0, none⟩)) rfl (by kernel_rfl) (fun _ _ _ h => h) (Or.inl ⟨by rfl, ?_⟩) (by assumption) ?_
  · intro wx hSw
    go_simp
    try with_reducible rfl
  try simp only [Act.put, La1, La2, La3]
  refine tk (i := 2) (oi := ⟨some 7, .nilCheck (.tmp 6), 0, "ref.go:106", #[⟨1, .data⟩], none⟩) (v := .pointer (some ⟨R, 0, none⟩)) rfl (by kernel_rfl) (fun _ _ _ h => h) (Or.inl ⟨by rfl, ?_⟩) (by assumption) ?_
  · intro wx hSw
    go_simp
    try with_reducible rfl
  try simp only [Act.put, La1, La2, La3]
  refine tk (i := 3) (oi := ⟨some 8, .fieldAddr 44 (.tmp 7) 3, 0, "ref.go:106", #[⟨2, .data⟩], none⟩) (v := .pointer (some ⟨R, 3, none⟩)) rfl (by kernel_rfl) (fun _ _ _ h => h) (Or.inl ⟨by rfl, ?_⟩) (by assumption) ?_
  · intro wx hSw
    go_simp
    try with_reducible rfl
  try simp only [Act.put, La1, La2, La3]
  refine tk (i := 5) (oi := ⟨some 10, .move (.tmp 1), 3, "ref.go:106", #[], none⟩) (v := .int .i64 (i : Int)) rfl (by kernel_rfl) (fun _ _ _ h => h) (Or.inl ⟨by rfl, ?_⟩) (by assumption) ?_
  · intro wx hSw
    go_simp
    try with_reducible rfl
  try simp only [Act.put, La1, La2, La3]
  refine tk (i := 8) (oi := ⟨some 13, .move (.tmp 0), 27, "ref.go:106", #[], none⟩) (v := .pointer (some ⟨R, 0, none⟩)) rfl (by kernel_rfl) (fun _ _ _ h => h) (Or.inl ⟨by rfl, ?_⟩) (by assumption) ?_
  · intro wx hSw
    go_simp
    try with_reducible rfl
  try simp only [Act.put, La1, La2, La3]
  refine tk (i := 9) (oi := ⟨some 14, .nilCheck (.tmp 13), 0, "ref.go:106", #[⟨8, .data⟩], none⟩) (v := .pointer (some ⟨R, 0, none⟩)) rfl (by kernel_rfl) (fun _ _ _ h => h) (Or.inl ⟨by rfl, ?_⟩) (by assumption) ?_
  · intro wx hSw
    go_simp
    try with_reducible rfl
  try simp only [Act.put, La1, La2, La3]
  refine tk (i := 10) (oi := ⟨some 15, .fieldAddr 44 (.tmp 14) 3, 0, "ref.go:106", #[⟨9, .data⟩], none⟩) (v := .pointer (some ⟨R, 3, none⟩)) rfl (by kernel_rfl) (fun _ _ _ h => h) (Or.inl ⟨by rfl, ?_⟩) (by assumption) ?_
  · intro wx hSw
    go_simp
    try with_reducible rfl
  try simp only [Act.put, La1, La2, La3]
  refine tk (i := 12) (oi := ⟨some 17, .move (.tmp 1), 3, "ref.go:106", #[], none⟩) (v := .int .i64 (i : Int)) rfl (by kernel_rfl) (fun _ _ _ h => h) (Or.inl ⟨by rfl, ?_⟩) (by assumption) ?_
  · intro wx hSw
    go_simp
    try with_reducible rfl
  try simp only [Act.put, La1, La2, La3]
  refine tk (i := 13) (oi := ⟨some 18, .binOp .add 3 (.tmp 17) (.const (.int .i64 1)) 3, 3, "ref.go:106", #[⟨12, .data⟩], none⟩) (v := .int .i64 ((i : Int) + 1)) rfl (by kernel_rfl) (fun _ _ _ h => h) (Or.inl ⟨by rfl, ?_⟩) (by assumption) ?_
  · intro wx hSw
    go_simp
    try with_reducible rfl
  try simp only [Act.put, La1, La2, La3]
  refine wpAnyH_ready (rs := [0, 4, 11]) (by kernel_rfl) (by simp) ?_
  refine AllReadyH.cons (o := ⟨some 5, .buildSlice 42 0 #[], 42, "ref.go:106", #[], none⟩) rfl (fun K hK => ?_) (AllReadyH.cons (o := ⟨some 9, .load 42 (.tmp 8), 42, "ref.go:106", #[⟨3, .data⟩], none⟩) rfl (fun K hK => ?_) (AllReadyH.cons (o := ⟨some 16, .load 42 (.tmp 15), 42, "ref.go:106", #[⟨10, .data⟩], none⟩) rfl (fun K hK => ?_) AllReadyH.nil))
  · go_simp
    refine hK.out _ _ trivial (fun hHeld => ?_)
    clear hK K
    try simp only [Act.put, La1, La2, La3]
    refine wpAnyH_ready (rs := [4, 11]) (by kernel_rfl) (by simp) ?_
    refine AllReadyH.cons (o := ⟨some 9, .load 42 (.tmp 8), 42, "ref.go:106", #[⟨3, .data⟩], none⟩) rfl (fun K hK => ?_) (AllReadyH.cons (o := ⟨some 16, .load 42 (.tmp 15), 42, "ref.go:106", #[⟨10, .data⟩], none⟩) rfl (fun K hK => ?_) AllReadyH.nil)
    · go_simp
      refine hK.out _ _ trivial (fun hHeld => ?_)
      clear hK K
      try simp only [Act.put, La1, La2, La3]
      refine tk (i := 6) (oi := ⟨some 11, .slice 42 (.tmp 9) none (some (.tmp 10)) none, 42, "ref.go:106", #[⟨4, .data⟩, ⟨5, .data⟩], none⟩) (v := v1) rfl (by kernel_rfl) (fun _ _ _ h => h) (Or.inl ⟨by rfl, ?_⟩) (by assumption) ?_
      · intro wx hSw
        try dsimp only at hSw
        go_simp
        try with_reducible rfl
      try simp only [Act.put, La1, La2, La3]
      refine wpAnyH_ready (rs := [7, 11]) (by kernel_rfl) (by simp) ?_
      refine AllReadyH.cons (o := ⟨some 12, .call { callee := .builtin .append, args := #[.tmp 5, .tmp 11], argTypes := #[42, 42] }, 42, "ref.go:106", #[⟨0, .data⟩, ⟨6, .data⟩], none⟩) rfl (fun K hK => ?_) (AllReadyH.cons (o := ⟨some 16, .load 42 (.tmp 15), 42, "ref.go:106", #[⟨10, .data⟩], none⟩) rfl (fun K hK => ?_) AllReadyH.nil)
      · refine step_append_eqD (by rfl) _ _ (by rfl) (by rfl) (by rfl) hr3 ?_
        refine hK.out _ _ trivial (fun hHeld => ?_)
        clear hK K
        try simp only [Act.put, La1, La2, La3]
        refine wpAnyH_ready (rs := [11]) (by kernel_rfl) (by simp) ?_
        refine AllReadyH.cons (o := ⟨some 16, .load 42 (.tmp 15), 42, "ref.go:106", #[⟨10, .data⟩], none⟩) rfl (fun K hK => ?_) AllReadyH.nil
        · go_simp
          refine hK.out _ _ trivial (fun hHeld => ?_)
          clear hK K
          try simp only [Act.put, La1, La2, La3]
          refine tk (i := 14) (oi := ⟨some 19, .slice 42 (.tmp 16) (some (.tmp 18)) none none, 42, "ref.go:106", #[⟨11, .data⟩, ⟨13, .data⟩], none⟩) (v := v2) rfl (by kernel_rfl) (fun _ _ _ h => h) (Or.inl ⟨by rfl, ?_⟩) (by assumption) ?_
          · intro wx hSw
            try dsimp only at hSw
            go_simp
            try with_reducible rfl
          try simp only [Act.put, La1, La2, La3]
          refine wpAnyH_ready (rs := [15]) (by kernel_rfl) (by simp) ?_
          refine AllReadyH.cons (o := ⟨some 20, .call { callee := .builtin .append, args := #[.tmp 12, .tmp 19], argTypes := #[42, 42] }, 42, "ref.go:106", #[⟨7, .data⟩, ⟨14, .data⟩, ⟨7, .chain⟩], none⟩) rfl (fun K hK => ?_) AllReadyH.nil
          refine step_append_eqD (by rfl) _ _ (by rfl) (by rfl) (by rfl) hr4 ?_
          refine hK.out _ _ trivial (fun hHeld => ?_)
          clear hK K
          try simp only [Act.put, La1, La2, La3]
          refine tk (i := 16) (oi := ⟨some 4, .assign (.tmp 20), 42, "ref.go:106", #[⟨15, .data⟩, ⟨15, .chain⟩, ⟨0, .phase⟩, ⟨1, .phase⟩, ⟨2, .phase⟩, ⟨3, .phase⟩, ⟨4, .phase⟩, ⟨5, .phase⟩, ⟨6, .phase⟩, ⟨7, .phase⟩, ⟨8, .phase⟩, ⟨9, .phase⟩, ⟨10, .phase⟩, ⟨11, .phase⟩, ⟨12, .phase⟩, ⟨13, .phase⟩, ⟨14, .phase⟩, ⟨15, .phase⟩], none⟩) (v := .slice p4 n4 k4) rfl (by kernel_rfl) (fun _ _ _ h => h) (Or.inl ⟨by rfl, ?_⟩) (by assumption) ?_
          · intro wx hSw
            go_simp
            try with_reducible rfl
          try simp only [Act.put, La1, La2, La3]
          refine wpAnyH_done (by kernel_rfl) ?_ _
          go_wp2
          go_ret
          exact ⟨_, rfl, HRR.out.1, HRR.out.2⟩
      · go_simp
        refine hK.out _ _ trivial (fun hHeld => ?_)
        clear hK K
        try simp only [Act.put, La1, La2, La3]
        refine tk (i := 14) (oi := ⟨some 19, .slice 42 (.tmp 16) (some (.tmp 18)) none none, 42, "ref.go:106", #[⟨11, .data⟩, ⟨13, .data⟩], none⟩) (v := v2) rfl (by kernel_rfl) (fun _ _ _ h => h) (Or.inl ⟨by rfl, ?_⟩) (by assumption) ?_
        · intro wx hSw
          try dsimp only at hSw
          go_simp
          try with_reducible rfl
        try simp only [Act.put, La1, La2, La3]
        refine wpAnyH_ready (rs := [7]) (by kernel_rfl) (by simp) ?_
        refine AllReadyH.cons (o := ⟨some 12, .call { callee := .builtin .append, args := #[.tmp 5, .tmp 11], argTypes := #[42, 42] }, 42, "ref.go:106", #[⟨0, .data⟩, ⟨6, .data⟩], none⟩) rfl (fun K hK => ?_) AllReadyH.nil
        · refine step_append_eqD (by rfl) _ _ (by rfl) (by rfl) (by rfl) hr3 ?_
          refine hK.out _ _ trivial (fun hHeld => ?_)
          clear hK K
          try simp only [Act.put, La1, La2, La3]
          refine wpAnyH_ready (rs := [15]) (by kernel_rfl) (by simp) ?_
          refine AllReadyH.cons (o := ⟨some 20, .call { callee := .builtin .append, args := #[.tmp 12, .tmp 19], argTypes := #[42, 42] }, 42, "ref.go:106", #[⟨7, .data⟩, ⟨14, .data⟩, ⟨7, .chain⟩], none⟩) rfl (fun K hK => ?_) AllReadyH.nil
          refine step_append_eqD (by rfl) _ _ (by rfl) (by rfl) (by rfl) hr4 ?_
          refine hK.out _ _ trivial (fun hHeld => ?_)
          clear hK K
          try simp only [Act.put, La1, La2, La3]
          refine tk (i := 16) (oi := ⟨some 4, .assign (.tmp 20), 42, "ref.go:106", #[⟨15, .data⟩, ⟨15, .chain⟩, ⟨0, .phase⟩, ⟨1, .phase⟩, ⟨2, .phase⟩, ⟨3, .phase⟩, ⟨4, .phase⟩, ⟨5, .phase⟩, ⟨6, .phase⟩, ⟨7, .phase⟩, ⟨8, .phase⟩, ⟨9, .phase⟩, ⟨10, .phase⟩, ⟨11, .phase⟩, ⟨12, .phase⟩, ⟨13, .phase⟩, ⟨14, .phase⟩, ⟨15, .phase⟩], none⟩) (v := .slice p4 n4 k4) rfl (by kernel_rfl) (fun _ _ _ h => h) (Or.inl ⟨by rfl, ?_⟩) (by assumption) ?_
          · intro wx hSw
            go_simp
            try with_reducible rfl
          try simp only [Act.put, La1, La2, La3]
          refine wpAnyH_done (by kernel_rfl) ?_ _
          go_wp2
          go_ret
          exact ⟨_, rfl, HRR.out.1, HRR.out.2⟩
    · go_simp
      refine hK.out _ _ trivial (fun hHeld => ?_)
      clear hK K
      try simp only [Act.put, La1, La2, La3]
      refine tk (i := 14) (oi := ⟨some 19, .slice 42 (.tmp 16) (some (.tmp 18)) none none, 42, "ref.go:106", #[⟨11, .data⟩, ⟨13, .data⟩], none⟩) (v := v2) rfl (by kernel_rfl) (fun _ _ _ h => h) (Or.inl ⟨by rfl, ?_⟩) (by assumption) ?_
      · intro wx hSw
        try dsimp only at hSw
        go_simp
        try with_reducible rfl
      try simp only [Act.put, La1, La2, La3]
      refine wpAnyH_ready (rs := [4]) (by kernel_rfl) (by simp) ?_
      refine AllReadyH.cons (o := ⟨some 9, .load 42 (.tmp 8), 42, "ref.go:106", #[⟨3, .data⟩], none⟩) rfl (fun K hK => ?_) AllReadyH.nil
      · go_simp
        refine hK.out _ _ trivial (fun hHeld => ?_)
        clear hK K
        try simp only [Act.put, La1, La2, La3]
        refine tk (i := 6) (oi := ⟨some 11, .slice 42 (.tmp 9) none (some (.tmp 10)) none, 42, "ref.go:106", #[⟨4, .data⟩, ⟨5, .data⟩], none⟩) (v := v1) rfl (by kernel_rfl) (fun _ _ _ h => h) (Or.inl ⟨by rfl, ?_⟩) (by assumption) ?_
        · intro wx hSw
          try dsimp only at hSw
          go_simp
          try with_reducible rfl
        try simp only [Act.put, La1, La2, La3]
        refine wpAnyH_ready (rs := [7]) (by kernel_rfl) (by simp) ?_
        refine AllReadyH.cons (o := ⟨some 12, .call { callee := .builtin .append, args := #[.tmp 5, .tmp 11], argTypes := #[42, 42] }, 42, "ref.go:106", #[⟨0, .data⟩, ⟨6, .data⟩], none⟩) rfl (fun K hK => ?_) AllReadyH.nil
        · refine step_append_eqD (by rfl) _ _ (by rfl) (by rfl) (by rfl) hr3 ?_
          refine hK.out _ _ trivial (fun hHeld => ?_)
          clear hK K
          try simp only [Act.put, La1, La2, La3]
          refine wpAnyH_ready (rs := [15]) (by kernel_rfl) (by simp) ?_
          refine AllReadyH.cons (o := ⟨some 20, .call { callee := .builtin .append, args := #[.tmp 12, .tmp 19], argTypes := #[42, 42] }, 42, "ref.go:106", #[⟨7, .data⟩, ⟨14, .data⟩, ⟨7, .chain⟩], none⟩) rfl (fun K hK => ?_) AllReadyH.nil
          refine step_append_eqD (by rfl) _ _ (by rfl) (by rfl) (by rfl) hr4 ?_
          refine hK.out _ _ trivial (fun hHeld => ?_)
          clear hK K
          try simp only [Act.put, La1, La2, La3]
          refine tk (i := 16) (oi := ⟨some 4, .assign (.tmp 20), 42, "ref.go:106", #[⟨15, .data⟩, ⟨15, .chain⟩, ⟨0, .phase⟩, ⟨1, .phase⟩, ⟨2, .phase⟩, ⟨3, .phase⟩, ⟨4, .phase⟩, ⟨5, .phase⟩, ⟨6, .phase⟩, ⟨7, .phase⟩, ⟨8, .phase⟩, ⟨9, .phase⟩, ⟨10, .phase⟩, ⟨11, .phase⟩, ⟨12, .phase⟩, ⟨13, .phase⟩, ⟨14, .phase⟩, ⟨15, .phase⟩], none⟩) (v := .slice p4 n4 k4) rfl (by kernel_rfl) (fun _ _ _ h => h) (Or.inl ⟨by rfl, ?_⟩) (by assumption) ?_
          · intro wx hSw
            go_simp
            try with_reducible rfl
          try simp only [Act.put, La1, La2, La3]
          refine wpAnyH_done (by kernel_rfl) ?_ _
          go_wp2
          go_ret
          exact ⟨_, rfl, HRR.out.1, HRR.out.2⟩
  · go_simp
    refine hK.out _ _ trivial (fun hHeld => ?_)
    clear hK K
    try simp only [Act.put, La1, La2, La3]
    refine tk (i := 6) (oi := ⟨some 11, .slice 42 (.tmp 9) none (some (.tmp 10)) none, 42, "ref.go:106", #[⟨4, .data⟩, ⟨5, .data⟩], none⟩) (v := v1) rfl (by kernel_rfl) (fun _ _ _ h => h) (Or.inl ⟨by rfl, ?_⟩) (by assumption) ?_
    · intro wx hSw
      try dsimp only at hSw
      go_simp
      try with_reducible rfl
    try simp only [Act.put, La1, La2, La3]
    refine wpAnyH_ready (rs := [0, 11]) (by kernel_rfl) (by simp) ?_
    refine AllReadyH.cons (o := ⟨some 5, .buildSlice 42 0 #[], 42, "ref.go:106", #[], none⟩) rfl (fun K hK => ?_) (AllReadyH.cons (o := ⟨some 16, .load 42 (.tmp 15), 42, "ref.go:106", #[⟨10, .data⟩], none⟩) rfl (fun K hK => ?_) AllReadyH.nil)
    · go_simp
      refine hK.out _ _ trivial (fun hHeld => ?_)
      clear hK K
      try simp only [Act.put, La1, La2, La3]
      refine wpAnyH_ready (rs := [7, 11]) (by kernel_rfl) (by simp) ?_
      refine AllReadyH.cons (o := ⟨some 12, .call { callee := .builtin .append, args := #[.tmp 5, .tmp 11], argTypes := #[42, 42] }, 42, "ref.go:106", #[⟨0, .data⟩, ⟨6, .data⟩], none⟩) rfl (fun K hK => ?_) (AllReadyH.cons (o := ⟨some 16, .load 42 (.tmp 15), 42, "ref.go:106", #[⟨10, .data⟩], none⟩) rfl (fun K hK => ?_) AllReadyH.nil)
      · refine step_append_eqD (by rfl) _ _ (by rfl) (by rfl) (by rfl) hr3 ?_
        refine hK.out _ _ trivial (fun hHeld => ?_)
        clear hK K
        try simp only [Act.put, La1, La2, La3]
        refine wpAnyH_ready (rs := [11]) (by kernel_rfl) (by simp) ?_
        refine AllReadyH.cons (o := ⟨some 16, .load 42 (.tmp 15), 42, "ref.go:106", #[⟨10, .data⟩], none⟩) rfl (fun K hK => ?_) AllReadyH.nil
        · go_simp
          refine hK.out _ _ trivial (fun hHeld => ?_)
          clear hK K
          try simp only [Act.put, La1, La2, La3]
          refine tk (i := 14) (oi := ⟨some 19, .slice 42 (.tmp 16) (some (.tmp 18)) none none, 42, "ref.go:106", #[⟨11, .data⟩, ⟨13, .data⟩], none⟩) (v := v2) rfl (by kernel_rfl) (fun _ _ _ h => h) (Or.inl ⟨by rfl, ?_⟩) (by assumption) ?_
          · intro wx hSw
            try dsimp only at hSw
            go_simp
            try with_reducible rfl
          try simp only [Act.put, La1, La2, La3]
          refine wpAnyH_ready (rs := [15]) (by kernel_rfl) (by simp) ?_
          refine AllReadyH.cons (o := ⟨some 20, .call { callee := .builtin .append, args := #[.tmp 12, .tmp 19], argTypes := #[42, 42] }, 42, "ref.go:106", #[⟨7, .data⟩, ⟨14, .data⟩, ⟨7, .chain⟩], none⟩) rfl (fun K hK => ?_) AllReadyH.nil
          refine step_append_eqD (by rfl) _ _ (by rfl) (by rfl) (by rfl) hr4 ?_
          refine hK.out _ _ trivial (fun hHeld => ?_)
          clear hK K
          try simp only [Act.put, La1, La2, La3]
          refine tk (i := 16) (oi := ⟨some 4, .assign (.tmp 20), 42, "ref.go:106", #[⟨15, .data⟩, ⟨15, .chain⟩, ⟨0, .phase⟩, ⟨1, .phase⟩, ⟨2, .phase⟩, ⟨3, .phase⟩, ⟨4, .phase⟩, ⟨5, .phase⟩, ⟨6, .phase⟩, ⟨7, .phase⟩, ⟨8, .phase⟩, ⟨9, .phase⟩, ⟨10, .phase⟩, ⟨11, .phase⟩, ⟨12, .phase⟩, ⟨13, .phase⟩, ⟨14, .phase⟩, ⟨15, .phase⟩], none⟩) (v := .slice p4 n4 k4) rfl (by kernel_rfl) (fun _ _ _ h => h) (Or.inl ⟨by rfl, ?_⟩) (by assumption) ?_
          · intro wx hSw
            go_simp
            try with_reducible rfl
          try simp only [Act.put, La1, La2, La3]
          refine wpAnyH_done (by kernel_rfl) ?_ _
          go_wp2
          go_ret
          exact ⟨_, rfl, HRR.out.1, HRR.out.2⟩
      · go_simp
        refine hK.out _ _ trivial (fun hHeld => ?_)
        clear hK K
        try simp only [Act.put, La1, La2, La3]
        refine tk (i := 14) (oi := ⟨some 19, .slice 42 (.tmp 16) (some (.tmp 18)) none none, 42, "ref.go:106", #[⟨11, .data⟩, ⟨13, .data⟩], none⟩) (v := v2) rfl (by kernel_rfl) (fun _ _ _ h => h) (Or.inl ⟨by rfl, ?_⟩) (by assumption) ?_
        · intro wx hSw
          try dsimp only at hSw
          go_simp
          try with_reducible rfl
        try simp only [Act.put, La1, La2, La3]
        refine wpAnyH_ready (rs := [7]) (by kernel_rfl) (by simp) ?_
        refine AllReadyH.cons (o := ⟨some 12, .call { callee := .builtin .append, args := #[.tmp 5, .tmp 11], argTypes := #[42, 42] }, 42, "ref.go:106", #[⟨0, .data⟩, ⟨6, .data⟩], none⟩) rfl (fun K hK => ?_) AllReadyH.nil
        · refine step_append_eqD (by rfl) _ _ (by rfl) (by rfl) (by rfl) hr3 ?_
          refine hK.out _ _ trivial (fun hHeld => ?_)
          clear hK K
          try simp only [Act.put, La1, La2, La3]
          refine wpAnyH_ready (rs := [15]) (by kernel_rfl) (by simp) ?_
          refine AllReadyH.cons (o := ⟨some 20, .call { callee := .builtin .append, args := #[.tmp 12, .tmp 19], argTypes := #[42, 42] }, 42, "ref.go:106", #[⟨7, .data⟩, ⟨14, .data⟩, ⟨7, .chain⟩], none⟩) rfl (fun K hK => ?_) AllReadyH.nil
          refine step_append_eqD (by rfl) _ _ (by rfl) (by rfl) (by rfl) hr4 ?_
          refine hK.out _ _ trivial (fun hHeld => ?_)
          clear hK K
          try simp only [Act.put, La1, La2, La3]
          refine tk (i := 16) (oi := ⟨some 4, .assign (.tmp 20), 42, "ref.go:106", #[⟨15, .data⟩, ⟨15, .chain⟩, ⟨0, .phase⟩, ⟨1, .phase⟩, ⟨2, .phase⟩, ⟨3, .phase⟩, ⟨4, .phase⟩, ⟨5, .phase⟩, ⟨6, .phase⟩, ⟨7, .phase⟩, ⟨8, .phase⟩, ⟨9, .phase⟩, ⟨10, .phase⟩, ⟨11, .phase⟩, ⟨12, .phase⟩, ⟨13, .phase⟩, ⟨14, .phase⟩, ⟨15, .phase⟩], none⟩) (v := .slice p4 n4 k4) rfl (by kernel_rfl) (fun _ _ _ h => h) (Or.inl ⟨by rfl, ?_⟩) (by assumption) ?_
          · intro wx hSw
            go_simp
            try with_reducible rfl
          try simp only [Act.put, La1, La2, La3]
          refine wpAnyH_done (by kernel_rfl) ?_ _
          go_wp2
          go_ret
          exact ⟨_, rfl, HRR.out.1, HRR.out.2⟩
    · go_simp
      refine hK.out _ _ trivial (fun hHeld => ?_)
      clear hK K
      try simp only [Act.put, La1, La2, La3]
      refine tk (i := 14) (oi := ⟨some 19, .slice 42 (.tmp 16) (some (.tmp 18)) none none, 42, "ref.go:106", #[⟨11, .data⟩, ⟨13, .data⟩], none⟩) (v := v2) rfl (by kernel_rfl) (fun _ _ _ h => h) (Or.inl ⟨by rfl, ?_⟩) (by assumption) ?_
      · intro wx hSw
        try dsimp only at hSw
        go_simp
        try with_reducible rfl
      try simp only [Act.put, La1, La2, La3]
      refine wpAnyH_ready (rs := [0]) (by kernel_rfl) (by simp) ?_
      refine AllReadyH.cons (o := ⟨some 5, .buildSlice 42 0 #[], 42, "ref.go:106", #[], none⟩) rfl (fun K hK => ?_) AllReadyH.nil
      · go_simp
        refine hK.out _ _ trivial (fun hHeld => ?_)
        clear hK K
        try simp only [Act.put, La1, La2, La3]
        refine wpAnyH_ready (rs := [7]) (by kernel_rfl) (by simp) ?_
        refine AllReadyH.cons (o := ⟨some 12, .call { callee := .builtin .append, args := #[.tmp 5, .tmp 11], argTypes := #[42, 42] }, 42, "ref.go:106", #[⟨0, .data⟩, ⟨6, .data⟩], none⟩) rfl (fun K hK => ?_) AllReadyH.nil
        · refine step_append_eqD (by rfl) _ _ (by rfl) (by rfl) (by rfl) hr3 ?_
          refine hK.out _ _ trivial (fun hHeld => ?_)
          clear hK K
          try simp only [Act.put, La1, La2, La3]
          refine wpAnyH_ready (rs := [15]) (by kernel_rfl) (by simp) ?_
          refine AllReadyH.cons (o := ⟨some 20, .call { callee := .builtin .append, args := #[.tmp 12, .tmp 19], argTypes := #[42, 42] }, 42, "ref.go:106", #[⟨7, .data⟩, ⟨14, .data⟩, ⟨7, .chain⟩], none⟩) rfl (fun K hK => ?_) AllReadyH.nil
          refine step_append_eqD (by rfl) _ _ (by rfl) (by rfl) (by rfl) hr4 ?_
          refine hK.out _ _ trivial (fun hHeld => ?_)
          clear hK K
          try simp only [Act.put, La1, La2, La3]
          refine tk (i := 16) (oi := ⟨some 4, .assign (.tmp 20), 42, "ref.go:106", #[⟨15, .data⟩, ⟨15, .chain⟩, ⟨0, .phase⟩, ⟨1, .phase⟩, ⟨2, .phase⟩, ⟨3, .phase⟩, ⟨4, .phase⟩, ⟨5, .phase⟩, ⟨6, .phase⟩, ⟨7, .phase⟩, ⟨8, .phase⟩, ⟨9, .phase⟩, ⟨10, .phase⟩, ⟨11, .phase⟩, ⟨12, .phase⟩, ⟨13, .phase⟩, ⟨14, .phase⟩, ⟨15, .phase⟩], none⟩) (v := .slice p4 n4 k4) rfl (by kernel_rfl) (fun _ _ _ h => h) (Or.inl ⟨by rfl, ?_⟩) (by assumption) ?_
          · intro wx hSw
            go_simp
            try with_reducible rfl
          try simp only [Act.put, La1, La2, La3]
          refine wpAnyH_done (by kernel_rfl) ?_ _
          go_wp2
          go_ret
          exact ⟨_, rfl, HRR.out.1, HRR.out.2⟩
  · go_simp
    refine hK.out _ _ trivial (fun hHeld => ?_)
    clear hK K
    try simp only [Act.put, La1, La2, La3]
    refine tk (i := 14) (oi := ⟨some 19, .slice 42 (.tmp 16) (some (.tmp 18)) none none, 42, "ref.go:106", #[⟨11, .data⟩, ⟨13, .data⟩], none⟩) (v := v2) rfl (by kernel_rfl) (fun _ _ _ h => h) (Or.inl ⟨by rfl, ?_⟩) (by assumption) ?_
    · intro wx hSw
      try dsimp only at hSw
      go_simp
      try with_reducible rfl
    try simp only [Act.put, La1, La2, La3]
    refine wpAnyH_ready (rs := [0, 4]) (by kernel_rfl) (by simp) ?_
    refine AllReadyH.cons (o := ⟨some 5, .buildSlice 42 0 #[], 42, "ref.go:106", #[], none⟩) rfl (fun K hK => ?_) (AllReadyH.cons (o := ⟨some 9, .load 42 (.tmp 8), 42, "ref.go:106", #[⟨3, .data⟩], none⟩) rfl (fun K hK => ?_) AllReadyH.nil)
    · go_simp
      refine hK.out _ _ trivial (fun hHeld => ?_)
      clear hK K
      try simp only [Act.put, La1, La2, La3]
      refine wpAnyH_ready (rs := [4]) (by kernel_rfl) (by simp) ?_
      refine AllReadyH.cons (o := ⟨some 9, .load 42 (.tmp 8), 42, "ref.go:106", #[⟨3, .data⟩], none⟩) rfl (fun K hK => ?_) AllReadyH.nil
      · go_simp
        refine hK.out _ _ trivial (fun hHeld => ?_)
        clear hK K
        try simp only [Act.put, La1, La2, La3]
        refine tk (i := 6) (oi := ⟨some 11, .slice 42 (.tmp 9) none (some (.tmp 10)) none, 42, "ref.go:106", #[⟨4, .data⟩, ⟨5, .data⟩], none⟩) (v := v1) rfl (by kernel_rfl) (fun _ _ _ h => h) (Or.inl ⟨by rfl, ?_⟩) (by assumption) ?_
        · intro wx hSw
          try dsimp only at hSw
          go_simp
          try with_reducible rfl
        try simp only [Act.put, La1, La2, La3]
        refine wpAnyH_ready (rs := [7]) (by kernel_rfl) (by simp) ?_
        refine AllReadyH.cons (o := ⟨some 12, .call { callee := .builtin .append, args := #[.tmp 5, .tmp 11], argTypes := #[42, 42] }, 42, "ref.go:106", #[⟨0, .data⟩, ⟨6, .data⟩], none⟩) rfl (fun K hK => ?_) AllReadyH.nil
        · refine step_append_eqD (by rfl) _ _ (by rfl) (by rfl) (by rfl) hr3 ?_
          refine hK.out _ _ trivial (fun hHeld => ?_)
          clear hK K
          try simp only [Act.put, La1, La2, La3]
          refine wpAnyH_ready (rs := [15]) (by kernel_rfl) (by simp) ?_
          refine AllReadyH.cons (o := ⟨some 20, .call { callee := .builtin .append, args := #[.tmp 12, .tmp 19], argTypes := #[42, 42] }, 42, "ref.go:106", #[⟨7, .data⟩, ⟨14, .data⟩, ⟨7, .chain⟩], none⟩) rfl (fun K hK => ?_) AllReadyH.nil
          refine step_append_eqD (by rfl) _ _ (by rfl) (by rfl) (by rfl) hr4 ?_
          refine hK.out _ _ trivial (fun hHeld => ?_)
          clear hK K
          try simp only [Act.put, La1, La2, La3]
          refine tk (i := 16) (oi := ⟨some 4, .assign (.tmp 20), 42, "ref.go:106", #[⟨15, .data⟩, ⟨15, .chain⟩, ⟨0, .phase⟩, ⟨1, .phase⟩, ⟨2, .phase⟩, ⟨3, .phase⟩, ⟨4, .phase⟩, ⟨5, .phase⟩, ⟨6, .phase⟩, ⟨7, .phase⟩, ⟨8, .phase⟩, ⟨9, .phase⟩, ⟨10, .phase⟩, ⟨11, .phase⟩, ⟨12, .phase⟩, ⟨13, .phase⟩, ⟨14, .phase⟩, ⟨15, .phase⟩], none⟩) (v := .slice p4 n4 k4) rfl (by kernel_rfl) (fun _ _ _ h => h) (Or.inl ⟨by rfl, ?_⟩) (by assumption) ?_
          · intro wx hSw
            go_simp
            try with_reducible rfl
          try simp only [Act.put, La1, La2, La3]
          refine wpAnyH_done (by kernel_rfl) ?_ _
          go_wp2
          go_ret
          exact ⟨_, rfl, HRR.out.1, HRR.out.2⟩
    · go_simp
      refine hK.out _ _ trivial (fun hHeld => ?_)
      clear hK K
      try simp only [Act.put, La1, La2, La3]
      refine tk (i := 6) (oi := ⟨some 11, .slice 42 (.tmp 9) none (some (.tmp 10)) none, 42, "ref.go:106", #[⟨4, .data⟩, ⟨5, .data⟩], none⟩) (v := v1) rfl (by kernel_rfl) (fun _ _ _ h => h) (Or.inl ⟨by rfl, ?_⟩) (by assumption) ?_
      · intro wx hSw
        try dsimp only at hSw
        go_simp
        try with_reducible rfl
      try simp only [Act.put, La1, La2, La3]
      refine wpAnyH_ready (rs := [0]) (by kernel_rfl) (by simp) ?_
      refine AllReadyH.cons (o := ⟨some 5, .buildSlice 42 0 #[], 42, "ref.go:106", #[], none⟩) rfl (fun K hK => ?_) AllReadyH.nil
      · go_simp
        refine hK.out _ _ trivial (fun hHeld => ?_)
        clear hK K
        try simp only [Act.put, La1, La2, La3]
        refine wpAnyH_ready (rs := [7]) (by kernel_rfl) (by simp) ?_
        refine AllReadyH.cons (o := ⟨some 12, .call { callee := .builtin .append, args := #[.tmp 5, .tmp 11], argTypes := #[42, 42] }, 42, "ref.go:106", #[⟨0, .data⟩, ⟨6, .data⟩], none⟩) rfl (fun K hK => ?_) AllReadyH.nil
        · refine step_append_eqD (by rfl) _ _ (by rfl) (by rfl) (by rfl) hr3 ?_
          refine hK.out _ _ trivial (fun hHeld => ?_)
          clear hK K
          try simp only [Act.put, La1, La2, La3]
          refine wpAnyH_ready (rs := [15]) (by kernel_rfl) (by simp) ?_
          refine AllReadyH.cons (o := ⟨some 20, .call { callee := .builtin .append, args := #[.tmp 12, .tmp 19], argTypes := #[42, 42] }, 42, "ref.go:106", #[⟨7, .data⟩, ⟨14, .data⟩, ⟨7, .chain⟩], none⟩) rfl (fun K hK => ?_) AllReadyH.nil
          refine step_append_eqD (by rfl) _ _ (by rfl) (by rfl) (by rfl) hr4 ?_
          refine hK.out _ _ trivial (fun hHeld => ?_)
          clear hK K
          try simp only [Act.put, La1, La2, La3]
          refine tk (i := 16) (oi := ⟨some 4, .assign (.tmp 20), 42, "ref.go:106", #[⟨15, .data⟩, ⟨15, .chain⟩, ⟨0, .phase⟩, ⟨1, .phase⟩, ⟨2, .phase⟩, ⟨3, .phase⟩, ⟨4, .phase⟩, ⟨5, .phase⟩, ⟨6, .phase⟩, ⟨7, .phase⟩, ⟨8, .phase⟩, ⟨9, .phase⟩, ⟨10, .phase⟩, ⟨11, .phase⟩, ⟨12, .phase⟩, ⟨13, .phase⟩, ⟨14, .phase⟩, ⟨15, .phase⟩], none⟩) (v := .slice p4 n4 k4) rfl (by kernel_rfl) (fun _ _ _ h => h) (Or.inl ⟨by rfl, ?_⟩) (by assumption) ?_
          · intro wx hSw
            go_simp
            try with_reducible rfl
          try simp only [Act.put, La1, La2, La3]
          refine wpAnyH_done (by kernel_rfl) ?_ _
          go_wp2
          go_ret
          exact ⟨_, rfl, HRR.out.1, HRR.out.2⟩
end Go.Proofs.Ytcjhniehbafhpaa
