/- the texts Jb, Hp, Ha, He, Hn, Hf, in part, merged by program -/
import Derived.Test.YtcjhniehbafhpaaProg
import Derived.Test.YtcjhniehbafhpaaRows
import Derived.WalkKit
import Derived.WalkSpells
import Derived.Laws.OwnMore
import Derived.Maps.RangeWalk
import Derived.Maps.OwnSet
import Derived.Maps.Ext
import Derived.Maps.Keyed
import Derived.DeepKeys4
import Derived.WalkSmall
import Derived.Deep.Cut
import Derived.Deep.CutRange
import Derived.Deep.MidRow
import Derived.Deep.QuietTactic
import Derived.BigQuiet
import Derived.Deep.RegionWith
import Derived.OwnWalk
import Derived.Laws.CopyRow
import Derived.OrdersHeld
import Derived.Shelf.Spec.SlicesInsert
import Derived.Lib.AppendZerosOnto
import Derived.Maps.AppendAt
import Derived.Lib.Overlaps
import Derived.Shelf.Strings.BuilderK
import Derived.Laws.AppendOwn
import Derived.Laws.AppendOwnNone
import Derived.Carry
import Derived.Deep.RegionHeld3
import Derived.LoopN
import Derived.Great.BuildSlice
import Derived.Shelf.SlSortCmp.WholeK
import Derived.Shelf.SlSortCmp.NoneTotal
import Derived.Test.YtcjhniehbafhpaaMA01
import Derived.Test.YtcjhniehbafhpaaMA02
import Derived.Test.YtcjhniehbafhpaaMA03
import Derived.Test.YtcjhniehbafhpaaMA04
import Derived.Test.YtcjhniehbafhpaaMA05
import Derived.Test.YtcjhniehbafhpaaMA06
import Derived.Test.YtcjhniehbafhpaaMA07
import Derived.Test.YtcjhniehbafhpaaMA08
import Derived.Test.YtcjhniehbafhpaaMA09
namespace Go.Proofs.Ytcjhniehbafhpaa
open Go.RowKit Go.Maps
set_option maxRecDepth 100000
set_option linter.unusedVariables false
set_option linter.unusedSimpArgs false

theorem tog_any (p q : Pk) (w : World) : Calls Try.prog 26 #[.agg #[.int .i64 p.f, .int .i64 p.t, .int .i64 p.tl, .int .i64 p.pr, .int .i64 p.id, .int .i64 p.fr, .bool p.mo, .bool p.dn, .string p.op, .string p.da], .agg #[.int .i64 q.f, .int .i64 q.t, .int .i64 q.tl, .int .i64 q.pr, .int .i64 q.id, .int .i64 q.fr, .bool q.mo, .bool q.dn, .string q.op, .string q.da]] w fun e w' => e = .returned (.bool (decide (mk p = mk q))) ∧ Below w.heap.size w w' := by
  obtain ⟨⟨c0, c1, c2, c3, c4, c5, c6, c7, c8, c9⟩, -, -⟩ := ((At.box w #[.int .i64 p.f, .int .i64 p.t, .int .i64 p.tl, .int .i64 p.pr, .int .i64 p.id, .int .i64 p.fr, .bool p.mo, .bool p.dn, .string p.op, .string p.da] 32).later (bel1 _ (.cells #[.int .i64 q.f, .int .i64 q.t, .int .i64 q.tl, .int .i64 q.pr, .int .i64 q.id, .int .i64 q.fr, .bool q.mo, .bool q.dn, .string q.op, .string q.da] 32))).ten
  obtain ⟨⟨d0, d1, d2, d3, d4, d5, d6, d7, d8, d9⟩, -, -⟩ := (At.box2 w (.cells #[.int .i64 p.f, .int .i64 p.t, .int .i64 p.tl, .int .i64 p.pr, .int .i64 p.id, .int .i64 p.fr, .bool p.mo, .bool p.dn, .string p.op, .string p.da] 32) #[.int .i64 q.f, .int .i64 q.t, .int .i64 q.tl, .int .i64 q.pr, .int .i64 q.id, .int .i64 q.fr, .bool q.mo, .bool q.dn, .string q.op, .string q.da] 32).ten
  have hb := bt (bel1 w (.cells #[.int .i64 p.f, .int .i64 p.t, .int .i64 p.tl, .int .i64 p.pr, .int .i64 p.id, .int .i64 p.fr, .bool p.mo, .bool p.dn, .string p.op, .string p.da] 32)) (bel1 _ (.cells #[.int .i64 q.f, .int .i64 q.t, .int .i64 q.tl, .int .i64 q.pr, .int .i64 q.id, .int .i64 q.fr, .bool q.mo, .bool q.dn, .string q.op, .string q.da] 32))
  have hm : decide (mk p = mk q) = (decide (p.f = q.f) && decide (p.t = q.t) && decide (p.pr = q.pr) && decide (p.id = q.id)) := by
    unfold mk
    simp only [Mk.mk.injEq]
    by_cases h1 : p.f = q.f <;> by_cases h2 : p.t = q.t <;> by_cases h3 : p.pr = q.pr <;> by_cases h4 : p.id = q.id <;> simp [h1, h2, h3, h4]
  rw [hm]
  clear hm
  obtain ⟨e1, he1⟩ : ∃ b, (p.f == q.f) = b := ⟨_, rfl⟩
  obtain ⟨e2, he2⟩ : ∃ b, (p.t == q.t) = b := ⟨_, rfl⟩
  obtain ⟨e3, he3⟩ : ∃ b, (p.pr == q.pr) = b := ⟨_, rfl⟩
  obtain ⟨e4, he4⟩ : ∃ b, (p.id == q.id) = b := ⟨_, rfl⟩
  have HR : Hid ((decide (p.f = q.f) && decide (p.t = q.t) && decide (p.pr = q.pr) && decide (p.id = q.id)) = (e1 && e2 && e3 && e4)) := by
    show _ = _
    rw [← he1, ← he2, ← he3, ← he4]
    rfl
  rw [HR.out]
  clear HR
  go_enter Try.func26, Try.ntmps26
  go_upto_region 1 with fail
  generalize (w.alloc (.cells #[.int .i64 p.f, .int .i64 p.t, .int .i64 p.tl, .int .i64 p.pr, .int .i64 p.id, .int .i64 p.fr, .bool p.mo, .bool p.dn, .string p.op, .string p.da] 32)).alloc (.cells #[.int .i64 q.f, .int .i64 q.t, .int .i64 q.tl, .int .i64 q.pr, .int .i64 q.id, .int .i64 q.fr, .bool q.mo, .bool q.dn, .string q.op, .string q.da] 32) = W at *
  cases e1 with
  | false =>
    go_wp2
    go_ret
    exact ⟨by first | rfl | simp, hb⟩
  | true =>
    cases e2 with
    | false =>
      go_wp2
      go_ret
      exact ⟨by first | rfl | simp, hb⟩
    | true =>
      cases e3 with
      | false =>
        go_wp2
        go_ret
        exact ⟨by first | rfl | simp, hb⟩
      | true =>
        cases e4 with
        | false =>
          go_wp2
          go_ret
          exact ⟨by first | rfl | simp, hb⟩
        | true =>
          go_wp2
          go_ret
          exact ⟨by first | rfl | simp, hb⟩
def firstV (ps : List Pk) : Value := match firstL ps with
  | some q => .tuple #[.agg #[.int .i64 q.f, .int .i64 q.t, .int .i64 q.tl, .int .i64 q.pr, .int .i64 q.id, .int .i64 q.fr, .bool q.mo, .bool q.dn, .string q.op, .string q.da], .bool true]
  | none => .tuple #[.agg #[.int .i64 0, .int .i64 0, .int .i64 0, .int .i64 0, .int .i64 0, .int .i64 0, .bool false, .bool false, .string ⟨#[]⟩, .string ⟨#[]⟩], .bool false]
theorem first_drop {ps : List Pk} {k : Nat} {q : Pk} (hk : ps[k]? = some q) (h : ∀ x ∈ ps.take k, x.fr ≠ 0) : (q.fr = 0 → firstL ps = some q) ∧ (q.fr ≠ 0 → ∀ x ∈ ps.take (k + 1), x.fr ≠ 0) := by
  constructor
  · intro h0
    unfold firstL
    have e : ps = ps.take k ++ q :: ps.drop (k + 1) := by
      have hk' : k < ps.length := (List.getElem?_eq_some_iff.1 hk).1
      have : ps.drop k = q :: ps.drop (k + 1) := by
        rw [List.drop_eq_getElem_cons hk']
        congr 1
        rw [List.getElem?_eq_getElem hk'] at hk
        injection hk
      rw [← this, List.take_append_drop]
    rw [e, List.find?_append, List.find?_eq_none.2 (fun x hx => by simp [h x hx]), List.find?_cons_of_pos (by simp [h0])]
    rfl
  · intro h0 x hx
    rw [List.take_add_one, hk] at hx
    rcases List.mem_append.1 hx with hx | hx
    · exact h x hx
    · simp at hx
      rw [hx]
      exact h0
set_option maxHeartbeats 4000000 in
theorem first_any (ps : List Pk) (v : Value) (R : Nat) (w : World) (hr : RW w R v ps) (hn : ps.length ≤ 1000) :
    Calls Try.prog 21 #[v] w fun e w' => e = .returned (firstV ps) ∧ Below w.heap.size w w' := by
  obtain ⟨a, c, hv⟩ := hr.shape
  subst hv
  have HR : Hid (RW w R (.slice a ps.length c) ps) := hr
  have hlt0 : (ps.length : Int) ≤ 1000 := by omega
  clear hr
  go_enter Try.func21, Try.ntmps21
  go_upto_region 1 with fail
  have hZ := At.box w #[.int .i64 0, .int .i64 0, .int .i64 0, .int .i64 0, .int .i64 0, .int .i64 0, .bool false, .bool false, .string ⟨#[]⟩, .string ⟨#[]⟩] 32
  have hb0 := bel1 w (.cells #[.int .i64 0, .int .i64 0, .int .i64 0, .int .i64 0, .int .i64 0, .int .i64 0, .bool false, .bool false, .string ⟨#[]⟩, .string ⟨#[]⟩] 32)
  have hr0 := HR.out.later hb0
  have HR0 : Hid (RW (w.alloc (.cells #[.int .i64 0, .int .i64 0, .int .i64 0, .int .i64 0, .int .i64 0, .int .i64 0, .bool false, .bool false, .string ⟨#[]⟩, .string ⟨#[]⟩] 32)) R (.slice a ps.length c) ps) := hr0
  clear hr0
  generalize w.alloc (.cells #[.int .i64 0, .int .i64 0, .int .i64 0, .int .i64 0, .int .i64 0, .int .i64 0, .bool false, .bool false, .string ⟨#[]⟩, .string ⟨#[]⟩] 32) = W0 at *
  go_wp2
  go_loopw [4] (fun vi wr => ∃ k : Nat, k ≤ ps.length ∧ vi = .int .i64 (k : Int) ∧ (∀ x ∈ ps.take k, x.fr ≠ 0) ∧ wr = W0) (fun vi _ => ps.length - (intOf vi).toNat)
  case atStart => exact ⟨0, Nat.zero_le _, rfl, (fun x hx => by simp at hx), rfl⟩
  case round =>
    obtain ⟨k, hk, rfl, hno, rfl⟩ := hrel
    by_cases hlt : k < ps.length
    · obtain ⟨q, hq⟩ : ∃ q, ps[k]? = some q := ⟨ps[k], List.getElem?_eq_getElem hlt⟩
      obtain ⟨g, rfl, hcl⟩ : ∃ g, a = some ⟨g, 0, none⟩ ∧ ∀ j u, q.L[j]? = some u → wr.cell? ⟨g, k * 10 + j, none⟩ = some u := by
        obtain ⟨g, c', cur, hv, -⟩ := HR0.out.real (fun e => by rw [e] at hlt; exact absurd hlt (Nat.not_lt_zero _))
        injection hv with e1
        subst e1
        exact ⟨g, rfl, fun j u hu => HR0.out.cells hq j u hu⟩
      have y5 := hcl 5 _ rfl
      have hrg : wr.rangeAt g (k * 10) [.int .i64 q.f, .int .i64 q.t, .int .i64 q.tl, .int .i64 q.pr, .int .i64 q.id, .int .i64 q.fr, .bool q.mo, .bool q.dn, .string q.op, .string q.da] := hcl
      have hk1 : (k : Int) < (ps.length : Int) := by omega
      have hk3 : (0 : Int) ≤ (k : Int) := by omega
      obtain ⟨h1, h2⟩ := first_drop hq hno
      by_cases hfr : q.fr = 0
      · have hfb : (q.fr == 0) = true := by simp [hfr]
        have HF : Hid (firstL ps = some q) := h1 hfr
        clear hfr h1 h2 hno hq hcl
        go_wp2_with (first
          | (refine wpList_load_mid rfl 32 _ rfl g (k * 10) (by first | rfl | simp) _ _ hrg Try.underlying32 rfl (by kernel_rfl) ?_)
          | (refine wpList_store_at rfl 32 _ _ rfl _ w.heap.size #[.int .i64 0, .int .i64 0, .int .i64 0, .int .i64 0, .int .i64 0, .int .i64 0, .bool false, .bool false, .string ⟨#[]⟩, .string ⟨#[]⟩] #[.int .i64 q.f, .int .i64 q.t, .int .i64 q.tl, .int .i64 q.pr, .int .i64 q.id, .int .i64 q.fr, .bool q.mo, .bool q.dn, .string q.op, .string q.da] rfl rfl hZ rfl (by kernel_rfl) (by simp [Value.oneCell']) ?_; intro w5 hZ5 ht5)
          | go_in)
        have r0 := (hZ5.2 0 _ rfl).1
        have r1 := (hZ5.2 1 _ rfl).1
        have r2 := (hZ5.2 2 _ rfl).1
        have r3 := (hZ5.2 3 _ rfl).1
        have r4 := (hZ5.2 4 _ rfl).1
        have r5 := (hZ5.2 5 _ rfl).1
        have r6 := (hZ5.2 6 _ rfl).1
        have r7 := (hZ5.2 7 _ rfl).1
        have r8 := (hZ5.2 8 _ rfl).1
        have r9 := (hZ5.2 9 _ rfl).1
        exact bodyPost_ret (v := .tuple #[.agg #[.int .i64 q.f, .int .i64 q.t, .int .i64 q.tl, .int .i64 q.pr, .int .i64 q.id, .int .i64 q.fr, .bool q.mo, .bool q.dn, .string q.op, .string q.da], .bool true]) (by simp [results, Try.results21, go_sem, r0, r1, r2, r3, r4, r5, r6, r7, r8, r9]) rfl ⟨by unfold firstV; rw [HF.out], hb0.trans (below_turn ht5 (Nat.le_refl _) hb0.size)⟩
      · have hfb : (q.fr == 0) = false := by simp [hfr]
        have HN : Hid (∀ x ∈ ps.take (k + 1), x.fr ≠ 0) := h2 hfr
        clear hfr h1 h2 hno hq hcl hrg
        go_wp2
        go_roundw
        case rel => exact ⟨k + 1, by omega, by first | rfl | simp, HN.out, by first | rfl | trivial⟩
        case measure => simp [intOf]; omega
    · have hk1 : ¬ (k : Int) < (ps.length : Int) := by omega
      have hkk : k = ps.length := by omega
      have HF : Hid (firstL ps = none) := by
        rw [hkk, List.take_length] at hno
        exact List.find?_eq_none.2 (fun x hx => by simp [hno x hx])
      clear hno hkk
      go_wp2_with (first
        | (refine wpList_store_at rfl 32 _ _ rfl _ w.heap.size #[.int .i64 0, .int .i64 0, .int .i64 0, .int .i64 0, .int .i64 0, .int .i64 0, .bool false, .bool false, .string ⟨#[]⟩, .string ⟨#[]⟩] #[.int .i64 0, .int .i64 0, .int .i64 0, .int .i64 0, .int .i64 0, .int .i64 0, .bool false, .bool false, .string ⟨#[]⟩, .string ⟨#[]⟩] rfl rfl hZ rfl (by kernel_rfl) oneZ ?_; intro w5 hZ5 ht5)
        | go_in)
      have r0 := (hZ5.2 0 _ rfl).1
      have r1 := (hZ5.2 1 _ rfl).1
      have r2 := (hZ5.2 2 _ rfl).1
      have r3 := (hZ5.2 3 _ rfl).1
      have r4 := (hZ5.2 4 _ rfl).1
      have r5 := (hZ5.2 5 _ rfl).1
      have r6 := (hZ5.2 6 _ rfl).1
      have r7 := (hZ5.2 7 _ rfl).1
      have r8 := (hZ5.2 8 _ rfl).1
      have r9 := (hZ5.2 9 _ rfl).1
      exact bodyPost_ret (v := .tuple #[.agg #[.int .i64 0, .int .i64 0, .int .i64 0, .int .i64 0, .int .i64 0, .int .i64 0, .bool false, .bool false, .string ⟨#[]⟩, .string ⟨#[]⟩], .bool false]) (by simp [results, Try.results21, go_sem, r0, r1, r2, r3, r4, r5, r6, r7, r8, r9]) rfl ⟨by unfold firstV; rw [HF.out], hb0.trans (below_turn ht5 (Nat.le_refl _) hb0.size)⟩
end Go.Proofs.Ytcjhniehbafhpaa

namespace Go.Proofs.Ytcjhniehbafhpaa
open Go.RowKit Go.Maps
set_option maxRecDepth 100000
set_option linter.unusedVariables false
set_option linter.unusedSimpArgs false

theorem infoP2 : (Try.prog.info? 32).map (fun i => (i.zero, i.size, i.bytes)) = some (some (.agg #[.int .i64 0, .int .i64 0, .int .i64 0, .int .i64 0, .int .i64 0, .int .i64 0, .bool false, .bool false, .string ⟨#[]⟩, .string ⟨#[]⟩]), 10, 88) := by kernel_rfl
theorem L_one2 (q : Pk) : ∀ u ∈ q.L, u.oneCell' = true := by
  intro u hu
  simp only [Pk.L, List.mem_cons, List.not_mem_nil, or_false] at hu
  rcases hu with rfl | rfl | rfl | rfl | rfl | rfl | rfl | rfl | rfl | rfl <;> rfl
theorem wpList_appendP2 {w : World} {ops : Array Oper} {rest : List Oper} {o : Oper} {a : Act} {Q : Exit → Act → World → Prop} (hgd : o.guard = none) (s x : Operand)
    (ho : o.op = .call { callee := .builtin .append, args := #[s, x], argTypes := #[36, 36] }) (R : Nat) (v : Value) (ps : List Pk) (q : Pk) (g c : Nat) (hs : a.eval s = v) (hown : RW w R v ps) (hx : a.eval x = .slice (some ⟨g, 0, none⟩) 1 c) (hr : ∀ j u, q.L[j]? = some u → w.cell? ⟨g, j, none⟩ = some u) (hR : R ≤ w.heap.size) (hlen : ps.length < 1000000)
    (h : ∀ v' w', RW w' R v' (ps ++ [q]) → Turn (fun k => v.ownBlock = some k) w w' → (∀ k, v'.ownBlock = some k → v.ownBlock = some k ∨ w.heap.size ≤ k) → wpList Try.prog ops Q rest (a.put o.dst v') w') : wpList Try.prog ops Q (o :: rest) a w := by
  obtain ⟨i0, hi, hz0, hz1, hz2⟩ := info_parts infoP2
  refine wpList_append_own_at _ hgd s x 36 ho R 32 i0 _ 10 88 Try.underlying36 hi hz0 hz1 hz2 rfl (by decide) v ps.length (flatP ps) hs hown ⟨g, 0, none⟩ 1 c q.L hx rfl ?_ (L_one2 q) (by unfold maxLen; omega) (by omega) hR ?_
  · intro j u hu
    rw [Addr.add_mid, Nat.zero_add]
    exact hr j u hu
  · intro v' w' h1 h2 h3 h4
    have hT : Turn (fun k => v.ownBlock = some k) w w' := Turn.of_grown h2 (fun j hj => Or.inl hj)
    have h1' : RW w' R v' (ps ++ [q]) := by
      unfold RW
      rw [flatP_snoc, List.length_append, List.length_singleton]
      exact h1
    refine h v' w' h1' hT (fun k hk => ?_)
    rcases h4 with e | e
    · exact Or.inl (by rw [← e]; exact hk)
    · rw [e] at hk
      injection hk with hk
      exact Or.inr (by omega)
theorem bsP2 (q : Pk) (w : World) : (Instr.buildSlice 36 1 #[(0, .agg #[.int .i64 q.f, .int .i64 q.t, .int .i64 q.tl, .int .i64 q.pr, .int .i64 q.id, .int .i64 q.fr, .bool q.mo, .bool q.dn, .string q.op, .string q.da])]).run Try.prog w = .ok (.slice (some ⟨w.heap.size, 0, none⟩) 1 1) (w.alloc (.cells #[.int .i64 q.f, .int .i64 q.t, .int .i64 q.tl, .int .i64 q.pr, .int .i64 q.id, .int .i64 q.fr, .bool q.mo, .bool q.dn, .string q.op, .string q.da] 32)) := by
  obtain ⟨i0, hi, hz0, hz1, hz2⟩ := info_parts infoP2
  refine run_buildSlice w 36 32 1 _ _ i0 _ Try.underlying36 hi hz0 (by rw [hz1]; decide) (by rw [hz1]; decide) ?_
  rw [hz1]; kernel_rfl
theorem wpList_bsliceP2 {w : World} {ops : Array Oper} {rest : List Oper} {op : Oper} {a : Act} {Q : Exit → Act → World → Prop} (hgd : op.guard = none) (i : Operand) (ho : op.op = .buildSlice 36 1 #[(0, i)]) (q : Pk) (vs : Array Value) (hvs : vs = #[.int .i64 q.f, .int .i64 q.t, .int .i64 q.tl, .int .i64 q.pr, .int .i64 q.id, .int .i64 q.fr, .bool q.mo, .bool q.dn, .string q.op, .string q.da]) (hi : a.eval i = .agg vs)
    (h : wpList Try.prog ops Q rest (a.put op.dst (.slice (some ⟨w.heap.size, 0, none⟩) 1 1)) (w.alloc (.cells vs 32))) : wpList Try.prog ops Q (op :: rest) a w := by
  subst hvs
  refine wpList_plain hgd fun K hK => ?_
  unfold Oper.wp execOp
  have e' : (#[(0, i)].map fun (p : Nat × Operand) => (p.1, a.eval p.2)) = #[(0, .agg #[.int .i64 q.f, .int .i64 q.t, .int .i64 q.tl, .int .i64 q.pr, .int .i64 q.id, .int .i64 q.fr, .bool q.mo, .bool q.dn, .string q.op, .string q.da])] := by simp [hi]
  simp only [ho, Sem.run_bind]
  rw [e', bsP2]
  exact hK _ _ h
end Go.Proofs.Ytcjhniehbafhpaa

namespace Go.Proofs.Ytcjhniehbafhpaa
open Go.Shelf Go.RowKit Go.Lib Go.Sort
set_option maxRecDepth 100000
set_option linter.unusedVariables false
set_option linter.unusedSimpArgs false

def sortRen : Go.Shelf.Ren := ⟨fun | 6 => 33 | 14 => 46 | 15 => 47 | 20 => 59 | 21 => 60 | 22 => 61 | 23 => 62 | 24 => 63 | 25 => 64 | 26 => 65 | 27 => 66 | 28 => 67 | 29 => 68 | 46 => 75 | 47 => 76 | 48 => 77 | 49 => 78 | 50 => 79 | 57 => 82 | n => n, fun | 0 => 0 | 3 => 3 | 4 => 4 | 5 => 5 | 9 => 9 | 22 => 58 | 25 => 79 | 39 => 88 | 45 => 104 | 46 => 105 | 50 => 90 | 53 => 111 | 55 => 113 | 66 => 118 | 70 => 122 | 76 => 126 | 77 => 127 | 24 => 61 | n => n, fun n => n⟩
theorem sortLay : Go.Proofs.SlLaysF0.n6 Try.prog sortRen := {
  mixed := by kernel_rfl
  f6 := ⟨Try.f33.name, by kernel_rfl, Try.func33.trans (congrArg some (by kernel_rfl))⟩
  f14 := ⟨Try.f46.name, by kernel_rfl, Try.func46.trans (congrArg some (by kernel_rfl))⟩
  f15 := Try.func47.trans (congrArg some (by kernel_rfl))
  f20 := ⟨Try.f59.name, by kernel_rfl, Try.func59.trans (congrArg some (by kernel_rfl))⟩
  f21 := ⟨Try.f60.name, by kernel_rfl, Try.func60.trans (congrArg some (by kernel_rfl))⟩
  f22 := ⟨Try.f61.name, by kernel_rfl, Try.func61.trans (congrArg some (by kernel_rfl))⟩
  f23 := ⟨Try.f62.name, by kernel_rfl, Try.func62.trans (congrArg some (by kernel_rfl))⟩
  f24 := ⟨Try.f63.name, by kernel_rfl, Try.func63.trans (congrArg some (by kernel_rfl))⟩
  f25 := ⟨Try.f64.name, by kernel_rfl, Try.func64.trans (congrArg some (by kernel_rfl))⟩
  f26 := ⟨Try.f65.name, by kernel_rfl, Try.func65.trans (congrArg some (by kernel_rfl))⟩
  f27 := ⟨Try.f66.name, by kernel_rfl, Try.func66.trans (congrArg some (by kernel_rfl))⟩
  f28 := Try.func67.trans (congrArg some (by kernel_rfl))
  f29 := Try.func68.trans (congrArg some (by kernel_rfl))
  f46 := ⟨Try.f75.name, by kernel_rfl, Try.func75.trans (congrArg some (by kernel_rfl))⟩
  f47 := Try.func76.trans (congrArg some (by kernel_rfl))
  f48 := Try.func77.trans (congrArg some (by kernel_rfl))
  f49 := ⟨Try.f78.name, by kernel_rfl, Try.func78.trans (congrArg some (by kernel_rfl))⟩
  f50 := ⟨Try.f79.name, by kernel_rfl, Try.func79.trans (congrArg some (by kernel_rfl))⟩
  f57 := ⟨Try.f82.name, by kernel_rfl, Try.func82.trans (congrArg some (by kernel_rfl))⟩
  t0 := Try.underlying0
  a0 := Try.isAgg0
  z0 := Try.sizeOf0
  v0 := Try.zeroValue0
  t3 := Try.underlying3
  a3 := Try.isAgg3
  z3 := Try.sizeOf3
  v3 := Try.zeroValue3
  t4 := Try.underlying4
  a4 := Try.isAgg4
  z4 := Try.sizeOf4
  v4 := Try.zeroValue4
  t5 := Try.underlying5
  a5 := Try.isAgg5
  z5 := Try.sizeOf5
  v5 := Try.zeroValue5
  t9 := Try.underlying9
  a9 := Try.isAgg9
  z9 := Try.sizeOf9
  v9 := Try.zeroValue9
  t22 := Try.underlying58
  a22 := Try.isAgg58
  z22 := Try.sizeOf58
  v22 := Try.zeroValue58
  t25 := Try.underlying79
  a25 := Try.isAgg79
  z25 := Try.sizeOf79
  v25 := Try.zeroValue79
  t39 := Try.underlying88
  a39 := Try.isAgg88
  z39 := Try.sizeOf88
  v39 := Try.zeroValue88
  t45 := Try.underlying104
  a45 := Try.isAgg104
  z45 := Try.sizeOf104
  v45 := Try.zeroValue104
  t46 := Try.underlying105
  a46 := Try.isAgg105
  z46 := Try.sizeOf105
  v46 := Try.zeroValue105
  t50 := Try.underlying90
  a50 := Try.isAgg90
  z50 := Try.sizeOf90
  v50 := Try.zeroValue90
  t53 := Try.underlying111
  a53 := Try.isAgg111
  z53 := Try.sizeOf111
  v53 := Try.zeroValue111
  t55 := Try.underlying113
  a55 := Try.isAgg113
  z55 := Try.sizeOf113
  v55 := Try.zeroValue113
  t66 := Try.underlying118
  a66 := Try.isAgg118
  z66 := Try.sizeOf118
  v66 := Try.zeroValue118
  t70 := Try.underlying122
  a70 := Try.isAgg122
  z70 := Try.sizeOf122
  v70 := Try.zeroValue122
  t76 := Try.underlying126
  a76 := Try.isAgg126
  z76 := Try.sizeOf126
  v76 := Try.zeroValue126
  t77 := Try.underlying127
  a77 := Try.isAgg127
  z77 := Try.sizeOf127
  v77 := Try.zeroValue127 }
structure Gn where
  at_ : Int
  tu : Fin 1099511627776
  a : Option Addr
  n : Nat
  c : Nat
instance : Inhabited Gn := ⟨⟨0, 0, none, 0, 0⟩⟩
def Gn.L (x : Gn) : List Value := [.int .i64 x.at_, .int .i64 (x.tu.val : Int), .slice x.a x.n x.c]
def cfG (x y : Gn) : Int := (x.tu.val : Int) - (y.tu.val : Int)
theorem ltG (x y : Gn) : ltOf cfG x y = decide (x.tu.val < y.tu.val) := by
  unfold ltOf cfG
  by_cases h : x.tu.val < y.tu.val
  · rw [decide_eq_true h, decide_eq_true]; omega
  · rw [decide_eq_false h, decide_eq_false]; omega
theorem swoG : SWO (ltOf cfG) where
  irrefl x := by rw [ltG]; simp
  trans x y z h1 h2 := by rw [ltG] at *; simp at *; omega
  ntrans x y z h1 h2 := by rw [ltG] at *; simp at *; omega
theorem cmp_any (x y : Gn) (W : World) : Calls Try.prog 34 #[.agg x.L.toArray, .agg y.L.toArray] W fun e w' => e = .returned (.int .i64 (cfG x y)) ∧ ∃ q os', w' = grow (W.drewN q) os' := by
  obtain ⟨a1, ⟨t1, h1⟩, a2, n1, c1⟩ := x
  obtain ⟨b1, ⟨t2, h2⟩, b2, n2, c2⟩ := y
  have e1 : (0 : Int) ≤ (t1 : Int) := by omega
  have e2 : (t1 : Int) < 1099511627776 := by omega
  have e3 : (0 : Int) ≤ (t2 : Int) := by omega
  have e4 : (t2 : Int) < 1099511627776 := by omega
  have hr : cfG ⟨a1, ⟨t1, h1⟩, a2, n1, c1⟩ ⟨b1, ⟨t2, h2⟩, b2, n2, c2⟩ = (t1 : Int) - (t2 : Int) := rfl
  rw [hr]
  simp only [Gn.L]
  go_enter Try.func34, Try.ntmps34
  go_wp2
  go_ret
  exact ⟨rfl, 0, _, by rw [alloc_eq_grow, alloc_eq_grow, grow_grow]; rfl⟩
theorem turn_sort (enc : Gn → List Value) (k : Nat) (w : World) (blk off n : Nat) (d : Array Gn) (os : Array Obj) (hb : blk < w.heap.size) : Turn (fun j => j = blk) w (sortWorldK enc k w blk off n d os) := by
  refine ⟨rfl, rfl, rfl, ?_, fun j hj hs => ?_⟩
  · simp [sortWorldK, grow, putRowK, putRow, mapBlock, Sort.ahead]
  · simp only [sortWorldK, grow, putRowK, putRow, mapBlock, Sort.ahead]
    rw [Array.getElem?_append_left (by simpa using hj), Array.getElem?_modify, if_neg (fun e => hs e.symm)]
theorem sort_any (blk cap : Nat) (d : Array Gn) (w : World) (hH : HoldsK Gn.L 3 w blk 0 d) (hblk : blk < w.heap.size) (hsz : d.size < 4611686018427387904) :
    Calls Try.prog 33 #[.slice (some ⟨blk, 0, none⟩) d.size cap, .func (.func 34) #[] #[]] w fun e w' => e = .returned (.tuple #[]) ∧ ∃ d' : Array Gn, d'.toList.Perm d.toList ∧ d'.toList.Pairwise (fun x y => x.tu.val ≤ y.tu.val) ∧ HoldsK Gn.L 3 w' blk 0 d' ∧ Turn (fun j => j = blk) w w' := by
  have eg : ∀ args w, (callFunc 34 args).run Try.prog w = .ok (.enter 34 args) w := enters_of Try.func34 (by kernel_rfl) rfl
  have hcon := AnyQ.slices_SortFunc sortLay 3 Try.isAgg61 Try.sizeOf61 Gn.L (fun _ => rfl) (fun x v hv => by simp [Gn.L] at hv; rcases hv with rfl | rfl | rfl <;> rfl) cfG swoG 34 #[] blk 0 cap d w eg (fun _ _ _ _ x y => cmp_any x y _) hH hblk hsz
  change Calls Try.prog 33 _ _ _ at hcon
  refine hcon.mono ?_
  rintro e w' ⟨rfl, d', n, os, ⟨hs, -, hp⟩, hso, rfl⟩
  have hd : d.extract 0 d.size = d := by simp
  have hd' : d'.extract 0 d.size = d' := by rw [← hs]; simp
  rw [hd, hd'] at hp
  refine ⟨rfl, d', hp, ?_, (by first | exact holdsK_sortWorldK_c (hH := hH) (hblk := hblk) (hs := hs) .. | exact holdsK_sortWorldK Gn.L 3 w blk 0 n d d' os hblk hH hs), turn_sort _ _ _ _ _ _ _ _ hblk⟩
  rw [List.pairwise_iff_getElem]
  intro i j hi hj hij
  have hi' : i < d'.size := by simpa using hi
  have hj' : j < d'.size := by simpa using hj
  have := hso i j (Nat.zero_le _) hij (by omega)
  rw [ltG, getElem!_pos d' j hj', getElem!_pos d' i hi'] at this
  simp at this ⊢
  omega
end Go.Proofs.Ytcjhniehbafhpaa

namespace Go.Proofs.Ytcjhniehbafhpaa
open Go.RowKit Go.Maps
set_option maxRecDepth 100000
set_option linter.unusedVariables false
set_option linter.unusedSimpArgs false

def old (la pa : Int) (x : Pile) : Bool := decide (pa ≤ la - x.at_)
def stG (la pa : Int) (left : Lit → Bool) (x : Pile) : Bool := !old la pa x || left x.m.lit
def goG (la pa : Int) (left : Lit → Bool) (x : Pile) : Bool := old la pa x && !left x.m.lit
section
variable {la pa : Int} {l : List Pile} {left : Lit → Bool}
theorem st_start (h : ∀ x ∈ l, left x.m.lit = true) : l.filter (stG la pa left) = l ∧ l.filter (goG la pa left) = [] := by
  constructor
  · rw [List.filter_eq_self]
    intro x hx
    unfold stG
    rw [h x hx, Bool.or_true]
  · rw [List.filter_eq_nil_iff]
    intro x hx
    unfold goG
    rw [h x hx]
    simp
theorem st_end (h : ∀ k, left k = false) : l.filter (stG la pa left) = l.filter (fun x => !old la pa x) ∧ l.filter (goG la pa left) = l.filter (old la pa) := by
  constructor
  · exact List.filter_congr fun x _ => by unfold stG; rw [h, Bool.or_false]
  · exact List.filter_congr fun x _ => by unfold goG; rw [h]; simp
def cutL (left : Lit → Bool) (m : Mk) : Lit → Bool := fun z => left z && !z.sameKey m.lit
theorem mk_one (hn : (l.map (·.m)).Nodup) {x y : Pile} (hx : x ∈ l) (hy : y ∈ l) (e : x.m = y.m) : x = y := by
  induction l with
  | nil => cases hx
  | cons z r ih =>
    rw [List.map_cons, List.nodup_cons] at hn
    rcases List.mem_cons.1 hx with h1 | h1
    · rcases List.mem_cons.1 hy with h2 | h2
      · rw [h1, h2]
      · exact absurd (List.mem_map.2 ⟨y, h2, by rw [← h1]; exact e.symm⟩) hn.1
    · rcases List.mem_cons.1 hy with h2 | h2
      · exact absurd (List.mem_map.2 ⟨x, h1, by rw [← h2]; exact e⟩) hn.1
      · exact ih hn.2 h1 h2
theorem st_gone (hw : ∀ x ∈ l, x.m.wf) (hn : (l.map (·.m)).Nodup) {y : Pile} (hy : y ∈ l) (ho : old la pa y = true) :
    ((l.filter (stG la pa left)).map fun x => enD x.en).filter (fun p => !p.1.sameKey y.m.lit) = (l.filter (stG la pa (cutL left y.m))).map fun x => enD x.en := by
  rw [List.filter_map, List.filter_filter]
  congr 1
  refine List.filter_congr fun x hx => ?_
  have hk : x.m.lit.sameKey y.m.lit = decide (x.m = y.m) := same_mk (hw x hx) (hw y hy)
  show ((!x.m.lit.sameKey y.m.lit) && stG la pa left x) = _
  unfold stG cutL
  rw [hk]
  by_cases e : x.m = y.m
  · have := mk_one hn hx hy e
    subst this
    simp [ho]
  · simp [e]
theorem st_keep (hw : ∀ x ∈ l, x.m.wf) (hn : (l.map (·.m)).Nodup) {y : Pile} (hy : y ∈ l) (ho : old la pa y = false) :
    l.filter (stG la pa (cutL left y.m)) = l.filter (stG la pa left) ∧ l.filter (goG la pa (cutL left y.m)) = l.filter (goG la pa left) := by
  constructor
  · refine List.filter_congr fun x hx => ?_
    have hk : x.m.lit.sameKey y.m.lit = decide (x.m = y.m) := same_mk (hw x hx) (hw y hy)
    unfold stG cutL
    rw [hk]
    by_cases e : x.m = y.m
    · have := mk_one hn hx hy e
      subst this
      simp [ho]
    · simp [e]
  · refine List.filter_congr fun x hx => ?_
    have hk : x.m.lit.sameKey y.m.lit = decide (x.m = y.m) := same_mk (hw x hx) (hw y hy)
    unfold goG cutL
    rw [hk]
    by_cases e : x.m = y.m
    · have := mk_one hn hx hy e
      subst this
      simp [ho]
    · simp [e]
theorem go_gone (hw : ∀ x ∈ l, x.m.wf) (hn : (l.map (·.m)).Nodup) {y : Pile} (hy : y ∈ l) (ho : old la pa y = true) (hl : left y.m.lit = true) {gs : List Pile} (hg : gs.Perm (l.filter (goG la pa left))) :
    (gs ++ [y]).Perm (l.filter (goG la pa (cutL left y.m))) := by
  obtain ⟨a, b, rfl⟩ := List.append_of_mem hy
  have hs : ∀ x ∈ a ++ b, x.m ≠ y.m := fun x hx e => by
    rw [List.map_append, List.map_cons, List.nodup_append] at hn
    obtain ⟨n1, n2, n3⟩ := hn
    rcases List.mem_append.1 hx with h | h
    · exact n3 _ (List.mem_map_of_mem (f := fun z : Pile => z.m) h) _ (List.mem_cons_self ..) e
    · exact (List.nodup_cons.1 n2).1 (by rw [← e]; exact List.mem_map_of_mem (f := fun z : Pile => z.m) h)
  have hsame : ∀ x ∈ a ++ b, goG la pa (cutL left y.m) x = goG la pa left x := fun x hx => by
    have hk : x.m.lit.sameKey y.m.lit = decide (x.m = y.m) := same_mk (hw x (inAll hx)) (hw y hy)
    unfold goG cutL
    rw [hk, decide_eq_false (hs x hx)]
    simp
  have hy0 : goG la pa left y = false := by unfold goG; rw [hl]; simp
  have hy1 : goG la pa (cutL left y.m) y = true := by
    unfold goG cutL
    rw [ho, hl, same_mk (hw y hy) (hw y hy)]
    simp
  rw [List.filter_append, List.filter_cons_of_neg (by rw [hy0]; simp)] at hg
  rw [List.filter_append, List.filter_cons_of_pos hy1]
  rw [List.filter_congr (fun x hx => hsame x (List.mem_append_left _ hx)), List.filter_congr (l := b) (fun x hx => hsame x (List.mem_append_right _ hx))]
  exact (List.perm_append_singleton y gs).trans ((hg.cons y).trans List.perm_middle.symm)
end
theorem rg_turn {S : Nat → Prop} {w w' : World} {M r n cnt : Nat} {D : DataW Value} {left : Lit → Bool} (h : w.ranges Try.prog 77 hE M r n D left cnt) (ht : Turn S w w') (hM : ¬ S M) (hr : ¬ S r) : w'.ranges Try.prog 77 hE M r n D left cnt := by
  obtain ⟨es, clock, since, seen, c0, hb, F, hs, hD, hr', rest⟩ := h
  exact ⟨es, clock, since, seen, c0, (ht.block M (Array.getElem?_eq_some_iff.1 hb).1 hM).trans hb, F, hs, hD, (ht.block r (Array.getElem?_eq_some_iff.1 hr').1 hr).trans hr', rest⟩
theorem wpList_next_g {w : World} {ops : Array Oper} {rest : List Oper} {o : Oper} {a : Act} {Q : Exit → Act → World → Prop} (hg : o.guard = none) (it : Operand) (hop : o.op = Op.next it false) (M r n : Nat) (L : List Pile) (es : List (Lit × DataW Value)) (hw : ∀ x ∈ L, x.m.wf) (hp : es.Perm (L.map fun x => enD x.en)) (left : Lit → Bool) (cnt : Nat)
    (hit : a.eval it = .pointer (some ⟨r, 0, none⟩)) (h : w.ranges Try.prog 77 hE M r n (.map es) left cnt)
    (hDone : cnt = 0 → (∀ kl, left kl = false) → wpList Try.prog ops Q rest (a.put o.dst (.tuple #[.bool false])) w)
    (hMore : ∀ (y : Pile) (w' : World) (cnt' : Nat), y ∈ L → left y.m.lit = true → w'.ranges Try.prog 77 hE M r n (.map es) (cutL left y.m) cnt' → cnt' < cnt →
      w.grownBy w' (some r) → w'.heap.size = w.heap.size → (Instr.entry (.pointer (some ⟨r, 0, none⟩))).run Try.prog w' = .ok (.tuple #[.agg #[.int .i64 y.m.f, .int .i64 y.m.t, .int .i64 y.m.pr, .int .i64 y.m.id], .agg #[.int .i64 y.at_, .int .i64 y.tu, y.v]]) w' → wpList Try.prog ops Q rest (a.put o.dst (.tuple #[.bool true, .agg #[.int .i64 y.m.f, .int .i64 y.m.t, .int .i64 y.m.pr, .int .i64 y.m.id], .agg #[.int .i64 y.at_, .int .i64 y.tu, y.v]])) w') :
    wpList Try.prog ops Q (o :: rest) a w := by
  refine wpList_plain hg fun K' hK' => ?_
  unfold Oper.wp
  rcases h.next lawM o.type with ⟨h0, hl, hrun⟩ | ⟨key, v, kl, y, w', cnt', hkey, hlk, hv, hat, hrun, hrg, hlt, hgr, hsz, hen⟩
  · simp [execOp, hop, hit, hrun, Result.andThen]
    exact hK' _ _ (hDone h0 hl)
  · unfold hE at hv
    injection hv with hv
    subst hv
    have key' : ∃ x ∈ L, x.m.lit = kl ∧ Value.agg #[.int .i64 x.at_, .int .i64 x.tu, x.v] = v := by
      have h1 := hat (.held (.bool true))
      have h2 := hat (.held (.bool false))
      unfold DataW.atKey at h1 h2
      simp only at h1 h2
      cases hf : es.find? (fun p => p.1.sameKey kl) with
      | none =>
        rw [hf] at h1 h2
        simp only at h1 h2
        rw [← h2] at h1
        cases h1
      | some p =>
        rw [hf] at h1
        simp only at h1
        have hs := List.find?_some hf
        obtain ⟨x, hx, hq⟩ := List.mem_map.1 (hp.mem_iff.1 (List.mem_of_find?_eq_some hf))
        refine ⟨x, hx, ?_, ?_⟩
        · have := WideAt.sameKey_eq hs
          rw [← this, ← hq]
          rfl
        · rw [← hq] at h1
          have h3 : DataW.held (Value.agg #[.int .i64 x.at_, .int .i64 x.tu, x.v]) = .held v := h1
          injection h3
    obtain ⟨x, hx, e1, e2⟩ := key'
    subst e2
    subst e1
    have hk2 : key = x.m.V := lawM.inj hkey (x.m.key (hw x hx))
    subst hk2
    simp [execOp, hop, hit, hrun, Result.andThen]
    exact hK' _ _ (hMore x w' cnt' hx hlk hrg hlt hgr hsz hen)
def Pile.L (x : Pile) : List Value := [.int .i64 x.at_, .int .i64 x.tu, x.v]
def flatG (gs : List Pile) : List Value := gs.flatMap Pile.L
def GR (w : World) (R : Nat) (v : Value) (gs : List Pile) : Prop := w.ownsRow R 61 3 v gs.length (flatG gs)
theorem GR.nil (w : World) (R : Nat) : GR w R (.slice none 0 0) [] := World.ownsRow_nil _ _ _ _
theorem GR.ge {w : World} {R : Nat} {v : Value} {gs : List Pile} (h : GR w R v gs) : ∀ j, v.ownBlock = some j → R ≤ j := fun j hj => (World.ownsRow.lt h j hj).1
theorem GR.lt {w : World} {R : Nat} {v : Value} {gs : List Pile} (h : GR w R v gs) : ∀ j, v.ownBlock = some j → j < w.heap.size := fun j hj => (World.ownsRow.lt h j hj).2
theorem GR.turn {S : Nat → Prop} {w w' : World} {R : Nat} {v : Value} {gs : List Pile} (h : GR w R v gs) (ht : Turn S w w') (hS : ∀ k, v.ownBlock = some k → ¬ S k) : GR w' R v gs := by
  obtain ⟨i1, i2⟩ := h
  refine ⟨i1, ?_⟩
  rcases i2 with h | ⟨g, cap, cur, a1, a2, a3, a4⟩
  · exact Or.inl h
  · exact Or.inr ⟨g, cap, cur, a1, a2, (ht.block g (Array.getElem?_eq_some_iff.1 a3).1 (hS g (by rw [a1]; simp [Value.ownBlock]))).trans a3, a4⟩
theorem GR.later {w w' : World} {R : Nat} {v : Value} {gs : List Pile} (h : GR w R v gs) (hb : Below w.heap.size w w') : GR w' R v gs := h.turn (S := fun _ => False) (Turn.of_below hb) (fun _ _ h => h)
theorem GR.shape {w : World} {R : Nat} {v : Value} {gs : List Pile} (h : GR w R v gs) : ∃ a c, v = .slice a gs.length c := by
  rcases h.2 with ⟨rfl, h0⟩ | ⟨g, cap, cur, rfl, -⟩
  · exact ⟨none, 0, by rw [h0]⟩
  · exact ⟨_, _, rfl⟩
theorem infoX3 : (Try.prog.info? 61).map (fun i => (i.zero, i.size, i.bytes)) = some (some (.agg #[.int .i64 0, .int .i64 0, .slice none 0 0]), 3, 40) := by kernel_rfl
theorem bsG (x y : Int) (a : Option Addr) (n c : Nat) (w : World) : (Instr.buildSlice 58 1 #[(0, .agg #[.int .i64 x, .int .i64 y, .slice a n c])]).run Try.prog w = .ok (.slice (some ⟨w.heap.size, 0, none⟩) 1 1) (w.alloc (.cells #[.int .i64 x, .int .i64 y, .slice a n c] 61)) := by
  obtain ⟨i0, hi, hz0, hz1, hz2⟩ := info_parts infoX3
  refine run_buildSlice w 58 61 1 _ _ i0 _ Try.underlying58 hi hz0 (by rw [hz1]; decide) (by rw [hz1]; decide) ?_
  rw [hz1]; kernel_rfl
theorem wpList_bsliceG {w : World} {ops : Array Oper} {rest : List Oper} {op : Oper} {a : Act} {Q : Exit → Act → World → Prop} (hgd : op.guard = none) (i : Operand) (ho : op.op = .buildSlice 58 1 #[(0, i)]) (x y : Int) (sa : Option Addr) (n c : Nat) (hi : a.eval i = .agg #[.int .i64 x, .int .i64 y, .slice sa n c])
    (h : wpList Try.prog ops Q rest (a.put op.dst (.slice (some ⟨w.heap.size, 0, none⟩) 1 1)) (w.alloc (.cells #[.int .i64 x, .int .i64 y, .slice sa n c] 61))) : wpList Try.prog ops Q (op :: rest) a w := by
  refine wpList_plain hgd fun K hK => ?_
  unfold Oper.wp execOp
  have e' : (#[(0, i)].map fun (p : Nat × Operand) => (p.1, a.eval p.2)) = #[(0, .agg #[.int .i64 x, .int .i64 y, .slice sa n c])] := by simp [hi]
  simp only [ho, Sem.run_bind]
  rw [e', bsG]
  exact hK _ _ h
theorem wpList_appendG {w : World} {ops : Array Oper} {rest : List Oper} {o : Oper} {a : Act} {Q : Exit → Act → World → Prop} (hgd : o.guard = none) (s x : Operand)
    (ho : o.op = .call { callee := .builtin .append, args := #[s, x], argTypes := #[58, 58] }) (R : Nat) (v : Value) (gs : List Pile) (q : Pile) (g c : Nat) (hs : a.eval s = v) (hown : GR w R v gs) (hx : a.eval x = .slice (some ⟨g, 0, none⟩) 1 c) (hq : q.v.oneCell' = true) (hr : ∀ j u, q.L[j]? = some u → w.cell? ⟨g, j, none⟩ = some u) (hR : R ≤ w.heap.size) (hlen : gs.length < 1000000)
    (h : ∀ v' w', GR w' R v' (gs ++ [q]) → Turn (fun k => v.ownBlock = some k) w w' → wpList Try.prog ops Q rest (a.put o.dst v') w') : wpList Try.prog ops Q (o :: rest) a w := by
  obtain ⟨i0, hi, hz0, hz1, hz2⟩ := info_parts infoX3
  refine wpList_append_own _ hgd s x 58 ho R 61 i0 _ 3 40 Try.underlying58 hi hz0 hz1 hz2 rfl (by decide) v gs.length (flatG gs) hs hown ⟨g, 0, none⟩ 1 c q.L hx rfl ?_ ?_ (by unfold maxLen; omega) (by omega) hR ?_
  · intro j u hu
    rw [Addr.add_mid, Nat.zero_add]
    exact hr j u hu
  · intro u hu
    simp only [Pile.L, List.mem_cons, List.not_mem_nil, or_false] at hu
    rcases hu with rfl | rfl | rfl
    · rfl
    · rfl
    · exact hq
  · intro v' w' h1 h2 h3
    refine h v' w' ?_ (Turn.of_grown h2 (fun j hj => Or.inl hj))
    unfold GR
    rw [List.length_append, List.length_singleton]
    have : flatG (gs ++ [q]) = flatG gs ++ q.L := by simp [flatG]
    rw [this]
    exact h1
theorem flatG_at : ∀ (gs : List Pile) (i j : Nat) (x : Pile), gs[i]? = some x → j < 3 → (flatG gs)[i * 3 + j]? = x.L[j]?
  | [], i, j, x, h, _ => by simp at h
  | y :: r, i, j, x, h, hj => by
    have e : flatG (y :: r) = y.L ++ flatG r := rfl
    rw [e]
    cases i with
    | zero =>
      simp at h
      subst h
      rw [List.getElem?_append_left (by show _ < 3; omega)]
      simp
    | succ i =>
      rw [List.getElem?_append_right (by show 3 ≤ _; omega)]
      have := flatG_at r i j x (by simpa using h) hj
      rw [← this]
      congr 1
      show (i + 1) * 3 + j - 3 = _
      omega
def toG (x : Pile) : Gn := match x.v with
  | .slice a n c => ⟨x.at_, Fin.ofNat _ x.tu.toNat, a, n, c⟩
  | _ => default
theorem toG_L {x : Pile} (h0 : 0 ≤ x.tu) (h1 : x.tu < 1099511627776) {a : Option Addr} {n c : Nat} (hv : x.v = .slice a n c) : (toG x).L = x.L ∧ ((toG x).tu.val : Int) = x.tu := by
  have e : ((Fin.ofNat 1099511627776 x.tu.toNat).val : Int) = x.tu := by
    show ((x.tu.toNat % 1099511627776 : Nat) : Int) = x.tu
    omega
  unfold toG
  rw [hv]
  exact ⟨by show [Value.int .i64 x.at_, Value.int .i64 ((Fin.ofNat 1099511627776 x.tu.toNat).val : Int), Value.slice a n c] = _; rw [e]; unfold Pile.L; rw [hv], e⟩
def GS (w : World) (R : Nat) (v : Value) (gs : List Pile) : Prop := (gs = [] ∧ ∃ p c, v = .slice p 0 c) ∨ ∃ g c, v = .slice (some ⟨g, 0, none⟩) gs.length c ∧ R ≤ g ∧ g < w.heap.size ∧ ∀ i x, gs[i]? = some x → ∀ j u, x.L[j]? = some u → w.cell? ⟨g, i * 3 + j, none⟩ = some u
theorem holds_gr {w : World} {R : Nat} {g c : Nat} {gs : List Pile} (h : GR w R (.slice (some ⟨g, 0, none⟩) gs.length c) gs) (hok : ∀ x ∈ gs, 0 ≤ x.tu ∧ x.tu < 1099511627776 ∧ ∃ a n c, x.v = .slice a n c) : Go.Sort.HoldsK Gn.L 3 w g 0 (gs.map toG).toArray ∧ R ≤ g ∧ g < w.heap.size := by
  rcases h.2 with ⟨h, -⟩ | ⟨g', cap, cur, hv, hR, hb, hnc, hcm, hcs, htk⟩
  · cases h
  injection hv with e1 e2 e3
  injection e1 with e1
  injection e1 with e1
  subst e1
  refine ⟨?_, hR, (Array.getElem?_eq_some_iff.1 hb).1⟩
  intro t ht
  rw [Go.Sort.size_flatK] at ht
  rw [Go.Sort.get_flatK _ _ _ _ ht]
  simp only [List.size_toArray, List.length_map] at ht
  obtain ⟨i, j, hij, hj⟩ : ∃ i j, t = i * 3 + j ∧ j < 3 := ⟨t / 3, t % 3, by omega, by omega⟩
  subst hij
  have d1 : (i * 3 + j) / 3 = i := by omega
  have d2 : (i * 3 + j) % 3 = j := by omega
  rw [d1, d2]
  have hi : i < gs.length := by omega
  obtain ⟨x, hx⟩ : ∃ x, gs[i]? = some x := ⟨gs[i], List.getElem?_eq_getElem hi⟩
  have hget : (gs.map toG).toArray[i]! = toG x := by
    rw [getElem!_pos _ i (by simpa using hi)]
    have : gs[i] = x := by rw [List.getElem?_eq_getElem hi] at hx; injection hx
    simp [this]
  obtain ⟨k0, k1, a, n, c', hv⟩ := hok x (List.mem_of_getElem? hx)
  rw [hget, (toG_L k0 k1 hv).1]
  have hfl := flatG_at gs i j x hx hj
  rw [← htk, List.getElem?_take_of_lt (by omega)] at hfl
  have hl : x.L[j]? = some x.L[j]! := by
    have : j < x.L.length := hj
    rw [List.getElem?_eq_getElem this, getElem!_pos x.L j this]
  constructor
  · simp only [World.cell?, hb, Nat.zero_add]
    rw [hl] at hfl
    simpa using hfl
  · simp only [World.frozen?, hb]
    simp
theorem gs_holds {w : World} {R g c : Nat} {gs : List Pile} {d : Array Gn} (hH : Go.Sort.HoldsK Gn.L 3 w g 0 d) (hd : d.toList = gs.map toG) (hok : ∀ x ∈ gs, 0 ≤ x.tu ∧ x.tu < 1099511627776 ∧ ∃ a n c, x.v = .slice a n c) (hR : R ≤ g) (hg : g < w.heap.size) : GS w R (.slice (some ⟨g, 0, none⟩) gs.length c) gs := by
  refine Or.inr ⟨g, c, rfl, hR, hg, fun i x hx j u hu => ?_⟩
  have hj : j < 3 := (List.getElem?_eq_some_iff.1 hu).1
  have hi : i < gs.length := (List.getElem?_eq_some_iff.1 hx).1
  have hds : d.size = gs.length := by rw [← Array.length_toList, hd, List.length_map]
  obtain ⟨k0, k1, a, n, c', hv⟩ := hok x (List.mem_of_getElem? hx)
  have hdi : d[i]! = toG x := by
    rw [getElem!_pos d i (by omega)]
    have : d.toList[i]? = some (toG x) := by rw [hd, List.getElem?_map, hx]; rfl
    rw [Array.getElem?_toList, Array.getElem?_eq_getElem (by omega)] at this
    injection this
  have hc := (Go.Sort.HoldsK.cell hH (i := i) (c := j) (by omega) hj).1
  rw [hdi, (toG_L k0 k1 hv).1, Nat.zero_add] at hc
  have hlj : j < x.L.length := hj
  rw [List.getElem?_eq_getElem hlj] at hu
  injection hu with hu
  rw [getElem!_pos x.L j hlj, hu] at hc
  exact hc
end Go.Proofs.Ytcjhniehbafhpaa

namespace Go.Proofs.Ytcjhniehbafhpaa
open Go.Shelf Go.RowKit Go.Lib Go.Sort
set_option maxRecDepth 100000

theorem sort_none (p : Option Addr) (cap : Nat) (w : World) : Calls Try.prog 33 #[.slice p 0 cap, .func (.func 34) #[] #[]] w fun e w' => e = .returned (.tuple #[]) ∧ w' = w := by
  have hcon := AnyF.slices_SortFunc_none (P := Try.prog) (ρ := sortRen) sortLay p cap (.func (.func 34) #[] #[]) w
  change Calls Try.prog 33 _ _ _ at hcon
  exact hcon
end Go.Proofs.Ytcjhniehbafhpaa

namespace Go.Proofs.Ytcjhniehbafhpaa
open Go.RowKit Go.Maps
set_option maxRecDepth 100000
set_option linter.unusedVariables false
set_option linter.unusedSimpArgs false

theorem sort_same {l : List Pile} (hso : l.Pairwise (fun x y => x.tu < y.tu)) (htu : ∀ x ∈ l, 0 ≤ x.tu ∧ x.tu < 1099511627776) (hv : ∀ x ∈ l, ∃ a n c, x.v = .slice a n c) {d : List Gn} (hp : d.Perm (l.map toG)) (hs : d.Pairwise (fun x y => x.tu.val ≤ y.tu.val)) : d = l.map toG := by
  refine List.Perm.eq_of_pairwise (le := fun x y : Gn => x.tu.val ≤ y.tu.val) ?_ hs ?_ hp
  · intro a b ha hb h1 h2
    have hal := hp.mem_iff.1 ha
    obtain ⟨x, hx, rfl⟩ := List.mem_map.1 hal
    obtain ⟨y, hy, rfl⟩ := List.mem_map.1 hb
    obtain ⟨a1, n1, c1, v1⟩ := hv x hx
    obtain ⟨a2, n2, c2, v2⟩ := hv y hy
    have e1 := (toG_L (htu x hx).1 (htu x hx).2 v1).2
    have e2 := (toG_L (htu y hy).1 (htu y hy).2 v2).2
    have e3 : x.tu = y.tu := by omega
    have : x = y := by
      have hxy : ∀ {l : List Pile}, l.Pairwise (fun x y => x.tu < y.tu) → ∀ {x y : Pile}, x ∈ l → y ∈ l → x.tu = y.tu → x = y := by
        intro l
        induction l with
        | nil => intro _ x y hx; cases hx
        | cons z r ih =>
          intro hp x y hx hy e
          rw [List.pairwise_cons] at hp
          rcases List.mem_cons.1 hx with h1 | h1
          · rcases List.mem_cons.1 hy with h2 | h2
            · rw [h1, h2]
            · have := hp.1 y h2; rw [h1] at e; omega
          · rcases List.mem_cons.1 hy with h2 | h2
            · have := hp.1 x h1; rw [h2] at e; omega
            · exact ih hp.2 h1 h2 e
      exact hxy hso hx hy e3
    rw [this]
  · rw [List.pairwise_map]
    refine hso.imp_of_mem (fun {x y} hx hy h => ?_)
    obtain ⟨a1, n1, c1, v1⟩ := hv x hx
    obtain ⟨a2, n2, c2, v2⟩ := hv y hy
    have e1 := (toG_L (htu x hx).1 (htu x hx).2 v1).2
    have e2 := (toG_L (htu y hy).1 (htu y hy).2 v2).2
    omega
def OD (w w' : World) (R B M : Nat) (ro pa la tu : Int) (l : List Pile) (v : Value) : Prop := BX w' R B M ro pa la tu (l.filter fun x => !old la pa x) ∧ GS w' w.heap.size v (l.filter (old la pa)) ∧ (∀ x ∈ l, x.Ok w' R) ∧ Turn (fun k => k = M) w w'
theorem bx_kept {w w' : World} {R B M : Nat} {ro pa la tu : Int} {l : List Pile} (h : BX w R B M ro pa la tu l) (ht : Turn (fun k => k = M) w w') {n : Nat} {es : List (Lit × DataW Value)} (hes : es.Perm ((l.filter fun x => !old la pa x).map fun x => enD x.en)) (ho : w'.ownsMap Try.prog 77 hE M n (.map es)) : BX w' R B M ro pa la tu (l.filter fun x => !old la pa x) ∧ ∀ x ∈ l, x.Ok w' R := by
  have hok : ∀ x ∈ l, x.Ok w' R := fun x hx => (h.ok x hx).turn ht (fun k hk e => by have := (h.ok x hx).row.ge k hk; have := h.mR; omega)
  refine ⟨⟨h.box.turn ht h.ne, ⟨?_, ?_, es, ?_, ?_⟩, fun x hx => hok x (List.mem_filter.1 hx).1, h.far.filter _, h.bR, h.mR, Nat.le_trans h.rw' ht.size, h.ne⟩, hok⟩
  · intro e he
    obtain ⟨x, hx, rfl⟩ := List.mem_map.1 he
    exact h.map.1 _ (List.mem_map_of_mem (List.mem_filter.1 hx).1)
  · have := h.map.2.1
    exact List.Pairwise.sublist ((List.filter_sublist (l := l)).map Pile.en |>.map _) this
  · rw [List.map_map]; exact hes
  · have h1 := own_len ho
    rw [hes.length_eq, List.length_map] at h1
    rw [List.length_map]
    exact h1
set_option maxHeartbeats 8000000 in
theorem overdue_any {w : World} {R B M : Nat} {ro pa la tu : Int} {l : List Pile} (h : BX w R B M ro pa la tu l) (hp0 : 1 ≤ pa) (hp1 : pa ≤ 1048576) (hl0 : 0 ≤ la) (hl1 : la ≤ 1099511627776) (hat : ∀ x ∈ l, 0 ≤ x.at_ ∧ x.at_ ≤ la) (htu : ∀ x ∈ l, 0 ≤ x.tu ∧ x.tu < 1099511627776) (hso : l.Pairwise (fun x y => x.tu < y.tu)) (hlen : l.length ≤ 64) :
    Calls Try.prog 19 #[.pointer (some ⟨B, 0, none⟩)] w fun e w' => ∃ v, e = .returned v ∧ OD w w' R B M ro pa la tu l v := by
  have hw : ∀ x ∈ l, x.m.wf := fun x hx => h.map.1 x.en (List.mem_map_of_mem hx)
  have hn : (l.map (·.m)).Nodup := by have := h.map.2.1; rw [List.map_map] at this; exact this
  have hsl : ∀ x ∈ l, ∃ a n c, x.v = .slice a n c := fun x hx => by obtain ⟨a, c, e⟩ := (h.ok x hx).row.shape; exact ⟨a, _, c, e⟩
  obtain ⟨es0, hpe, ho⟩ := h.map.2.2
  have hall : ∀ x ∈ l, Maps.has (.map es0) x.m.lit = true := fun x hx => by
    rw [has_iff, es_find h.map.1 h.map.2.1 hpe (hw x hx), glk_of h.map.2.1 (v := x.en.2) (List.mem_map_of_mem hx)]
    rfl
  rw [List.map_map] at hpe
  rw [List.length_map] at ho
  have hbM : B ≠ M := h.ne
  have hbw := h.box.1
  have hmw := h.map.lt
  have hMR := h.mR
  have hRw := h.rw'
  have HX : Hid (BX w R B M ro pa la tu l) := h
  have HW : Hid (∀ x ∈ l, x.m.wf) := hw
  have HNo : Hid ((l.map (·.m)).Nodup) := hn
  have HSL : Hid (∀ x ∈ l, ∃ a n c, x.v = .slice a n c) := hsl
  have HAT : Hid (∀ x ∈ l, 0 ≤ x.at_ ∧ x.at_ ≤ la) := hat
  have HTU : Hid (∀ x ∈ l, 0 ≤ x.tu ∧ x.tu < 1099511627776) := htu
  have HSO : Hid (l.Pairwise (fun x y => x.tu < y.tu)) := hso
  have HS0 : Hid (l.filter (stG la pa (Maps.has (.map es0))) = l ∧ l.filter (goG la pa (Maps.has (.map es0))) = []) := st_start hall
  have HP0 : Hid (es0.Perm (l.map (enD ∘ Pile.en))) := hpe
  have c4 := (h.box.2 4 _ rfl).1
  clear h hw hn hsl hat htu hso hall hpe
  go_enter Try.func19, Try.ntmps19
  go_wp2_with (first
    | (at_range; refine wpList_range_own _ rfl _ 54 rfl 77 61 lawM Try.underlying54 _ M l.length _ rfl ho ?_; intro w0 hrg0 hgr0 hs0)
    | go_in)
  go_frame
  go_loopw [3] (fun vg wr => ∃ (left : Lit → Bool) (cnt : Nat) (es : List (Lit × DataW Value)) (gs : List Pile) (vz : Value), vg = vz ∧ wr.ranges Try.prog 77 hE M w.heap.size l.length (.map es) left cnt ∧ es.Perm ((l.filter (stG la pa left)).map fun x => enD x.en) ∧ gs.Perm (l.filter (goG la pa left)) ∧ GR wr (w.heap.size + 1) vz gs ∧ Turn (fun k => k = M) w wr)
    (fun _ wr => wr.rangeLeft M w.heap.size)
  case atStart => exact ⟨_, _, es0, [], _, rfl, hrg0, by rw [HS0.out.1]; exact HP0.out, by rw [HS0.out.2], GR.nil _ _, Turn.of_grown hgr0 (fun j h => by cases h)⟩
  case round =>
    clear HS0 HP0 ho
    obtain ⟨left, cnt, es, gs, vz, rfl, hrg, hes, hgs, hGR, ht⟩ := hrel
    have hsz := ht.size
    have hrl := hrg.lt
    go_wp2_with (first
      | (at_next; refine wpList_next_g rfl _ rfl M w.heap.size l.length (l.filter (stG la pa left)) es (fun x hx => HW.out x (List.mem_filter.1 hx).1) hes left cnt rfl hrg ?_ ?_)
      | go_in)
    · intro _ hl9
      have hbk := bx_kept HX.out ht (by rw [← (st_end (la := la) (pa := pa) (l := l) hl9).1]; exact hes) hrg.owns
      have hgp : gs.Perm (l.filter (old la pa)) := by rw [← (st_end (la := la) (pa := pa) (l := l) hl9).2]; exact hgs
      have HBK : Hid (BX wr R B M ro pa la tu (l.filter fun x => !old la pa x) ∧ ∀ x ∈ l, x.Ok wr R) := hbk
      have HGP : Hid (gs.Perm (l.filter (old la pa))) := hgp
      have hgin : ∀ x ∈ gs, x ∈ l := fun x hx => (List.mem_filter.1 (hgp.mem_iff.1 hx)).1
      have hgl : gs.length ≤ 64 := by rw [hgp.length_eq]; exact Nat.le_trans (List.length_filter_le _ _) hlen
      have HOK : Hid (∀ x ∈ gs, 0 ≤ x.tu ∧ x.tu < 1099511627776 ∧ ∃ a n c, x.v = .slice a n c) := fun x hx => ⟨(HTU.out x (hgin x hx)).1, (HTU.out x (hgin x hx)).2, HSL.out x (hgin x hx)⟩
      clear hbk hgp hgin hes hgs hrg hl9
      rcases Nat.eq_zero_or_pos gs.length with hg0 | hg0
      · have hgn := List.length_eq_zero_iff.1 hg0
        subst hgn
        obtain ⟨p, c, hu3⟩ := hGR.shape
        subst hu3
        go_wp2_with fail
        refine (sort_none p c wr).mono ?_
        rintro e w2 ⟨rfl, rfl⟩
        go_wp2
        go_ret
        exact ⟨_, rfl, HBK.out.1, Or.inl ⟨(List.Perm.nil_eq HGP.out).symm, p, c, rfl⟩, HBK.out.2, ht⟩
      · obtain ⟨p, c, hu3⟩ := hGR.shape
        subst hu3
        obtain ⟨g, hpg⟩ : ∃ g, p = some ⟨g, 0, none⟩ := by
          rcases hGR.2 with ⟨e, h0⟩ | ⟨g, cap, cur, e, -⟩
          · omega
          · injection e with e1; exact ⟨g, e1⟩
        subst hpg
        obtain ⟨hH, hgR, hglt⟩ := holds_gr hGR HOK.out
        have hds : (gs.map toG).toArray.size = gs.length := by simp
        have hcon := sort_any g c (gs.map toG).toArray wr hH hglt (by rw [hds]; omega)
        rw [hds] at hcon
        clear hH hGR
        go_wp2_with fail
        refine hcon.mono ?_
        rintro e w2 ⟨rfl, d', hper, hsor, hH2, ht2⟩
        have hd' : d'.toList = (l.filter (old la pa)).map toG := sort_same (HSO.out.filter _) (fun x hx => HTU.out x (List.mem_filter.1 hx).1) (fun x hx => HSL.out x (List.mem_filter.1 hx).1) (hper.trans (HGP.out.map toG)) hsor
        have hgs2 := gs_holds (R := w.heap.size) (c := c) hH2 hd' (fun x hx => ⟨(HTU.out x (List.mem_filter.1 hx).1).1, (HTU.out x (List.mem_filter.1 hx).1).2, HSL.out x (List.mem_filter.1 hx).1⟩) (by omega) (by have := ht2.size; omega)
        rw [← HGP.out.length_eq] at hgs2
        have HG2 : Hid (GS w2 w.heap.size (.slice (some ⟨g, 0, none⟩) gs.length c) (l.filter (old la pa))) := hgs2
        have hb2 := HBK.out.1.turn ht2 (by have := HX.out.bR; omega) (by omega) (fun x hx k hk e => by have := (HX.out.ok x (List.mem_filter.1 hx).1).row.lt k hk; omega)
        have hok2 : ∀ x ∈ l, x.Ok w2 R := fun x hx => (HBK.out.2 x hx).turn ht2 (fun k hk e => by have := (HX.out.ok x hx).row.lt k hk; omega)
        have htt := ht.step ht2 (fun k e => Or.inr (by omega))
        have HF : Hid (BX w2 R B M ro pa la tu (l.filter fun x => !old la pa x) ∧ (∀ x ∈ l, x.Ok w2 R) ∧ Turn (fun k => k = M) w w2) := ⟨hb2, hok2, htt⟩
        clear hcon hH2 hd' hgs2 hb2 hok2 htt hper hsor
        go_wp2
        go_ret
        exact ⟨_, rfl, HF.out.1, HG2.out, HF.out.2.1, HF.out.2.2⟩
    · intro y w1 cnt1 hyl hst hly hrg1 hlt hgr1 hs1 hen
      clear hst
      have hw1 : w.heap.size + 1 ≤ w1.heap.size := by omega
      have hw2 : wr.heap.size ≤ w1.heap.size := by omega
      have hw3 : w1.heap.size ≤ wr.heap.size := by omega
      clear hs1
      obtain ⟨va0, n0, vc, hv0⟩ := HSL.out y hyl
      have hwm := HW.out y hyl
      obtain ⟨hat0, hat1⟩ := HAT.out y hyl
      have hro := (HX.out.ok y hyl).row
      obtain ⟨m, at_, tx, v, ps⟩ := y
      simp only at hv0 hwm hat0 hat1 hro hly hrg1 hen
      obtain ⟨va, vc, hv1⟩ := hro.shape
      subst hv1
      simp only
      clear hv0 hro va0 n0
      have HYL : Hid ((⟨m, at_, tx, .slice va ps.length vc, ps⟩ : Pile) ∈ l) := hyl
      have HLY : Hid (left m.lit = true) := hly
      have ht1 : Turn (fun k => k = M) w w1 := ht.and hgr1 (fun j h => by cases h; exact Or.inr (Nat.le_refl _))
      have hGR1 := hGR.turn (Turn.of_grown (S := fun k => k = w.heap.size) hgr1 (fun j hj => by cases hj; exact Or.inl rfl)) (fun k hk e => by have := hGR.ge k hk; omega)
      have hbx1 := HX.out.box.turn ht1 hbM
      clear hyl hly hGR ht
      have HGK : Hid (∀ k, u3.ownBlock = some k → ¬ (k = w1.heap.size)) := fun k hk e => by have := hGR1.lt k hk; omega
      have hAk := (At.box w1 #[.int .i64 0, .int .i64 0, .int .i64 0, .int .i64 0] 77).later (bel1 (w1.alloc (.cells #[.int .i64 0, .int .i64 0, .int .i64 0, .int .i64 0] 77)) (.cells #[.int .i64 0, .int .i64 0, .slice none 0 0] 61))
      have hAx := At.box2 w1 (.cells #[.int .i64 0, .int .i64 0, .int .i64 0, .int .i64 0] 77) #[.int .i64 0, .int .i64 0, .slice none 0 0] 61
      have qa := bt (bel1 w1 (.cells #[.int .i64 0, .int .i64 0, .int .i64 0, .int .i64 0] 77)) (bel1 (w1.alloc (.cells #[.int .i64 0, .int .i64 0, .int .i64 0, .int .i64 0] 77)) (.cells #[.int .i64 0, .int .i64 0, .slice none 0 0] 61))
      go_upto_region 5 with (first
        | (refine wpList_store_at rfl 77 _ _ rfl _ w1.heap.size #[.int .i64 0, .int .i64 0, .int .i64 0, .int .i64 0] #[.int .i64 m.f, .int .i64 m.t, .int .i64 m.pr, .int .i64 m.id] rfl rfl hAk rfl infoM (by simp [Value.oneCell']) ?_; intro w2 hK2 ht2; have hAx2 := hAx.turn ht2 (by omega))
        | (refine wpList_store_at rfl 61 _ _ rfl _ (w1.heap.size + 1) #[.int .i64 0, .int .i64 0, .slice none 0 0] #[.int .i64 at_, .int .i64 tx, .slice va ps.length vc] rfl rfl hAx2 rfl infoX (by simp [Value.oneCell']) ?_; intro w3 hX3 ht3)
        | go_in)
      have hK3 := hK2.turn ht3 (by omega)
      have q3 : Below w1.heap.size w1 w3 := (qa.trans (below_turn ht2 (Nat.le_refl _) qa.size)).trans (below_turn ht3 (Nat.le_succ _) (Nat.le_trans qa.size ht2.size))
      have hbx3 := hbx1.later q3
      have hGR3 := hGR1.later q3
      have ht3' := ht1.later q3
      have hrg3 := rg_turn hrg1 (Turn.of_below (S := fun _ => False) q3) (fun h => h) (fun h => h)
      have hs3 := q3.size
      clear hAk hAx hAx2 qa ht2 ht3 hK2 hbx1 hGR1 ht1 hrg1 q3
      obtain ⟨b1, -⟩ := hbx3.2 1 _ rfl
      obtain ⟨b2, -⟩ := hbx3.2 2 _ rfl
      have x0 := (hX3.2 0 _ rfl).1
      have hwr : IntKind.i64.wrap (la - at_) = la - at_ := by rw [IntKind.wrap_i64]; omega
      go_quiet (fail)
      have qd : Below w3.heap.size w3 (w3.drewN nq) := below_drewN (Below.refl _ _) nq
      replace hbx3 := hbx3.later qd
      replace hGR3 := hGR3.later qd
      replace ht3' := ht3'.later qd
      replace hrg3 := rg_turn hrg3 (Turn.of_below (S := fun _ => False) qd) (fun h => h) (fun h => h)
      replace hK3 := hK3.later qd
      replace hX3 := hX3.later qd
      have hs4 := qd.size
      clear qd b1 b2 x0
      by_cases hq : pa ≤ la - at_
      · have hold : old la pa ⟨m, at_, tx, .slice va ps.length vc, ps⟩ = true := decide_eq_true hq
        have HOLD : Hid (old la pa ⟨m, at_, tx, .slice va ps.length vc, ps⟩ = true) := hold
        clear hold
        go_upto_region 6 with fail
        generalize w3.drewN nq = w4 at *
        have hGA := hGR3.later (bel1 w4 (.cells #[.int .i64 at_, .int .i64 tx, .slice va ps.length vc] 61))
        have hRl : w.heap.size + 1 ≤ (w4.alloc (.cells #[.int .i64 at_, .int .i64 tx, .slice va ps.length vc] 61)).heap.size := by have := (bel1 w4 (.cells #[.int .i64 at_, .int .i64 tx, .slice va ps.length vc] 61)).size; omega
        have hgl : gs.length < 1000000 := by rw [hgs.length_eq]; have := List.length_filter_le (goG la pa left) l; omega
        have HNW : Hid (∀ j u, (⟨m, at_, tx, .slice va ps.length vc, ps⟩ : Pile).L[j]? = some u → (w4.alloc (.cells #[.int .i64 at_, .int .i64 tx, .slice va ps.length vc] 61)).cell? ⟨w4.heap.size, j, none⟩ = some u) := fun j u hu => ((At.box w4 #[.int .i64 at_, .int .i64 tx, .slice va ps.length vc] 61).2 j u (by rw [List.getElem?_toArray]; exact hu)).1
        go_upto_region 7 with (first
          | (refine wpList_load_at rfl 61 _ rfl _ (w1.heap.size + 1) #[.int .i64 at_, .int .i64 tx, .slice va ps.length vc] _ rfl hX3 Try.underlying61 infoX ?_)
          | (refine wpList_bsliceG rfl _ rfl at_ tx va ps.length vc rfl ?_)
          | (at_builtin; refine wpList_appendG rfl _ _ rfl (w.heap.size + 1) u3 gs ⟨m, at_, tx, .slice va ps.length vc, ps⟩ w4.heap.size 1 rfl hGA rfl rfl HNW.out hRl hgl ?_; intro vg' w6 hG6 ht6)
          | go_in)
        have q5 := bel1 w4 (.cells #[.int .i64 at_, .int .i64 tx, .slice va ps.length vc] 61)
        have hbx6 := (hbx3.later q5).turn ht6 (fun e => by have := hGA.ge _ e; omega)
        have hK6 := (hK3.later q5).turn ht6 (fun e => HGK.out _ e rfl)
        have hrg6 := rg_turn (rg_turn hrg3 (Turn.of_below (S := fun _ => False) q5) (fun h => h) (fun h => h)) ht6 (fun e => by have := hGA.ge _ e; omega) (fun e => by have := hGA.ge _ e; omega)
        have ht6' : Turn (fun k => k = M) w w6 := (ht3'.later q5).step ht6 (fun k e => Or.inr (by have := hGA.ge _ e; omega))
        obtain ⟨W3, cnt3, hr3, hrg7, hle3, hmt⟩ := World.ranges.drop (w := w6.drew) hrg6 lawM Try.underlying54 (m.key hwm) 0
        have hr3' : (Builtin.delete_ #[54, 77] 0 #[.map (some M), .agg #[.int .i64 m.f, .int .i64 m.t, .int .i64 m.pr, .int .i64 m.id]]).run Try.prog w6.drew = .ok (.tuple #[]) W3 := hr3
        have ht7 : Turn (fun k => k = M) w6 W3 := (Turn.of_grown hmt.grown (fun j hj => by cases hj; exact Or.inl rfl) : Turn (fun k => k = M) w6.drew W3).undrew
        have hG7 := hG6.turn ht7 (fun k hk e => by have := hG6.ge k hk; omega)
        have ht7' := ht6'.trans ht7
        have hlf : (fun x => cutL left m x && !x.sameKey m.lit) = cutL left m := by unfold cutL; exact Maps.strike_twice _ _
        rw [hlf] at hrg7
        have HRG : Hid (W3.ranges Try.prog 77 hE M w.heap.size l.length (.map (es.filter fun p => !p.1.sameKey m.lit)) (cutL left m) cnt3) := hrg7
        have HES : Hid ((es.filter fun p => !p.1.sameKey m.lit).Perm ((l.filter (stG la pa (cutL left m))).map fun x => enD x.en)) := (hes.filter _).trans (by rw [st_gone (y := ⟨m, at_, tx, .slice va ps.length vc, ps⟩) HW.out HNo.out HYL.out HOLD.out])
        have HGS : Hid ((gs ++ [(⟨m, at_, tx, .slice va ps.length vc, ps⟩ : Pile)]).Perm (l.filter (goG la pa (cutL left m)))) := go_gone (y := ⟨m, at_, tx, .slice va ps.length vc, ps⟩) HW.out HNo.out HYL.out HOLD.out HLY.out hgs
        have HGR : Hid (GR W3 (w.heap.size + 1) vg' (gs ++ [(⟨m, at_, tx, .slice va ps.length vc, ps⟩ : Pile)])) := hG7
        have HT : Hid (Turn (fun k => k = M) w W3) := ht7'
        have HM1 : Hid (W3.rangeLeft M w.heap.size < wr.rangeLeft M w.heap.size) := by
          show _ < _
          rw [hrg7.left_eq, hrg.left_eq]; omega
        have g4 : w6.cell? ⟨B, 4, none⟩ = some (.map (some M)) := (hbx6.2 4 _ rfl).1
        have m0 : w6.cell? ⟨w1.heap.size, 0, none⟩ = some (.int .i64 m.f) := (hK6.2 0 _ rfl).1
        have m1 : w6.cell? ⟨w1.heap.size, 1, none⟩ = some (.int .i64 m.t) := (hK6.2 1 _ rfl).1
        have m2 : w6.cell? ⟨w1.heap.size, 2, none⟩ = some (.int .i64 m.pr) := (hK6.2 2 _ rfl).1
        have m3 : w6.cell? ⟨w1.heap.size, 3, none⟩ = some (.int .i64 m.id) := (hK6.2 3 _ rfl).1
        clear hr3 hrg7 hmt ht7 hG7 ht7' hlf hG6 ht6 hbx6 hK6 hrg6 ht6' hGA q5 hrg3 hGR3 hbx3 hX3 hK3 ht3' hes hgs hrg HNW
        go_region
        go_wp2
        go_roundw
        case rel => exact ⟨_, _, _, _, vg', rfl, HRG.out, HES.out, HGS.out, HGR.out, HT.out⟩
        case measure => exact HM1.out
      · have hold : old la pa ⟨m, at_, tx, .slice va ps.length vc, ps⟩ = false := decide_eq_false hq
        have hkp := st_keep (left := left) (y := ⟨m, at_, tx, .slice va ps.length vc, ps⟩) HW.out HNo.out HYL.out hold
        have HES : Hid (es.Perm ((l.filter (stG la pa (cutL left m))).map fun x => enD x.en)) := by show List.Perm _ _; rw [hkp.1]; exact hes
        have HGS : Hid (gs.Perm (l.filter (goG la pa (cutL left m)))) := by show List.Perm _ _; rw [hkp.2]; exact hgs
        have HM1 : Hid ((w3.drewN nq).rangeLeft M w.heap.size < wr.rangeLeft M w.heap.size) := by
          show _ < _
          rw [hrg3.left_eq, hrg.left_eq]; exact hlt
        have HRG : Hid ((w3.drewN nq).ranges Try.prog 77 hE M w.heap.size l.length (.map es) (cutL left m) cnt1) := hrg3
        have hq2 : la - at_ < pa := by omega
        have hq3 : decide (pa ≤ la - at_) = false := decide_eq_false hq
        clear hold hkp hes hgs hrg hrg3
        go_wp2
        go_roundw
        case rel => exact ⟨_, _, _, _, _, rfl, HRG.out, HES.out, HGS.out, hGR3, ht3'⟩
        case measure => exact HM1.out
end Go.Proofs.Ytcjhniehbafhpaa
