/- the texts KFl, KFm, KFn, KFo, in part, merged by program -/
import Derived.Test.YthjbmloemmggaaaGreatDoorProg
import Derived.Test.YthjbmloemmggaaaGreatDoorRows
import Derived.WalkKit
import Derived.WalkSpells
import Derived.Maps.RangeWalk
import Derived.Maps.OwnSet
import Derived.Maps.Ext
import Derived.Maps.Keyed
import Derived.DeepKeys4
import Derived.WalkSmall
import Derived.Deep.Cut
import Derived.Deep.CutRange
import Derived.Deep.MidRow
import Derived.Deep.QuietTactic
import Derived.BigQuiet
import Derived.Deep.RegionWith
import Derived.OwnWalk
import Derived.Laws.CopyRow
import Derived.Shelf.Spec.SlicesInsert
import Derived.Lib.AppendZerosOnto
import Derived.Maps.AppendAt
import Derived.Lib.Overlaps
import Derived.Shelf.Strings.BuilderK
import Derived.Laws.OwnMore
import Derived.Laws.AppendOwn
import Derived.Laws.AppendOwnNone
import Derived.Carry
import Derived.Deep.RegionHeld3
import Derived.LoopN
import Derived.Test.YthjbmloemmggaaaGreatDoorMA01
import Derived.Test.YthjbmloemmggaaaGreatDoorMA04
import Derived.Test.YthjbmloemmggaaaGreatDoorMA07
import Derived.Test.YthjbmloemmggaaaGreatDoorMA08
import Derived.Test.YthjbmloemmggaaaGreatDoorMA09
import Derived.Test.YthjbmloemmggaaaGreatDoorMA10
namespace Go.Proofs.YthjbmloemmggaaaGreatDoor.Ip
open Go.RowKit Go.Maps
set_option maxRecDepth 100000
set_option linter.unusedVariables false
set_option linter.unusedSimpArgs false

def catL (ps : List Pk) : List UInt8 := ps.flatMap (fun q => q.da.data.toList)
theorem isB_later {T e : TypeId} {B b : Nat} {bs : List Value} {w x : World} (h : Lib.IsBuilderF T e B b bs w) (hb : Below w.heap.size w x) : Lib.IsBuilderF T e B b bs x := by
  have go : ∀ p, Lib.BuilderAtF T e B b p bs w → Lib.BuilderAtF T e B b p bs x := fun p h => by
    obtain ⟨hB, v, hh, ⟨hl, hown⟩, hne⟩ := h
    refine ⟨hB, v, (hb.block b (Array.getElem?_eq_some_iff.1 hh).1).trans hh, ⟨hl, ?_⟩, hne⟩
    rcases hown with h | ⟨g, cap, cur, fz, e1, e2, e3, e4⟩
    · exact Or.inl h
    · exact Or.inr ⟨g, cap, cur, fz, e1, e2, (hb.block g (Array.getElem?_eq_some_iff.1 e3).1).trans e3, e4⟩
  rcases h with h | h
  · exact Or.inl (go _ h)
  · exact Or.inr (go _ h)
theorem cells_setCells (b : Nat) (t : TypeId) (f : Nat × Nat) : ∀ (vs : List Value) (o : Nat) (w : World) (c : Array Value), w.heap[b]? = some (.cells c t f) → ∃ c' : Array Value, c'.size = c.size ∧ (w.setCells b o vs).heap[b]? = some (.cells c' t f)
  | [], _, _, c, h => ⟨c, rfl, h⟩
  | v :: vs, o, w, c, h => by
    rw [World.setCells, setCell_eq_setRow w b o c t f v h]
    obtain ⟨c', h1, h2⟩ := cells_setCells b t f vs (o + 1) _ (c.setIfInBounds o v) (setRow_heap w b c _ t f h)
    exact ⟨c', by rw [h1]; simp, h2⟩
theorem box_form {W : World} {b : Nat} {c vs : Array Value} {t : TypeId} {f : Nat × Nat} (hA : At W b vs) (h : W.heap[b]? = some (.cells c t f)) (hs : c.size = vs.size) : W.heap[b]? = some (.cells vs t f) := by
  have : c = vs := by
    apply Array.ext hs
    intro i h1 h2
    have := (hA.2 i vs[i] (Array.getElem?_eq_getElem h2)).1
    simp [World.cell?, h] at this
    rw [Array.getElem?_eq_getElem h1] at this
    injection this
  rw [← this]
  exact h
theorem wpList_store_box {ops : Array Oper} {rest : List Oper} {op : Oper} {a : Act} {Q : Exit → Act → World → Prop} (hgd : op.guard = none) (ty : TypeId) (x y : Operand) (ho : op.op = .store ty x y) (w : World) (b : Nat) (old vs : Array Value) (t : TypeId) (hx : a.eval x = .pointer (some ⟨b, 0, none⟩)) (hy : a.eval y = .agg vs) (hA : At w b old) (hH : w.heap[b]? = some (.cells old t (0, 0))) (hzs : old.size = vs.size) (hi : (Tryz.prog.info? ty).map (·.size) = some vs.size) (h1 : vs.all (·.oneCell') = true)
    (h : ∀ w', At w' b vs → w'.heap[b]? = some (.cells vs t (0, 0)) → Turn (fun k => k = b) w w' → wpList Tryz.prog ops Q rest (a.put op.dst undef) w') : wpList Tryz.prog ops Q (op :: rest) a w := by
  refine wpList_store_mid hgd ty x y ho b 0 vs hx hy (by rw [← hzs]; exact at_there hA) hi h1 ?_
  obtain ⟨c', k1, k2⟩ := cells_setCells b t (0, 0) vs.toList 0 w old hH
  exact h _ (at_whole hA hzs) (box_form (at_whole hA hzs) k2 (by rw [k1]; exact hzs)) (turn_setCells b _ _ _)
theorem turn_ge {B : Nat} {w w' : World} (h : Below B w w') : Turn (fun k => B ≤ k) w w' := ⟨h.os, h.tape, h.output, h.size, fun k _ hs => h.block k (by omega)⟩
theorem catL_take {ps : List Pk} {j : Nat} {q : Pk} (he : ps[j]? = some q) : catL (ps.take (j + 1)) = catL (ps.take j) ++ q.da.data.toList := by
  unfold catL
  rw [List.take_add_one, he, List.flatMap_append]
  simp
set_option maxHeartbeats 4000000 in
theorem whole_any (ps : List Pk) (q0 : Pk) (at_ tu : Int) (v : Value) (R : Nat) (w : World) (hr : RW w R v ps) (hn : ps.length < 100) (h0 : ps[0]? = some q0) (hk : ∀ q ∈ ps, q.Fine) :
    Calls Tryz.prog 58 #[.agg #[.int .i64 at_, .int .i64 tu, v]] w fun e w' => e = .returned (.agg #[.int .i64 q0.f, .int .i64 q0.t, .int .i64 q0.tl, .int .i64 q0.pr, .int .i64 q0.id, .int .i64 q0.fr, .bool false, .bool q0.dn, .string q0.op, .string ⟨(catL ps).toArray⟩]) ∧ Below w.heap.size w w' := by
  have hne : ps ≠ [] := fun e => by rw [e] at h0; cases h0
  obtain ⟨g, c, cur, rfl, -⟩ := hr.real hne
  have hX := ((At.box w #[.int .i64 at_, .int .i64 tu, .slice (some ⟨g, 0, none⟩) ps.length c] 115).later (bel1 _ (.cells #[.int .i64 0, .int .i64 0, .int .i64 0, .int .i64 0, .int .i64 0, .int .i64 0, .bool false, .bool false, .string ⟨#[]⟩, .string ⟨#[]⟩] 23))).later (bel1 _ (.cells #[.pointer none, .slice none 0 0] 145))
  have hZ := (At.box2 w (.cells #[.int .i64 at_, .int .i64 tu, .slice (some ⟨g, 0, none⟩) ps.length c] 115) #[.int .i64 0, .int .i64 0, .int .i64 0, .int .i64 0, .int .i64 0, .int .i64 0, .bool false, .bool false, .string ⟨#[]⟩, .string ⟨#[]⟩] 23).later (bel1 _ (.cells #[.pointer none, .slice none 0 0] 145))
  have hl := bt (bt (bel1 w (.cells #[.int .i64 at_, .int .i64 tu, .slice (some ⟨g, 0, none⟩) ps.length c] 115)) (bel1 _ (.cells #[.int .i64 0, .int .i64 0, .int .i64 0, .int .i64 0, .int .i64 0, .int .i64 0, .bool false, .bool false, .string ⟨#[]⟩, .string ⟨#[]⟩] 23))) (bel1 _ (.cells #[.pointer none, .slice none 0 0] 145))
  have hB0 : Lib.IsBuilderF 145 5 (w.heap.size + 1 + 1) (w.heap.size + 1 + 1) (Lib.byteCells []) (((w.alloc (.cells #[.int .i64 at_, .int .i64 tu, .slice (some ⟨g, 0, none⟩) ps.length c] 115)).alloc (.cells #[.int .i64 0, .int .i64 0, .int .i64 0, .int .i64 0, .int .i64 0, .int .i64 0, .bool false, .bool false, .string ⟨#[]⟩, .string ⟨#[]⟩] 23)).alloc (.cells #[.pointer none, .slice none 0 0] 145)) := by
    have := Lib.IsBuilderF.of (Lib.fresh_isBuilder 145 5 ((w.alloc (.cells #[.int .i64 at_, .int .i64 tu, .slice (some ⟨g, 0, none⟩) ps.length c] 115)).alloc (.cells #[.int .i64 0, .int .i64 0, .int .i64 0, .int .i64 0, .int .i64 0, .int .i64 0, .bool false, .bool false, .string ⟨#[]⟩, .string ⟨#[]⟩] 23)))
    rw [World.size_alloc, World.size_alloc] at this
    exact this
  have hs0 : w.heap.size + 1 + 1 < (((w.alloc (.cells #[.int .i64 at_, .int .i64 tu, .slice (some ⟨g, 0, none⟩) ps.length c] 115)).alloc (.cells #[.int .i64 0, .int .i64 0, .int .i64 0, .int .i64 0, .int .i64 0, .int .i64 0, .bool false, .bool false, .string ⟨#[]⟩, .string ⟨#[]⟩] 23)).alloc (.cells #[.pointer none, .slice none 0 0] 145)).heap.size := by simp
  have hr0 := hr.later hl
  have hgl : g < w.heap.size := hr.lt g (by simp [Value.ownBlock])
  have HK : Hid (∀ q ∈ ps, q.Fine) := hk
  have H0 : Hid (ps[0]? = some q0) := h0
  clear hr hk h0 hne
  obtain ⟨B, hB⟩ : ∃ B, B = w.heap.size + 1 + 1 := ⟨_, rfl⟩
  rw [← hB] at hB0 hs0
  go_enter Tryz.func58, Tryz.ntmps58
  go_upto_region 2 with fail
  generalize ((w.alloc (.cells #[.int .i64 at_, .int .i64 tu, .slice (some ⟨g, 0, none⟩) ps.length c] 115)).alloc (.cells #[.int .i64 0, .int .i64 0, .int .i64 0, .int .i64 0, .int .i64 0, .int .i64 0, .bool false, .bool false, .string ⟨#[]⟩, .string ⟨#[]⟩] 23)).alloc (.cells #[.pointer none, .slice none 0 0] 145) = W0 at *
  rw [← hB]
  have hwB : w.heap.size + 1 < B := by omega
  clear hB
  have x2 := (hX.2 2 _ rfl).1
  go_wp2
  go_loopw [10] (fun s10 W => ∃ j : Nat, j ≤ ps.length ∧ s10 = .int .i64 (j : Int) ∧ Lib.IsBuilderF 145 5 B B (Lib.byteCells (catL (ps.take j))) W ∧ Below B W0 W ∧ (catL (ps.take j)).length ≤ 65535 * j) (fun s10 _ => ps.length - (intOf s10).toNat)
  case atStart => exact ⟨0, Nat.zero_le _, rfl, hB0, Below.refl _ _, Nat.le_refl _⟩
  case round =>
    clear hB0
    obtain ⟨j, hj, rfl, hB, hb, hln⟩ := hrel
    have hBw : B < wr.heap.size := Nat.lt_of_lt_of_le hs0 hb.size
    have hrw := hr0.turn (turn_ge hb) (fun k hk e => by simp [Value.ownBlock] at hk; omega)
    by_cases hlt : j < ps.length
    · obtain ⟨q, he⟩ : ∃ q, ps[j]? = some q := ⟨_, List.getElem?_eq_getElem hlt⟩
      have hrg : wr.rangeAt g (j * 10) [.int .i64 q.f, .int .i64 q.t, .int .i64 q.tl, .int .i64 q.pr, .int .i64 q.id, .int .i64 q.fr, .bool q.mo, .bool q.dn, .string q.op, .string q.da] := fun i u hu => hrw.cells he i u hu
      have hq := HK.out q (List.mem_of_getElem? he)
      have hcat := catL_take he
      have HCT : Hid (catL (ps.take (j + 1)) = catL (ps.take j) ++ q.da.data.toList) := hcat
      have hlt' : (j : Int) < (ps.length : Int) := by omega
      have hone := oneQ q
      have hdl := hq.dl
      clear he hcat x2
      go_upto_region 5 with (first
        | (refine wpList_load_mid rfl 23 _ rfl g (j * 10) (by first | rfl | simp) _ _ hrg Tryz.underlying23 rfl (by kernel_rfl) ?_)
        | (refine wpList_store_at rfl 23 _ _ rfl _ wr.heap.size #[.int .i64 0, .int .i64 0, .int .i64 0, .int .i64 0, .int .i64 0, .int .i64 0, .bool false, .bool false, .string ⟨#[]⟩, .string ⟨#[]⟩] #[.int .i64 q.f, .int .i64 q.t, .int .i64 q.tl, .int .i64 q.pr, .int .i64 q.id, .int .i64 q.fr, .bool q.mo, .bool q.dn, .string q.op, .string q.da] rfl rfl (At.box wr #[.int .i64 0, .int .i64 0, .int .i64 0, .int .i64 0, .int .i64 0, .int .i64 0, .bool false, .bool false, .string ⟨#[]⟩, .string ⟨#[]⟩] 23) rfl (by kernel_rfl) hone ?_; intro w1 hB1 ht1)
        | go_in)
      have q1 : Below wr.heap.size wr w1 := (bel1 wr (.cells #[.int .i64 0, .int .i64 0, .int .i64 0, .int .i64 0, .int .i64 0, .int .i64 0, .bool false, .bool false, .string ⟨#[]⟩, .string ⟨#[]⟩] 23)).trans (ht1.below (bel1 wr (.cells #[.int .i64 0, .int .i64 0, .int .i64 0, .int .i64 0, .int .i64 0, .int .i64 0, .bool false, .bool false, .string ⟨#[]⟩, .string ⟨#[]⟩] 23)).size (fun k hk e => by omega))
      have r9 := (hB1.2 9 _ rfl).1
      have hB2 := isB_later hB q1
      have hbl : (Lib.byteCells (catL (ps.take j))).length + q.da.size ≤ 140737488355328 := by rw [Lib.byteCells_length]; omega
      have hcon := write_any B B (Lib.byteCells (catL (ps.take j))) q.da w1 hB2 hbl (by have := q1.size; omega)
      clear hrg hone ht1 hB1 hB hB2 hrw
      go_wp2_with fail
      refine hcon.mono ?_
      rintro e w2 ⟨rfl, hB3, l2⟩
      clear hcon r9
      go_wp2
      go_roundw
      case rel => exact ⟨j + 1, by omega, by simp, by rw [HCT.out, Lib.byteCells_append, ← Lib.strCells_eq]; exact hB3, (hb.trans (q1.mono (by omega))).trans l2, by rw [HCT.out, List.length_append, ← Lib.size_eq]; omega⟩
      case measure => simp [intOf]; omega
    · have hje : j = ps.length := by omega
      subst hje
      have hrg : wr.rangeAt g 0 [.int .i64 q0.f, .int .i64 q0.t, .int .i64 q0.tl, .int .i64 q0.pr, .int .i64 q0.id, .int .i64 q0.fr, .bool q0.mo, .bool q0.dn, .string q0.op, .string q0.da] := fun i u hu => by have := hrw.cells H0.out i u hu; rwa [Nat.zero_mul] at this
      have x2' := ((hX.turn (turn_ge hb) (by omega)).2 2 _ rfl).1
      have hone := oneQ q0
      have hl0 : (0 : Int) < (ps.length : Int) := by have := (List.getElem?_eq_some_iff.1 H0.out).1; omega
      rw [List.take_length] at hB
      clear x2
      go_upto_region 8 with (first
        | (refine wpList_load_mid rfl 23 _ rfl g 0 (by first | rfl | simp) _ _ hrg Tryz.underlying23 rfl (by kernel_rfl) ?_)
        | (refine wpList_store_box rfl 23 _ _ rfl _ wr.heap.size #[.int .i64 0, .int .i64 0, .int .i64 0, .int .i64 0, .int .i64 0, .int .i64 0, .bool false, .bool false, .string ⟨#[]⟩, .string ⟨#[]⟩] #[.int .i64 q0.f, .int .i64 q0.t, .int .i64 q0.tl, .int .i64 q0.pr, .int .i64 q0.id, .int .i64 q0.fr, .bool q0.mo, .bool q0.dn, .string q0.op, .string q0.da] 23 rfl rfl (At.box wr #[.int .i64 0, .int .i64 0, .int .i64 0, .int .i64 0, .int .i64 0, .int .i64 0, .bool false, .bool false, .string ⟨#[]⟩, .string ⟨#[]⟩] 23) (heap_alloc_new wr _) rfl (by kernel_rfl) hone ?_; intro w1 hB1 hH1 ht1)
        | go_in)
      have q1 : Below wr.heap.size wr w1 := (bel1 wr (.cells #[.int .i64 0, .int .i64 0, .int .i64 0, .int .i64 0, .int .i64 0, .int .i64 0, .bool false, .bool false, .string ⟨#[]⟩, .string ⟨#[]⟩] 23)).trans (ht1.below (bel1 wr (.cells #[.int .i64 0, .int .i64 0, .int .i64 0, .int .i64 0, .int .i64 0, .int .i64 0, .bool false, .bool false, .string ⟨#[]⟩, .string ⟨#[]⟩] 23)).size (fun k hk e => by omega))
      have hcon := string_any B B (catL ps) w1 (isB_later hB q1) (by have := q1.size; omega)
      clear hrg hone hB hrw
      go_wp2_with fail
      refine hcon.mono ?_
      rintro e w2 ⟨rfl, l2, hok⟩
      have hH2 := hok _ _ hH1 (by intro e; injection e with e; omega) (fun c fz e => by injection e with e1 e2; exact absurd e2 (by decide))
      have hA2 : At w2 wr.heap.size #[.int .i64 q0.f, .int .i64 q0.t, .int .i64 q0.tl, .int .i64 q0.pr, .int .i64 q0.id, .int .i64 q0.fr, .bool q0.mo, .bool q0.dn, .string q0.op, .string q0.da] := by
        refine ⟨(Array.getElem?_eq_some_iff.1 hH2).1, fun i u hu => ⟨?_, ?_⟩⟩
        · simp [World.cell?, hH2]; simpa using hu
        · simp [World.frozen?, hH2]
      have hbb : Below B W0 w2 := (hb.trans (q1.mono (by omega))).trans l2
      have hZ2 := hZ.turn (turn_ge hbb) (by omega)
      obtain ⟨a6, b6⟩ : w2.cell? ⟨wr.heap.size, 6, none⟩ = some (.bool q0.mo) ∧ w2.frozen? ⟨wr.heap.size, 6, none⟩ = false := hA2.2 6 _ rfl
      have hA3 := hA2.set 6 (.bool false)
      obtain ⟨a9, b9⟩ : (w2.setCell ⟨wr.heap.size, 6, none⟩ (.bool false)).cell? ⟨wr.heap.size, 9, none⟩ = some (.string q0.da) ∧ (w2.setCell ⟨wr.heap.size, 6, none⟩ (.bool false)).frozen? ⟨wr.heap.size, 9, none⟩ = false := hA3.2 9 _ rfl
      have hA4 : At ((w2.setCell ⟨wr.heap.size, 6, none⟩ (.bool false)).setCell ⟨wr.heap.size, 9, none⟩ (.string ⟨(catL ps).toArray⟩)) wr.heap.size #[.int .i64 q0.f, .int .i64 q0.t, .int .i64 q0.tl, .int .i64 q0.pr, .int .i64 q0.id, .int .i64 q0.fr, .bool false, .bool q0.dn, .string q0.op, .string ⟨(catL ps).toArray⟩] := hA3.set 9 (.string ⟨(catL ps).toArray⟩)
      have t3 := (turn_set w2 wr.heap.size 6 (.bool false)).trans (turn_set (w2.setCell ⟨wr.heap.size, 6, none⟩ (.bool false)) wr.heap.size 9 (.string ⟨(catL ps).toArray⟩))
      have hZ4 := hZ2.turn t3 (by omega)
      have hb4 : Below w.heap.size w ((w2.setCell ⟨wr.heap.size, 6, none⟩ (.bool false)).setCell ⟨wr.heap.size, 9, none⟩ (.string ⟨(catL ps).toArray⟩)) := (hl.trans (hbb.mono (by omega))).trans (t3.below (by have := hl.size; have := hbb.size; omega) (fun k hk e => by have := hb.size; omega))
      clear hcon hA2 hA3 hZ2 hbb hH2 hok l2 hH1 hB1 ht1 q1 x2' t3
      go_upto_region 9 with fail
      generalize (w2.setCell ⟨wr.heap.size, 6, none⟩ (.bool false)).setCell ⟨wr.heap.size, 9, none⟩ (.string ⟨(catL ps).toArray⟩) = w4 at *
      have hone2 : (#[.int .i64 q0.f, .int .i64 q0.t, .int .i64 q0.tl, .int .i64 q0.pr, .int .i64 q0.id, .int .i64 q0.fr, .bool false, .bool q0.dn, .string q0.op, .string ⟨(catL ps).toArray⟩] : Array Value).all (·.oneCell') = true := by simp [Value.oneCell']
      go_wp2_with (first
        | (refine wpList_load_at rfl 23 _ rfl _ wr.heap.size #[.int .i64 q0.f, .int .i64 q0.t, .int .i64 q0.tl, .int .i64 q0.pr, .int .i64 q0.id, .int .i64 q0.fr, .bool false, .bool q0.dn, .string q0.op, .string ⟨(catL ps).toArray⟩] _ rfl hA4 Tryz.underlying23 (by kernel_rfl) ?_)
        | (refine wpList_store_at rfl 23 _ _ rfl _ (w.heap.size + 1) #[.int .i64 0, .int .i64 0, .int .i64 0, .int .i64 0, .int .i64 0, .int .i64 0, .bool false, .bool false, .string ⟨#[]⟩, .string ⟨#[]⟩] #[.int .i64 q0.f, .int .i64 q0.t, .int .i64 q0.tl, .int .i64 q0.pr, .int .i64 q0.id, .int .i64 q0.fr, .bool false, .bool q0.dn, .string q0.op, .string ⟨(catL ps).toArray⟩] rfl rfl hZ4 rfl (by kernel_rfl) hone2 ?_; intro w5 hZ5 ht5))
      have r0 := (hZ5.2 0 _ rfl).1
      have r1 := (hZ5.2 1 _ rfl).1
      have r2 := (hZ5.2 2 _ rfl).1
      have r3 := (hZ5.2 3 _ rfl).1
      have r4 := (hZ5.2 4 _ rfl).1
      have r5 := (hZ5.2 5 _ rfl).1
      have r6 := (hZ5.2 6 _ rfl).1
      have r7 := (hZ5.2 7 _ rfl).1
      have r8 := (hZ5.2 8 _ rfl).1
      have r9 := (hZ5.2 9 _ rfl).1
      exact bodyPost_ret (v := .agg #[.int .i64 q0.f, .int .i64 q0.t, .int .i64 q0.tl, .int .i64 q0.pr, .int .i64 q0.id, .int .i64 q0.fr, .bool false, .bool q0.dn, .string q0.op, .string ⟨(catL ps).toArray⟩]) (by simp [results, Tryz.results58, go_sem, r0, r1, r2, r3, r4, r5, r6, r7, r8, r9]) rfl ⟨rfl, hb4.trans (ht5.below hb4.size (fun k hk e => by omega))⟩
end Go.Proofs.YthjbmloemmggaaaGreatDoor.Ip

namespace Go.Proofs.YthjbmloemmggaaaGreatDoor.Ip
open Go.RowKit Go.Maps
set_option maxRecDepth 100000
set_option linter.unusedVariables false
set_option linter.unusedSimpArgs false

structure Pile where
  m : Mk
  at_ : Int
  tu : Int
  v : Value
  ps : List Pk
def Pile.en (x : Pile) : En := (x.m, .agg #[.int .i64 x.at_, .int .i64 x.tu, x.v])
structure Pile.Ok (w : World) (R : Nat) (x : Pile) : Prop where
  row : RW w R x.v x.ps
  fine : ∀ q ∈ x.ps, q.Fine
  rise : x.ps.Pairwise (fun a b => a.fr ≤ b.fr)
  len : x.ps.length ≤ 64
def apart (x y : Pile) : Prop := ∀ k, x.v.ownBlock = some k → y.v.ownBlock ≠ some k
structure BX (w : World) (R B M : Nat) (ro pa la tu : Int) (l : List Pile) : Prop where
  box : At w B #[.int .i64 ro, .int .i64 pa, .int .i64 la, .int .i64 tu, .map (some M)]
  map : GM w M (l.map Pile.en)
  ok : ∀ x ∈ l, x.Ok w R
  far : l.Pairwise apart
  bR : B < R
  mR : M < R
  rw' : R ≤ w.heap.size
  ne : B ≠ M
def FL (B M : Nat) (l : List Pile) (k : Nat) : Prop := k = B ∨ k = M ∨ ∃ x ∈ l, x.v.ownBlock = some k
theorem apart_symm {x y : Pile} (h : apart x y) : apart y x := fun k hy hx => h k hx hy
theorem Pile.Ok.turn {S : Nat → Prop} {w w' : World} {R : Nat} {x : Pile} (h : x.Ok w R) (ht : Turn S w w') (hS : ∀ k, x.v.ownBlock = some k → ¬ S k) : x.Ok w' R := ⟨h.row.turn ht hS, h.fine, h.rise, h.len⟩
theorem BX.later {w w' : World} {R B M : Nat} {ro pa la tu : Int} {l : List Pile} (h : BX w R B M ro pa la tu l) (hb : Below w.heap.size w w') : BX w' R B M ro pa la tu l :=
  ⟨h.box.later hb, h.map.later hb, fun x hx => (h.ok x hx).turn (S := fun _ => False) (Turn.of_below hb) (fun _ _ h => h), h.far, h.bR, h.mR, Nat.le_trans h.rw' hb.size, h.ne⟩
theorem BX.turn {S : Nat → Prop} {w w' : World} {R B M : Nat} {ro pa la tu : Int} {l : List Pile} (h : BX w R B M ro pa la tu l) (ht : Turn S w w') (hB : ¬ S B) (hM : ¬ S M) (hS : ∀ x ∈ l, ∀ k, x.v.ownBlock = some k → ¬ S k) : BX w' R B M ro pa la tu l :=
  ⟨h.box.turn ht hB, h.map.turn ht hM, fun x hx => (h.ok x hx).turn ht (hS x hx), h.far, h.bR, h.mR, Nat.le_trans h.rw' ht.size, h.ne⟩
def mk (p : Pk) : Mk := ⟨p.f, p.t, p.pr, p.id⟩
theorem new_t (ro pa : Int) (w : World) (h1 : 1 ≤ ro) (h2 : ro ≤ 64) (h3 : 1 ≤ pa) (h4 : pa ≤ 1048576) :
    Calls Tryz.prog 8 #[.int .i64 ro, .int .i64 pa] w fun e w' => e = .returned (.tuple #[.pointer (some ⟨w.heap.size + 1, 0, none⟩), .int .i64 0]) ∧ At w' (w.heap.size + 1) #[.int .i64 ro, .int .i64 pa, .int .i64 0, .int .i64 0, .map (some w.heap.size)] ∧ GM w' w.heap.size [] ∧ Below w.heap.size w w' := by
  have hmm := @run_makeMap Tryz.prog
  have n1 : ¬ ro < 1 := by omega
  have n2 : ¬ 64 < ro := by omega
  have n3 : ¬ pa < 1 := by omega
  have n4 : ¬ 1048576 < pa := by omega
  have hA := At.box2 w (.map #[] 0) #[.int .i64 ro, .int .i64 pa, .int .i64 0, .int .i64 0, .map (some w.heap.size)] 73
  have hG := (GM.made w).later (bel1 _ (.cells #[.int .i64 ro, .int .i64 pa, .int .i64 0, .int .i64 0, .map (some w.heap.size)] 73))
  have hl := bt (bel1 w (.map #[] 0)) (bel1 _ (.cells #[.int .i64 ro, .int .i64 pa, .int .i64 0, .int .i64 0, .map (some w.heap.size)] 73))
  go_enter Tryz.func8, Tryz.ntmps8
  go_wp2
  go_ret2
  exact ⟨rfl, hA, hG, hl⟩
theorem len_any {w : World} {R B M : Nat} {ro pa la tu : Int} {l : List Pile} (h : BX w R B M ro pa la tu l) : Calls Tryz.prog 15 #[.pointer (some ⟨B, 0, none⟩)] w fun e w' => e = .returned (.int .i64 (l.length : Int)) ∧ w' = w := by
  have c4 := (h.box.2 4 _ rfl).1
  have hln := h.map.len 3
  rw [List.length_map] at hln
  go_enter Tryz.func15, Tryz.ntmps15
  go_wp2
  go_ret
  exact ⟨rfl, rfl⟩
theorem move_any {w : World} {R B M : Nat} {ro pa la tu : Int} {l : List Pile} (h : BX w R B M ro pa la tu l) (now : Int) (h1 : la ≤ now) (h2 : now ≤ 1099511627776) :
    Calls Tryz.prog 33 #[.pointer (some ⟨B, 0, none⟩), .int .i64 now] w fun e w' => e = .returned (.bool true) ∧ BX w' R B M ro pa now tu l ∧ Turn (fun k => k = B) w w' := by
  obtain ⟨c2, f2⟩ := h.box.2 2 _ rfl
  have n1 : ¬ now < la := by omega
  have n2 : ¬ 1099511627776 < now := by omega
  have ht := turn_set w B 2 (.int .i64 now)
  have hA : At (w.setCell ⟨B, 2, none⟩ (.int .i64 now)) B #[.int .i64 ro, .int .i64 pa, .int .i64 now, .int .i64 tu, .map (some M)] := h.box.set 2 (.int .i64 now)
  have HF : Hid (BX (w.setCell ⟨B, 2, none⟩ (.int .i64 now)) R B M ro pa now tu l ∧ Turn (fun k => k = B) w (w.setCell ⟨B, 2, none⟩ (.int .i64 now))) :=
    ⟨⟨hA, h.map.turn ht (fun e => h.ne e.symm), fun x hx => (h.ok x hx).turn ht (fun k hk e => by have := (h.ok x hx).row.ge k hk; have := h.bR; omega), h.far, h.bR, h.mR, Nat.le_trans h.rw' ht.size, h.ne⟩, ht⟩
  clear h ht hA
  go_enter Tryz.func33, Tryz.ntmps33
  go_wp2
  go_ret
  exact ⟨rfl, HF.out⟩
end Go.Proofs.YthjbmloemmggaaaGreatDoor.Ip

namespace Go.Proofs.YthjbmloemmggaaaGreatDoor.Ip
open Go.RowKit Go.Maps
set_option maxRecDepth 100000
set_option linter.unusedVariables false
set_option linter.unusedSimpArgs false

theorem op_store_at {op : Oper} {a : Act} {K : Act → World → Prop} {Q : Exit → Act → World → Prop} (ty : TypeId) (x y : Operand) (ho : op.op = .store ty x y) (w : World) (b : Nat) (old vs : Array Value) (hx : a.eval x = .pointer (some ⟨b, 0, none⟩)) (hy : a.eval y = .agg vs) (hA : At w b old) (hzs : old.size = vs.size) (hi : (Tryz.prog.info? ty).map (·.size) = some vs.size) (h1 : vs.all (·.oneCell') = true)
    (h : ∀ w', At w' b vs → Turn (fun k => k = b) w w' → K (a.put op.dst undef) w') : op.wp Tryz.prog a w K Q := by
  refine wp_store_mid ty x y ho b 0 vs hx hy (by rw [← hzs]; exact at_there hA) hi h1 ?_
  exact h _ (at_whole hA hzs) (turn_setCells b _ _ _)
theorem bel_drew (w : World) : Below w.heap.size w w.drew := (Below.refl _ _).drew
theorem below_turn {b n : Nat} {w w' : World} (h : Turn (fun k => k = b) w w') (hn : n ≤ b) (hw : n ≤ w.heap.size) : Below n w w' := h.below hw (fun k hk e => by omega)
theorem begin_any {w : World} {R B M : Nat} {ro pa la tu : Int} {l : List Pile} (h : BX w R B M ro pa la tu l) (h1 : 0 ≤ tu) (h2 : tu ≤ 1000000000) :
    Calls Tryz.prog 53 #[.pointer (some ⟨B, 0, none⟩)] w fun e w' => e = .returned (.agg #[.int .i64 la, .int .i64 (tu + 1), .slice none 0 0]) ∧ BX w' R B M ro pa la (tu + 1) l ∧ Turn (fun k => k = B) w w' := by
  have hb1 := bel1 w (.cells #[.int .i64 0, .int .i64 0, .slice none 0 0] 115)
  have hZ := At.box w #[.int .i64 0, .int .i64 0, .slice none 0 0] 115
  have h' := h.later hb1
  have hsz := h.rw'
  have hbl := h.box.1
  have hrl : ∀ x ∈ l, ∀ k, x.v.ownBlock = some k → k < w.heap.size := fun x hx k hk => (h.ok x hx).row.lt k hk
  obtain ⟨c3, f3⟩ := h'.box.2 3 _ rfl
  have hwr : IntKind.i64.wrap (tu + 1) = tu + 1 := by rw [IntKind.wrap_i64]; omega
  go_enter Tryz.func53, Tryz.ntmps53
  go_upto_region 1 with fail
  obtain ⟨zb, hzb⟩ : ∃ z, z = w.heap.size := ⟨_, rfl⟩
  rw [← hzb] at hZ hrl
  rw [← hzb]
  have hzB : B < zb := by omega
  have hRz : R ≤ zb := by omega
  generalize w.alloc (.cells #[.int .i64 0, .int .i64 0, .slice none 0 0] 115) = w1 at *
  go_upto_region 2 with fail
  have ht := turn_set w1 B 3 (.int .i64 (tu + 1))
  have hA : At (w1.setCell ⟨B, 3, none⟩ (.int .i64 (tu + 1))) B #[.int .i64 ro, .int .i64 pa, .int .i64 la, .int .i64 (tu + 1), .map (some M)] := h'.box.set 3 (.int .i64 (tu + 1))
  have hBX : BX (w1.setCell ⟨B, 3, none⟩ (.int .i64 (tu + 1))) R B M ro pa la (tu + 1) l := ⟨hA, h'.map.turn ht (fun e => h.ne e.symm), fun x hx => (h'.ok x hx).turn ht (fun k hk e => by have := (h.ok x hx).row.ge k hk; have := h.bR; omega), h.far, h.bR, h.mR, Nat.le_trans h'.rw' ht.size, h.ne⟩
  have hZ2 := hZ.turn ht (by omega)
  have htt : Turn (fun k => k = B) w (w1.setCell ⟨B, 3, none⟩ (.int .i64 (tu + 1))) := (Turn.of_below hb1).trans ht
  clear h h' c3 f3 hZ ht hA hb1
  generalize w1.setCell ⟨B, 3, none⟩ (.int .i64 (tu + 1)) = w2 at *
  have hf2 : ∀ W, Below zb w2 W → W.cell? ⟨B, 2, none⟩ = some (.int .i64 la) := fun W hW => (hW.cell hzB).trans (hBX.box.2 2 _ rfl).1
  have hf3 : ∀ W, Below zb w2 W → W.cell? ⟨B, 3, none⟩ = some (.int .i64 (tu + 1)) := fun W hW => (hW.cell hzB).trans (hBX.box.2 3 _ rfl).1
  refine wp_region_held_drew (S := (fun W => Below zb w2 W)) (by kernel_rfl) ?_ (fun hHeld => ?_)
  · first | exact (Below.refl _ _).drew | assumption
  refine wpAnyH_take (i := 0) (oi := ({ dst := some 10, op := Go.Op.move (Go.Operand.tmp 0), type := 34, pos := "frag.go:115", after := #[], guard := none } : Go.Oper)) (v := .pointer (some ⟨B, 0, none⟩)) rfl (by kernel_rfl) (by kernel_rfl) (by kernel_rfl) (fun _ _ _ h => h) (Or.inl ⟨by rfl, ?_⟩) (by assumption) ?_
  · intro wx hSw
    try dsimp only at hSw
    have u2 := hf2 wx hSw
    have u3 := hf3 wx hSw
    go_simp
    try with_reducible rfl
  try simp only [Act.put, List.setIfInBounds_toArray, List.set_cons_zero, List.set_cons_succ]
  refine wpAnyH_take (i := 1) (oi := ({ dst := some 11, op := Go.Op.nilCheck (Go.Operand.tmp 10), type := 0, pos := "frag.go:115", after := #[{ on := 0, ground := Go.Ground.data }], guard := none } : Go.Oper)) (v := .pointer (some ⟨B, 0, none⟩)) rfl (by kernel_rfl) (by kernel_rfl) (by kernel_rfl) (fun _ _ _ h => h) (Or.inl ⟨by rfl, ?_⟩) (by assumption) ?_
  · intro wx hSw
    try dsimp only at hSw
    have u2 := hf2 wx hSw
    have u3 := hf3 wx hSw
    go_simp
    try with_reducible rfl
  try simp only [Act.put, List.setIfInBounds_toArray, List.set_cons_zero, List.set_cons_succ]
  refine wpAnyH_take (i := 2) (oi := ({ dst := some 12, op := Go.Op.fieldAddr 73 (Go.Operand.tmp 11) 2, type := 0, pos := "frag.go:115", after := #[{ on := 1, ground := Go.Ground.data }], guard := none } : Go.Oper)) (v := .pointer (some ⟨B, 2, none⟩)) rfl (by kernel_rfl) (by kernel_rfl) (by kernel_rfl) (fun _ _ _ h => h) (Or.inl ⟨by rfl, ?_⟩) (by assumption) ?_
  · intro wx hSw
    try dsimp only at hSw
    have u2 := hf2 wx hSw
    have u3 := hf3 wx hSw
    go_simp
    try with_reducible rfl
  try simp only [Act.put, List.setIfInBounds_toArray, List.set_cons_zero, List.set_cons_succ]
  refine wpAnyH_take (i := 3) (oi := ({ dst := some 13, op := Go.Op.load 3 (Go.Operand.tmp 12), type := 3, pos := "frag.go:115", after := #[{ on := 2, ground := Go.Ground.data }], guard := none } : Go.Oper)) (v := .int .i64 la) rfl (by kernel_rfl) (by kernel_rfl) (by kernel_rfl) (fun _ _ _ h => h) (Or.inl ⟨by rfl, ?_⟩) (by assumption) ?_
  · intro wx hSw
    try dsimp only at hSw
    have u2 := hf2 wx hSw
    have u3 := hf3 wx hSw
    go_simp
    try with_reducible rfl
  try simp only [Act.put, List.setIfInBounds_toArray, List.set_cons_zero, List.set_cons_succ]
  refine wpAnyH_take (i := 4) (oi := ({ dst := some 14, op := Go.Op.move (Go.Operand.tmp 0), type := 34, pos := "frag.go:115", after := #[], guard := none } : Go.Oper)) (v := .pointer (some ⟨B, 0, none⟩)) rfl (by kernel_rfl) (by kernel_rfl) (by kernel_rfl) (fun _ _ _ h => h) (Or.inl ⟨by rfl, ?_⟩) (by assumption) ?_
  · intro wx hSw
    try dsimp only at hSw
    have u2 := hf2 wx hSw
    have u3 := hf3 wx hSw
    go_simp
    try with_reducible rfl
  try simp only [Act.put, List.setIfInBounds_toArray, List.set_cons_zero, List.set_cons_succ]
  refine wpAnyH_take (i := 5) (oi := ({ dst := some 15, op := Go.Op.nilCheck (Go.Operand.tmp 14), type := 0, pos := "frag.go:115", after := #[{ on := 4, ground := Go.Ground.data }], guard := none } : Go.Oper)) (v := .pointer (some ⟨B, 0, none⟩)) rfl (by kernel_rfl) (by kernel_rfl) (by kernel_rfl) (fun _ _ _ h => h) (Or.inl ⟨by rfl, ?_⟩) (by assumption) ?_
  · intro wx hSw
    try dsimp only at hSw
    have u2 := hf2 wx hSw
    have u3 := hf3 wx hSw
    go_simp
    try with_reducible rfl
  try simp only [Act.put, List.setIfInBounds_toArray, List.set_cons_zero, List.set_cons_succ]
  refine wpAnyH_take (i := 6) (oi := ({ dst := some 16, op := Go.Op.fieldAddr 73 (Go.Operand.tmp 15) 3, type := 0, pos := "frag.go:115", after := #[{ on := 5, ground := Go.Ground.data }], guard := none } : Go.Oper)) (v := .pointer (some ⟨B, 3, none⟩)) rfl (by kernel_rfl) (by kernel_rfl) (by kernel_rfl) (fun _ _ _ h => h) (Or.inl ⟨by rfl, ?_⟩) (by assumption) ?_
  · intro wx hSw
    try dsimp only at hSw
    have u2 := hf2 wx hSw
    have u3 := hf3 wx hSw
    go_simp
    try with_reducible rfl
  try simp only [Act.put, List.setIfInBounds_toArray, List.set_cons_zero, List.set_cons_succ]
  refine wpAnyH_take (i := 7) (oi := ({ dst := some 17, op := Go.Op.load 3 (Go.Operand.tmp 16), type := 3, pos := "frag.go:115", after := #[{ on := 6, ground := Go.Ground.data }], guard := none } : Go.Oper)) (v := .int .i64 (tu + 1)) rfl (by kernel_rfl) (by kernel_rfl) (by kernel_rfl) (fun _ _ _ h => h) (Or.inl ⟨by rfl, ?_⟩) (by assumption) ?_
  · intro wx hSw
    try dsimp only at hSw
    have u2 := hf2 wx hSw
    have u3 := hf3 wx hSw
    go_simp
    try with_reducible rfl
  try simp only [Act.put, List.setIfInBounds_toArray, List.set_cons_zero, List.set_cons_succ]
  refine wpAnyH_take (i := 8) (oi := ({ dst := some 18, op := Go.Op.build 115 #[(0, Go.Operand.tmp 13), (1, Go.Operand.tmp 17)], type := 115, pos := "frag.go:115", after := #[{ on := 3, ground := Go.Ground.data }, { on := 7, ground := Go.Ground.data }], guard := none } : Go.Oper)) (v := .agg #[.int .i64 la, .int .i64 (tu + 1), .slice none 0 0]) rfl (by kernel_rfl) (by kernel_rfl) (by kernel_rfl) (fun _ _ _ h => h) (Or.inl ⟨by rfl, ?_⟩) (by assumption) ?_
  · intro wx hSw
    try dsimp only at hSw
    have u2 := hf2 wx hSw
    have u3 := hf3 wx hSw
    go_simp
    try with_reducible rfl
  try simp only [Act.put, List.setIfInBounds_toArray, List.set_cons_zero, List.set_cons_succ]
  refine wpAnyH_ready (rs := [9]) (by kernel_rfl) (by simp) ?_
  refine AllReadyH.cons (o := ({ dst := none, op := Go.Op.store 115 (Go.Operand.tmp 2) (Go.Operand.tmp 18), type := 0, pos := "frag.go:115", after := #[{ on := 8, ground := Go.Ground.data }, { on := 0, ground := Go.Ground.phase }, { on := 1, ground := Go.Ground.phase }, { on := 2, ground := Go.Ground.phase }, { on := 3, ground := Go.Ground.phase }, { on := 4, ground := Go.Ground.phase }, { on := 5, ground := Go.Ground.phase }, { on := 6, ground := Go.Ground.phase }, { on := 7, ground := Go.Ground.phase }, { on := 8, ground := Go.Ground.phase }], guard := none } : Go.Oper)) rfl (fun K hK => ?_) AllReadyH.nil
  rw [if_pos (by rfl)]
  refine op_store_at 115 _ _ rfl _ zb #[.int .i64 0, .int .i64 0, .slice none 0 0] #[.int .i64 la, .int .i64 (tu + 1), .slice none 0 0] rfl rfl (hZ2.later (bel_drew w2)) rfl infoX (by simp [Value.oneCell']) ?_
  intro w3 hZ3 ht3
  have hb3 : Below zb w2 w3 := hHeld.trans (below_turn ht3 (Nat.le_refl _) (Nat.le_of_lt hZ2.1))
  refine hK.out _ _ hb3 (fun hHeld => ?_)
  clear hK K
  try simp only [Act.put, List.setIfInBounds_toArray, List.set_cons_zero, List.set_cons_succ]
  refine wpAnyH_done (by kernel_rfl) ?_ _
  have r0 := (hZ3.2 0 _ rfl).1
  have r1 := (hZ3.2 1 _ rfl).1
  have r2 := (hZ3.2 2 _ rfl).1
  have hBX3 := hBX.turn (ht3.undrew) (by omega) (by have := hBX.mR; omega) (fun x hx k hk e => by have := hrl x hx k hk; omega)
  go_wp2
  exact bodyPost_ret (v := .agg #[.int .i64 la, .int .i64 (tu + 1), .slice none 0 0]) (by simp [results, Tryz.results53, go_sem, r0, r1, r2]) rfl ⟨rfl, hBX3, htt.step ht3.undrew (fun k e => Or.inr (by omega))⟩
end Go.Proofs.YthjbmloemmggaaaGreatDoor.Ip

namespace Go.Proofs.YthjbmloemmggaaaGreatDoor.Ip
open Go.RowKit Go.Maps
set_option maxRecDepth 100000
set_option linter.unusedVariables false
set_option linter.unusedSimpArgs false

theorem cut_fr {ps : List Pk} {x : Int} {i : Nat} (h : Cutp ps x i i) : (∀ q ∈ ps.take i, q.fr < x) ∧ (∀ q ∈ ps.drop i, x ≤ q.fr) := by
  constructor
  · intro q hq
    obtain ⟨t, ht⟩ := List.getElem?_of_mem hq
    rw [List.getElem?_take] at ht
    split at ht
    · exact h.1 t q ht (by assumption)
    · cases ht
  · intro q hq
    obtain ⟨t, ht⟩ := List.getElem?_of_mem hq
    rw [List.getElem?_drop] at ht
    exact h.2 (i + t) q ht (by omega)
theorem ins_rise {ps : List Pk} {p : Pk} {i : Nat} (hs : ps.Pairwise (fun a b => a.fr ≤ b.fr)) (h : Cutp ps p.fr i i) : (insL ps i p).Pairwise (fun a b => a.fr ≤ b.fr) := by
  obtain ⟨h1, h2⟩ := cut_fr h
  unfold insL
  rw [List.pairwise_append, List.pairwise_cons]
  refine ⟨hs.sublist (List.take_sublist _ _), ⟨fun b hb => h2 b hb, hs.sublist (List.drop_sublist _ _)⟩, fun a ha b hb => ?_⟩
  have := h1 a ha
  rcases List.mem_cons.1 hb with rfl | hb
  · omega
  · have := h2 b hb; omega
theorem ins_mem {ps : List Pk} {p q : Pk} {i : Nat} (h : q ∈ insL ps i p) : q = p ∨ q ∈ ps := by
  unfold insL at h
  rcases List.mem_append.1 h with h | h
  · exact Or.inr (List.mem_of_mem_take h)
  · rcases List.mem_cons.1 h with h | h
    · exact Or.inl h
    · exact Or.inr (List.mem_of_mem_drop h)
theorem ins_len {ps : List Pk} {p : Pk} {i : Nat} (h : i ≤ ps.length) : (insL ps i p).length = ps.length + 1 := by
  unfold insL; rw [List.length_append, List.length_cons, List.length_take, List.length_drop]; omega
theorem fitsL_len {ps : List Pk} {p : Pk} (h : fitsL ps p = true) : ps.length < 64 := by
  unfold fitsL at h
  simp only [Bool.and_eq_true, decide_eq_true_eq] at h
  exact h.1.2
theorem infoM : (Tryz.prog.info? 113).map (·.size) = some 4 := by kernel_rfl
theorem oneZ : (#[.int .i64 0, .int .i64 0, .int .i64 0, .int .i64 0, .int .i64 0, .int .i64 0, .bool false, .bool false, .string ⟨#[]⟩, .string ⟨#[]⟩] : Array Value).all (·.oneCell') = true := by simp [Value.oneCell']
theorem box_map {w : World} {R B M : Nat} {ro pa la tu : Int} {l : List Pile} (h : BX w R B M ro pa la tu l) : w.cell? ⟨B, 4, none⟩ = some (.map (some M)) := (h.box.2 4 _ rfl).1
def LayMore (w w' : World) (R B M : Nat) (ro pa la tu : Int) (l a b : List Pile) (at_ tx : Int) (ps : List Pk) (p : Pk) : Prop := ∃ (v' : Value) (i : Nat), i ≤ ps.length ∧ Cutp ps p.fr i i ∧ BX w' R B M ro pa la tu (a ++ ⟨mk p, at_, tx, v', insL ps i p⟩ :: b) ∧ Turn (FL B M l) w w' ∧ ∀ k, v'.ownBlock = some k → (∃ x ∈ l, x.v.ownBlock = some k) ∨ w.heap.size ≤ k
def LayBox (w w' : World) (R B M : Nat) (ro pa la tu : Int) (l0 l : List Pile) : Prop := BX w' R B M ro pa la tu l ∧ Turn (FL B M l0) w w'
end Go.Proofs.YthjbmloemmggaaaGreatDoor.Ip
