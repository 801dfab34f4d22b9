/- The contract of whole. -/
import Derived.Test.YtcjhniehbafhpaaFj
import Derived.Test.YtcjhniehbafhpaaFk
namespace Go.Proofs.Ytcjhniehbafhpaa
open Go.RowKit Go.Maps
set_option maxRecDepth 100000
set_option linter.unusedVariables false
set_option linter.unusedSimpArgs false

def catL (ps : List Pk) : List UInt8 := ps.flatMap (fun q => q.da.data.toList)
def wholeP (ps : List Pk) (q : Pk) : Pk := { q with mo := false, da := ⟨(catL ps).toArray⟩ }
theorem isB_later {T e : TypeId} {B b : Nat} {bs : List Value} {w x : World} (h : Lib.IsBuilderF T e B b bs w) (hb : Below w.heap.size w x) : Lib.IsBuilderF T e B b bs x := by
  have go : ∀ p, Lib.BuilderAtF T e B b p bs w → Lib.BuilderAtF T e B b p bs x := fun p h => by
    obtain ⟨hB, v, hh, ⟨hl, hown⟩, hne⟩ := h
    refine ⟨hB, v, (hb.block b (Array.getElem?_eq_some_iff.1 hh).1).trans hh, ⟨hl, ?_⟩, hne⟩
    rcases hown with h | ⟨g, cap, cur, fz, e1, e2, e3, e4⟩
    · exact Or.inl h
    · exact Or.inr ⟨g, cap, cur, fz, e1, e2, (hb.block g (Array.getElem?_eq_some_iff.1 e3).1).trans e3, e4⟩
  rcases h with h | h
  · exact Or.inl (go _ h)
  · exact Or.inr (go _ h)
theorem cells_setCells (b : Nat) (t : TypeId) (f : Nat × Nat) : ∀ (vs : List Value) (o : Nat) (w : World) (c : Array Value), w.heap[b]? = some (.cells c t f) → ∃ c' : Array Value, c'.size = c.size ∧ (w.setCells b o vs).heap[b]? = some (.cells c' t f)
  | [], _, _, c, h => ⟨c, rfl, h⟩
  | v :: vs, o, w, c, h => by
    rw [World.setCells, setCell_eq_setRow w b o c t f v h]
    obtain ⟨c', h1, h2⟩ := cells_setCells b t f vs (o + 1) _ (c.setIfInBounds o v) (setRow_heap w b c _ t f h)
    exact ⟨c', by rw [h1]; simp, h2⟩
theorem box_form {W : World} {b : Nat} {c vs : Array Value} {t : TypeId} {f : Nat × Nat} (hA : At W b vs) (h : W.heap[b]? = some (.cells c t f)) (hs : c.size = vs.size) : W.heap[b]? = some (.cells vs t f) := by
  have : c = vs := by
    apply Array.ext hs
    intro i h1 h2
    have := (hA.2 i vs[i] (Array.getElem?_eq_getElem h2)).1
    simp [World.cell?, h] at this
    rw [Array.getElem?_eq_getElem h1] at this
    injection this
  rw [← this]
  exact h
/-- A struct stored whole into a box of its own type. -/
theorem wpList_store_box {ops : Array Oper} {rest : List Oper} {op : Oper} {a : Act} {Q : Exit → Act → World → Prop} (hgd : op.guard = none) (ty : TypeId) (x y : Operand) (ho : op.op = .store ty x y) (w : World) (b : Nat) (old vs : Array Value) (t : TypeId) (hx : a.eval x = .pointer (some ⟨b, 0, none⟩)) (hy : a.eval y = .agg vs) (hA : At w b old) (hH : w.heap[b]? = some (.cells old t (0, 0))) (hzs : old.size = vs.size) (hi : (Try.prog.info? ty).map (·.size) = some vs.size) (h1 : vs.all (·.oneCell') = true)
    (h : ∀ w', At w' b vs → w'.heap[b]? = some (.cells vs t (0, 0)) → Turn (fun k => k = b) w w' → wpList Try.prog ops Q rest (a.put op.dst undef) w') : wpList Try.prog ops Q (op :: rest) a w := by
  refine wpList_store_mid hgd ty x y ho b 0 vs hx hy (by rw [← hzs]; exact at_there hA) hi h1 ?_
  obtain ⟨c', k1, k2⟩ := cells_setCells b t (0, 0) vs.toList 0 w old hH
  exact h _ (at_whole hA hzs) (box_form (at_whole hA hzs) k2 (by rw [k1]; exact hzs)) (turn_setCells b _ _ _)
theorem turn_ge {B : Nat} {w w' : World} (h : Below B w w') : Turn (fun k => B ≤ k) w w' := ⟨h.os, h.tape, h.output, h.size, fun k _ hs => h.block k (by omega)⟩
theorem catL_take {ps : List Pk} {j : Nat} {q : Pk} (he : ps[j]? = some q) : catL (ps.take (j + 1)) = catL (ps.take j) ++ q.da.data.toList := by
  unfold catL
  rw [List.take_add_one, he, List.flatMap_append]
  simp
set_option maxHeartbeats 4000000 in
theorem whole_any (ps : List Pk) (q0 : Pk) (at_ tu : Int) (v : Value) (R : Nat) (w : World) (hr : RW w R v ps) (hn : ps.length < 100) (h0 : ps[0]? = some q0) (hk : ∀ q ∈ ps, q.Fine) :
    Calls Try.prog 40 #[.agg #[.int .i64 at_, .int .i64 tu, v]] w fun e w' => e = .returned (.agg #[.int .i64 q0.f, .int .i64 q0.t, .int .i64 q0.tl, .int .i64 q0.pr, .int .i64 q0.id, .int .i64 q0.fr, .bool false, .bool q0.dn, .string q0.op, .string ⟨(catL ps).toArray⟩]) ∧ Below w.heap.size w w' := by
  have hne : ps ≠ [] := fun e => by rw [e] at h0; cases h0
  obtain ⟨g, c, cur, rfl, -⟩ := hr.real hne
  have hX := ((At.box w #[.int .i64 at_, .int .i64 tu, .slice (some ⟨g, 0, none⟩) ps.length c] 61).later (bel1 _ (.cells #[.int .i64 0, .int .i64 0, .int .i64 0, .int .i64 0, .int .i64 0, .int .i64 0, .bool false, .bool false, .string ⟨#[]⟩, .string ⟨#[]⟩] 32))).later (bel1 _ (.cells #[.pointer none, .slice none 0 0] 97))
  have hZ := (At.box2 w (.cells #[.int .i64 at_, .int .i64 tu, .slice (some ⟨g, 0, none⟩) ps.length c] 61) #[.int .i64 0, .int .i64 0, .int .i64 0, .int .i64 0, .int .i64 0, .int .i64 0, .bool false, .bool false, .string ⟨#[]⟩, .string ⟨#[]⟩] 32).later (bel1 _ (.cells #[.pointer none, .slice none 0 0] 97))
  have hl := bt (bt (bel1 w (.cells #[.int .i64 at_, .int .i64 tu, .slice (some ⟨g, 0, none⟩) ps.length c] 61)) (bel1 _ (.cells #[.int .i64 0, .int .i64 0, .int .i64 0, .int .i64 0, .int .i64 0, .int .i64 0, .bool false, .bool false, .string ⟨#[]⟩, .string ⟨#[]⟩] 32))) (bel1 _ (.cells #[.pointer none, .slice none 0 0] 97))
  have hB0 : Lib.IsBuilderF 97 5 (w.heap.size + 1 + 1) (w.heap.size + 1 + 1) (Lib.byteCells []) (((w.alloc (.cells #[.int .i64 at_, .int .i64 tu, .slice (some ⟨g, 0, none⟩) ps.length c] 61)).alloc (.cells #[.int .i64 0, .int .i64 0, .int .i64 0, .int .i64 0, .int .i64 0, .int .i64 0, .bool false, .bool false, .string ⟨#[]⟩, .string ⟨#[]⟩] 32)).alloc (.cells #[.pointer none, .slice none 0 0] 97)) := by
    have := Lib.IsBuilderF.of (Lib.fresh_isBuilder 97 5 ((w.alloc (.cells #[.int .i64 at_, .int .i64 tu, .slice (some ⟨g, 0, none⟩) ps.length c] 61)).alloc (.cells #[.int .i64 0, .int .i64 0, .int .i64 0, .int .i64 0, .int .i64 0, .int .i64 0, .bool false, .bool false, .string ⟨#[]⟩, .string ⟨#[]⟩] 32)))
    rw [World.size_alloc, World.size_alloc] at this
    exact this
  have hs0 : w.heap.size + 1 + 1 < (((w.alloc (.cells #[.int .i64 at_, .int .i64 tu, .slice (some ⟨g, 0, none⟩) ps.length c] 61)).alloc (.cells #[.int .i64 0, .int .i64 0, .int .i64 0, .int .i64 0, .int .i64 0, .int .i64 0, .bool false, .bool false, .string ⟨#[]⟩, .string ⟨#[]⟩] 32)).alloc (.cells #[.pointer none, .slice none 0 0] 97)).heap.size := by simp
  have hr0 := hr.later hl
  have hgl : g < w.heap.size := hr.lt g (by simp [Value.ownBlock])
  have HK : Hid (∀ q ∈ ps, q.Fine) := hk
  have H0 : Hid (ps[0]? = some q0) := h0
  clear hr hk h0 hne
  obtain ⟨B, hB⟩ : ∃ B, B = w.heap.size + 1 + 1 := ⟨_, rfl⟩
  rw [← hB] at hB0 hs0
  go_enter Try.func40, Try.ntmps40
  go_upto_region 2 with fail
  generalize ((w.alloc (.cells #[.int .i64 at_, .int .i64 tu, .slice (some ⟨g, 0, none⟩) ps.length c] 61)).alloc (.cells #[.int .i64 0, .int .i64 0, .int .i64 0, .int .i64 0, .int .i64 0, .int .i64 0, .bool false, .bool false, .string ⟨#[]⟩, .string ⟨#[]⟩] 32)).alloc (.cells #[.pointer none, .slice none 0 0] 97) = W0 at *
  rw [← hB]
  have hwB : w.heap.size + 1 < B := by omega
  clear hB
  have x2 := (hX.2 2 _ rfl).1
  go_wp2
  go_loopw [10] (fun s10 W => ∃ j : Nat, j ≤ ps.length ∧ s10 = .int .i64 (j : Int) ∧ Lib.IsBuilderF 97 5 B B (Lib.byteCells (catL (ps.take j))) W ∧ Below B W0 W ∧ (catL (ps.take j)).length ≤ 65535 * j) (fun s10 _ => ps.length - (intOf s10).toNat)
  case atStart => exact ⟨0, Nat.zero_le _, rfl, hB0, Below.refl _ _, Nat.le_refl _⟩
  case round =>
    clear hB0
    obtain ⟨j, hj, rfl, hB, hb, hln⟩ := hrel
    have hBw : B < wr.heap.size := Nat.lt_of_lt_of_le hs0 hb.size
    have hrw := hr0.turn (turn_ge hb) (fun k hk e => by simp [Value.ownBlock] at hk; omega)
    by_cases hlt : j < ps.length
    · obtain ⟨q, he⟩ : ∃ q, ps[j]? = some q := ⟨_, List.getElem?_eq_getElem hlt⟩
      have hrg : wr.rangeAt g (j * 10) [.int .i64 q.f, .int .i64 q.t, .int .i64 q.tl, .int .i64 q.pr, .int .i64 q.id, .int .i64 q.fr, .bool q.mo, .bool q.dn, .string q.op, .string q.da] := fun i u hu => hrw.cells he i u hu
      have hq := HK.out q (List.mem_of_getElem? he)
      have hcat := catL_take he
      have HCT : Hid (catL (ps.take (j + 1)) = catL (ps.take j) ++ q.da.data.toList) := hcat
      have hlt' : (j : Int) < (ps.length : Int) := by omega
      have hone := oneQ q
      have hdl := hq.dl
      clear he hcat x2
      go_upto_region 5 with (first
        | (refine wpList_load_mid rfl 32 _ rfl g (j * 10) (by first | rfl | simp) _ _ hrg Try.underlying32 rfl (by kernel_rfl) ?_)
        | (refine wpList_store_at rfl 32 _ _ rfl _ wr.heap.size #[.int .i64 0, .int .i64 0, .int .i64 0, .int .i64 0, .int .i64 0, .int .i64 0, .bool false, .bool false, .string ⟨#[]⟩, .string ⟨#[]⟩] #[.int .i64 q.f, .int .i64 q.t, .int .i64 q.tl, .int .i64 q.pr, .int .i64 q.id, .int .i64 q.fr, .bool q.mo, .bool q.dn, .string q.op, .string q.da] rfl rfl (At.box wr #[.int .i64 0, .int .i64 0, .int .i64 0, .int .i64 0, .int .i64 0, .int .i64 0, .bool false, .bool false, .string ⟨#[]⟩, .string ⟨#[]⟩] 32) rfl (by kernel_rfl) hone ?_; intro w1 hB1 ht1)
        | go_in)
      have q1 : Below wr.heap.size wr w1 := (bel1 wr (.cells #[.int .i64 0, .int .i64 0, .int .i64 0, .int .i64 0, .int .i64 0, .int .i64 0, .bool false, .bool false, .string ⟨#[]⟩, .string ⟨#[]⟩] 32)).trans (ht1.below (bel1 wr (.cells #[.int .i64 0, .int .i64 0, .int .i64 0, .int .i64 0, .int .i64 0, .int .i64 0, .bool false, .bool false, .string ⟨#[]⟩, .string ⟨#[]⟩] 32)).size (fun k hk e => by omega))
      have r9 := (hB1.2 9 _ rfl).1
      have hB2 := isB_later hB q1
      have hbl : (Lib.byteCells (catL (ps.take j))).length + q.da.size ≤ 140737488355328 := by rw [Lib.byteCells_length]; omega
      have hcon := write_any B B (Lib.byteCells (catL (ps.take j))) q.da w1 hB2 hbl (by have := q1.size; omega)
      clear hrg hone ht1 hB1 hB hB2 hrw
      go_wp2_with fail
      refine hcon.mono ?_
      rintro e w2 ⟨rfl, hB3, l2⟩
      clear hcon r9
      go_wp2
      go_roundw
      case rel => exact ⟨j + 1, by omega, by simp, by rw [HCT.out, Lib.byteCells_append, ← Lib.strCells_eq]; exact hB3, (hb.trans (q1.mono (by omega))).trans l2, by rw [HCT.out, List.length_append, ← Lib.size_eq]; omega⟩
      case measure => simp [intOf]; omega
    · have hje : j = ps.length := by omega
      subst hje
      have hrg : wr.rangeAt g 0 [.int .i64 q0.f, .int .i64 q0.t, .int .i64 q0.tl, .int .i64 q0.pr, .int .i64 q0.id, .int .i64 q0.fr, .bool q0.mo, .bool q0.dn, .string q0.op, .string q0.da] := fun i u hu => by have := hrw.cells H0.out i u hu; rwa [Nat.zero_mul] at this
      have x2' := ((hX.turn (turn_ge hb) (by omega)).2 2 _ rfl).1
      have hone := oneQ q0
      have hl0 : (0 : Int) < (ps.length : Int) := by have := (List.getElem?_eq_some_iff.1 H0.out).1; omega
      rw [List.take_length] at hB
      clear x2
      go_upto_region 8 with (first
        | (refine wpList_load_mid rfl 32 _ rfl g 0 (by first | rfl | simp) _ _ hrg Try.underlying32 rfl (by kernel_rfl) ?_)
        | (refine wpList_store_box rfl 32 _ _ rfl _ wr.heap.size #[.int .i64 0, .int .i64 0, .int .i64 0, .int .i64 0, .int .i64 0, .int .i64 0, .bool false, .bool false, .string ⟨#[]⟩, .string ⟨#[]⟩] #[.int .i64 q0.f, .int .i64 q0.t, .int .i64 q0.tl, .int .i64 q0.pr, .int .i64 q0.id, .int .i64 q0.fr, .bool q0.mo, .bool q0.dn, .string q0.op, .string q0.da] 32 rfl rfl (At.box wr #[.int .i64 0, .int .i64 0, .int .i64 0, .int .i64 0, .int .i64 0, .int .i64 0, .bool false, .bool false, .string ⟨#[]⟩, .string ⟨#[]⟩] 32) (heap_alloc_new wr _) rfl (by kernel_rfl) hone ?_; intro w1 hB1 hH1 ht1)
        | go_in)
      have q1 : Below wr.heap.size wr w1 := (bel1 wr (.cells #[.int .i64 0, .int .i64 0, .int .i64 0, .int .i64 0, .int .i64 0, .int .i64 0, .bool false, .bool false, .string ⟨#[]⟩, .string ⟨#[]⟩] 32)).trans (ht1.below (bel1 wr (.cells #[.int .i64 0, .int .i64 0, .int .i64 0, .int .i64 0, .int .i64 0, .int .i64 0, .bool false, .bool false, .string ⟨#[]⟩, .string ⟨#[]⟩] 32)).size (fun k hk e => by omega))
      have hcon := string_any B B (catL ps) w1 (isB_later hB q1) (by have := q1.size; omega)
      clear hrg hone hB hrw
      go_wp2_with fail
      refine hcon.mono ?_
      rintro e w2 ⟨rfl, l2, hok⟩
      have hH2 := hok _ _ hH1 (by intro e; injection e with e; omega) (fun c fz e => by injection e with e1 e2; exact absurd e2 (by decide))
      have hA2 : At w2 wr.heap.size #[.int .i64 q0.f, .int .i64 q0.t, .int .i64 q0.tl, .int .i64 q0.pr, .int .i64 q0.id, .int .i64 q0.fr, .bool q0.mo, .bool q0.dn, .string q0.op, .string q0.da] := by
        refine ⟨(Array.getElem?_eq_some_iff.1 hH2).1, fun i u hu => ⟨?_, ?_⟩⟩
        · simp [World.cell?, hH2]; simpa using hu
        · simp [World.frozen?, hH2]
      have hbb : Below B W0 w2 := (hb.trans (q1.mono (by omega))).trans l2
      have hZ2 := hZ.turn (turn_ge hbb) (by omega)
      obtain ⟨a6, b6⟩ : w2.cell? ⟨wr.heap.size, 6, none⟩ = some (.bool q0.mo) ∧ w2.frozen? ⟨wr.heap.size, 6, none⟩ = false := hA2.2 6 _ rfl
      have hA3 := hA2.set 6 (.bool false)
      obtain ⟨a9, b9⟩ : (w2.setCell ⟨wr.heap.size, 6, none⟩ (.bool false)).cell? ⟨wr.heap.size, 9, none⟩ = some (.string q0.da) ∧ (w2.setCell ⟨wr.heap.size, 6, none⟩ (.bool false)).frozen? ⟨wr.heap.size, 9, none⟩ = false := hA3.2 9 _ rfl
      have hA4 : At ((w2.setCell ⟨wr.heap.size, 6, none⟩ (.bool false)).setCell ⟨wr.heap.size, 9, none⟩ (.string ⟨(catL ps).toArray⟩)) wr.heap.size #[.int .i64 q0.f, .int .i64 q0.t, .int .i64 q0.tl, .int .i64 q0.pr, .int .i64 q0.id, .int .i64 q0.fr, .bool false, .bool q0.dn, .string q0.op, .string ⟨(catL ps).toArray⟩] := hA3.set 9 (.string ⟨(catL ps).toArray⟩)
      have t3 := (turn_set w2 wr.heap.size 6 (.bool false)).trans (turn_set (w2.setCell ⟨wr.heap.size, 6, none⟩ (.bool false)) wr.heap.size 9 (.string ⟨(catL ps).toArray⟩))
      have hZ4 := hZ2.turn t3 (by omega)
      have hb4 : Below w.heap.size w ((w2.setCell ⟨wr.heap.size, 6, none⟩ (.bool false)).setCell ⟨wr.heap.size, 9, none⟩ (.string ⟨(catL ps).toArray⟩)) := (hl.trans (hbb.mono (by omega))).trans (t3.below (by have := hl.size; have := hbb.size; omega) (fun k hk e => by have := hb.size; omega))
      clear hcon hA2 hA3 hZ2 hbb hH2 hok l2 hH1 hB1 ht1 q1 x2' t3
      go_upto_region 9 with fail
      generalize (w2.setCell ⟨wr.heap.size, 6, none⟩ (.bool false)).setCell ⟨wr.heap.size, 9, none⟩ (.string ⟨(catL ps).toArray⟩) = w4 at *
      have hone2 : (#[.int .i64 q0.f, .int .i64 q0.t, .int .i64 q0.tl, .int .i64 q0.pr, .int .i64 q0.id, .int .i64 q0.fr, .bool false, .bool q0.dn, .string q0.op, .string ⟨(catL ps).toArray⟩] : Array Value).all (·.oneCell') = true := by simp [Value.oneCell']
      go_wp2_with (first
        | (refine wpList_load_at rfl 32 _ rfl _ wr.heap.size #[.int .i64 q0.f, .int .i64 q0.t, .int .i64 q0.tl, .int .i64 q0.pr, .int .i64 q0.id, .int .i64 q0.fr, .bool false, .bool q0.dn, .string q0.op, .string ⟨(catL ps).toArray⟩] _ rfl hA4 Try.underlying32 (by kernel_rfl) ?_)
        | (refine wpList_store_at rfl 32 _ _ rfl _ (w.heap.size + 1) #[.int .i64 0, .int .i64 0, .int .i64 0, .int .i64 0, .int .i64 0, .int .i64 0, .bool false, .bool false, .string ⟨#[]⟩, .string ⟨#[]⟩] #[.int .i64 q0.f, .int .i64 q0.t, .int .i64 q0.tl, .int .i64 q0.pr, .int .i64 q0.id, .int .i64 q0.fr, .bool false, .bool q0.dn, .string q0.op, .string ⟨(catL ps).toArray⟩] rfl rfl hZ4 rfl (by kernel_rfl) hone2 ?_; intro w5 hZ5 ht5))
      have r0 := (hZ5.2 0 _ rfl).1
      have r1 := (hZ5.2 1 _ rfl).1
      have r2 := (hZ5.2 2 _ rfl).1
      have r3 := (hZ5.2 3 _ rfl).1
      have r4 := (hZ5.2 4 _ rfl).1
      have r5 := (hZ5.2 5 _ rfl).1
      have r6 := (hZ5.2 6 _ rfl).1
      have r7 := (hZ5.2 7 _ rfl).1
      have r8 := (hZ5.2 8 _ rfl).1
      have r9 := (hZ5.2 9 _ rfl).1
      exact bodyPost_ret (v := .agg #[.int .i64 q0.f, .int .i64 q0.t, .int .i64 q0.tl, .int .i64 q0.pr, .int .i64 q0.id, .int .i64 q0.fr, .bool false, .bool q0.dn, .string q0.op, .string ⟨(catL ps).toArray⟩]) (by simp [results, Try.results40, go_sem, r0, r1, r2, r3, r4, r5, r6, r7, r8, r9]) rfl ⟨rfl, hb4.trans (ht5.below hb4.size (fun k hk e => by omega))⟩
end Go.Proofs.Ytcjhniehbafhpaa
