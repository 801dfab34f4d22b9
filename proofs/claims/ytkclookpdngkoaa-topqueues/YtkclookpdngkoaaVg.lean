/- places: how far behind next the bytes lie that are apart, rising. -/
import Derived.Test.YtkclookpdngkoaaVf
import Derived.Test.YtkclookpdngkoaaVs
import Derived.Sort.OwnSortedInts
namespace Go.Proofs.Ytkclookpdngkoaa.V
open Go.RowKit Go.Maps Go.Sort Go.Lib
set_option maxRecDepth 100000
set_option linter.unusedVariables false
set_option linter.unusedSimpArgs false

/-- slices.Sort of a slice of our own. -/
theorem sort_ints (base : Nat) (v : Value) (zs : List Int) (w : World) (h : Ints w base v zs) (hn : zs.length < 1000000) :
    Calls Try.prog 33 #[v] w fun e w' => e = .returned (.tuple #[]) ∧ Ints w' base v (zs.mergeSort fun x y => decide (x ≤ y)) ∧ Turn (fun k => base ≤ k) w w' := by
  have hl : (zs.mergeSort fun x y => decide (x ≤ y)).length = zs.length := List.length_mergeSort zs
  rcases h.2 with ⟨rfl, h0⟩ | ⟨g, cap, cur, rfl, hg, hb, h1, h2, h3, h4⟩
  · obtain rfl : zs = [] := List.length_eq_zero_iff.1 h0
    refine (Any.slices_Sort_int_none Try.lays189 none 0 w).mono ?_
    rintro e w' ⟨rfl, rfl⟩
    exact ⟨rfl, by simpa using h, Turn.refl _⟩
  · have hH := holds_of_blockI (ss := zs) hb (by rw [Nat.mul_one] at h4; exact h4)
    refine (sort_some g 0 cap zs w hH (Array.getElem?_eq_some_iff.1 hb).1 (by omega)).mono ?_
    rintro e w' ⟨rfl, n, os, rfl⟩
    refine ⟨rfl, ?_, Turn.of_grown (grownBy_sortedI _) (fun j hj => by cases hj; exact Or.inl hg)⟩
    have := ownsRow_sortedI (w := w) (base := base) (n := n) (os := os) (ss := zs) hl hg hb h1 h2 h3
    unfold Ints
    rw [hl]
    exact this
theorem sorted_eq : ∀ {a b : List Int}, a.Perm b → a.Pairwise (· ≤ ·) → b.Pairwise (· ≤ ·) → a = b
  | [], b, hp, _, _ => by rw [List.nil_perm.1 hp]
  | x :: r, [], hp, _, _ => by cases List.perm_nil.1 hp
  | x :: r, y :: s, hp, ha, hb => by
    have hx : x ∈ y :: s := hp.mem_iff.1 (List.mem_cons_self ..)
    have hy : y ∈ x :: r := hp.mem_iff.2 (List.mem_cons_self ..)
    have e : x = y := by
      have h1 : y ≤ x := by
        rcases List.mem_cons.1 hx with h | h
        · omega
        · exact (List.pairwise_cons.1 hb).1 _ h
      have h2 : x ≤ y := by
        rcases List.mem_cons.1 hy with h | h
        · omega
        · exact (List.pairwise_cons.1 ha).1 _ h
      omega
    subst e
    rw [sorted_eq (List.Perm.cons_inv hp) (List.pairwise_cons.1 ha).2 (List.pairwise_cons.1 hb).2]
theorem sort_is {a b : List Int} (hp : a.Perm b) (hb : b.Pairwise (· ≤ ·)) : (a.mergeSort fun x y => decide (x ≤ y)) = b := by
  refine sorted_eq ((List.mergeSort_perm a _).trans hp) ?_ hb
  have := List.pairwise_mergeSort (le := fun x y : Int => decide (x ≤ y)) (fun a b c h1 h2 => by simp at *; omega) (fun a b => by simp; omega) a
  exact this.imp fun h => of_decide_eq_true h
/-- The step of a range over a map of numbers. -/
theorem wpList_next_vm {w : World} {ops : Array Oper} {rest : List Oper} {o : Oper} {a : Act} {Q : Exit → Act → World → Prop} (hg : o.guard = none) (it : Operand) (hop : o.op = Op.next it false) (M r n : Nat) (l : List Vn) (left : Lit → Bool) (cnt : Nat)
    (hit : a.eval it = .pointer (some ⟨r, 0, none⟩)) (h : w.ranges Try.prog 3 hE M r n (vD l) left cnt)
    (hDone : cnt = 0 → (∀ kl, left kl = false) → wpList Try.prog ops Q rest (a.put o.dst (.tuple #[.bool false])) w)
    (hMore : ∀ (x : Int) (v : Value) (w' : World) (cnt' : Nat), (x, v) ∈ l → left (.int .i64 x) = true → w'.ranges Try.prog 3 hE M r n (vD l) (fun z => left z && !z.sameKey (.int .i64 x)) cnt' → cnt' < cnt →
      w.grownBy w' (some r) → w'.heap.size = w.heap.size → (Instr.entry (.pointer (some ⟨r, 0, none⟩))).run Try.prog w' = .ok (.tuple #[.int .i64 x, v]) w' → wpList Try.prog ops Q rest (a.put o.dst (.tuple #[.bool true, .int .i64 x, v])) w') :
    wpList Try.prog ops Q (o :: rest) a w := by
  refine wpList_plain hg fun K' hK' => ?_
  unfold Oper.wp
  rcases h.next law3 o.type with ⟨h0, hl, hrun⟩ | ⟨key, v, kl, y, w', cnt', hkey, hlk, hv, hat, hrun, hrg, hlt, hgr, hsz, hen⟩
  · simp [execOp, hop, hit, hrun, Result.andThen]
    exact hK' _ _ (hDone h0 hl)
  · unfold hE at hv
    injection hv with hv
    subst hv
    obtain ⟨x, rfl, rfl, hwx⟩ := Maps.keyOf_int_inv Try.underlying3 hkey
    have h1 := hat (.held (.bool true))
    have h2 := hat (.held (.bool false))
    rw [at_vD] at h1 h2
    have hm : (x, v) ∈ l := by
      cases hq : vlk l x with
      | none =>
        rw [hq] at h1 h2
        simp only [Option.getD_none] at h1 h2
        rw [← h2] at h1
        cases h1
      | some u =>
        rw [hq] at h1
        have h3 : DataW.held u = .held v := h1
        injection h3 with h3
        rw [h3] at hq
        exact vlk_mem hq
    simp [execOp, hop, hit, hrun, Result.andThen]
    exact hK' _ _ (hMore x v w' cnt' hm hlk hrg hlt hgr hsz hen)
theorem rg_turn {S : Nat → Prop} {w w' : World} {M r n cnt : Nat} {D : DataW Value} {left : Lit → Bool} (h : w.ranges Try.prog 3 hE M r n D left cnt) (ht : Turn S w w') (hM : ¬ S M) (hr : ¬ S r) : w'.ranges Try.prog 3 hE M r n D left cnt := by
  obtain ⟨es, clock, since, seen, c0, hb, F, hs, hD, hr', rest⟩ := h
  exact ⟨es, clock, since, seen, c0, (ht.block M (Array.getElem?_eq_some_iff.1 hb).1 hM).trans hb, F, hs, hD, (ht.block r (Array.getElem?_eq_some_iff.1 hr').1 hr).trans hr', rest⟩
theorem left_all {l : List Vn} {e : Vn} (he : e ∈ l) : Maps.has (vD l) (.int .i64 e.1) = true := by
  rw [has_vD]
  cases hq : vlk l e.1 with
  | some _ => rfl
  | none =>
    unfold vlk at hq
    rw [Option.map_eq_none_iff, List.find?_eq_none] at hq
    have := hq e he
    simp at this

/-- What a range has passed. -/
def seen (left : Lit → Bool) (l : List Vn) : List Vn := l.filter fun e => !left (.int .i64 e.1)
theorem seen_start (l : List Vn) : seen (Maps.has (vD l)) l = [] := by
  unfold seen
  rw [List.filter_eq_nil_iff]
  intro e he
  rw [left_all he]
  simp
theorem seen_end (l : List Vn) {left : Lit → Bool} (h : ∀ k, left k = false) : seen left l = l := by
  unfold seen
  rw [List.filter_eq_self]
  intro e _
  rw [h]; rfl
theorem seen_new : ∀ {l : List Vn}, VRise l → ∀ {left : Lit → Bool} {x : Int} {v : Value}, (x, v) ∈ l → left (.int .i64 x) = true →
    (seen (fun z => left z && !z.sameKey (.int .i64 x)) l).Perm ((x, v) :: seen left l)
  | [], _, _, _, _, hm, _ => by cases hm
  | y :: r, hr, left, x, v, hm, hl => by
    have hy := List.pairwise_cons.1 hr
    unfold seen
    rcases List.mem_cons.1 hm with h | h
    · subst h
      have e3 : (r.filter fun e => !(left (.int .i64 e.1) && !(Lit.int .i64 e.1).sameKey (.int .i64 x))) = r.filter fun e => !left (.int .i64 e.1) := by
        refine List.filter_congr fun e he => ?_
        have := hy.1 e he
        have h1 : (e.1 == x) = false := by simp; simp at this; omega
        simp [h1, same_int]
      rw [List.filter_cons_of_pos (by simp [same_int]), List.filter_cons_of_neg (by simp [hl]), e3]
    · have ih := seen_new hy.2 h hl
      unfold seen at ih
      have hne : (y.1 == x) = false := by have := hy.1 _ h; simp; simp at this; omega
      cases hq : left (.int .i64 y.1) with
      | false =>
        rw [List.filter_cons_of_pos (by simp [hq]), List.filter_cons_of_pos (by simp [hq])]
        exact (ih.cons y).trans (List.Perm.swap _ _ _)
      | true =>
        rw [List.filter_cons_of_neg (by simp [hq, hne, same_int]), List.filter_cons_of_neg (by simp [hq])]
        exact ih
/-- How far behind next the bytes lie that are apart. -/
def offs (Q : Rq) : List Nat := (List.range Q.room).filter fun d => (Q.ap d).isSome
def offI (l : List Nat) : List Int := l.map fun (n : Nat) => (n : Int)
theorem offs_lt {Q : Rq} {x : Nat} (h : x ∈ offs Q) : x < Q.room ∧ (Q.ap x).isSome = true := by
  have := List.mem_filter.1 h
  exact ⟨List.mem_range.1 this.1, this.2⟩
theorem offs_rise (Q : Rq) : (offs Q).Pairwise (· < ·) := List.Pairwise.filter _ List.pairwise_lt_range
theorem offs_perm {next : Int} {l : List Vn} {Q : Rq} (hf : Q.Fine) (h : Rep Q.next Q.ap l) (hl : VRise l) : (offL Q.next l).Perm (offs Q) := by
  have hn := hf.n0
  have hn1 := hf.n1
  have r1 := hf.r1
  have hnd := off_nodup h hl
  have hno : (offs Q).Nodup := (offs_rise Q).imp (fun h => Nat.ne_of_lt h)
  have key : ∀ {a b : List Nat}, a.Nodup → b.Nodup → (∀ x, x ∈ a ↔ x ∈ b) → a.Perm b := by
    intro a
    induction a with
    | nil =>
      intro b _ _ h
      cases b with
      | nil => exact List.Perm.refl _
      | cons y r => exact absurd ((h y).2 (List.mem_cons_self ..)) (by simp)
    | cons x r ih =>
      intro b ha hb h
      have hx : x ∈ b := (h x).1 (List.mem_cons_self ..)
      obtain ⟨hxr, hr⟩ := List.nodup_cons.1 ha
      have h2 := ih hr (hb.erase x) (fun y => by
        rw [List.Nodup.mem_erase_iff hb]
        constructor
        · intro hy
          exact ⟨fun e => hxr (e ▸ hy), (h y).1 (List.mem_cons_of_mem _ hy)⟩
        · rintro ⟨h1, h3⟩
          rcases List.mem_cons.1 ((h y).2 h3) with e | e
          · exact absurd e h1
          · exact e)
      exact (h2.cons x).trans (List.perm_cons_erase hx).symm
  refine key hnd hno (fun x => ?_)
  constructor
  · intro hx
    have hs : (Q.ap x).isSome = true := by
      obtain ⟨e, he, rfl⟩ := List.mem_map.1 hx
      exact (key_range h hl he).2.2
    have := hf.ok x hs
    exact List.mem_filter.2 ⟨List.mem_range.2 (by omega), hs⟩
  · intro hx
    have h1 := offs_lt hx
    exact (off_mem h hl hn (by omega) x (by omega)).2 h1.2
set_option maxHeartbeats 1000000 in
theorem places_any {w : World} {A : Bk} {q : Nat} {Q : Rq} (hX : QX w A q Q) (hf : Q.Fine) :
    Calls Try.prog 22 #[PQ q] w fun e w' => ∃ v, e = .returned v ∧ Ints w' w.heap.size v (offI (offs Q)) ∧ Below w.heap.size w w' := by
  obtain ⟨M, v0, l, h⟩ := hX
  have r1 := hf.r1
  have n0 := hf.n0
  have n1 := hf.n1
  have hbd : ∀ d, (Q.ap d).isSome = true → d < 65537 := fun d hd => by have := hf.ok d hd; omega
  have hll := rep_len h.rep h.vm.2 hbd
  have hperm := offs_perm (next := Q.next) hf h.rep h.vm.2
  obtain ⟨⟨c0, c1, c2, c3⟩, -⟩ := h.at4.four
  have hMl := h.vm.lt
  have hM := h.vm
  go_enter Try.func22, Try.ntmps22
  go_wp2_with (first
    | (at_range; refine wpList_range_own _ rfl _ 54 rfl 3 5 law3 Try.underlying54 _ M l.length _ rfl hM.1 ?_; intro wz hrg0 hgr0 hs0)
    | go_in)
  try go_frame
  have hb0 : Below w.heap.size w wz := ⟨hgr0.os, hgr0.tape, hgr0.output, hgr0.size, fun k hk => hgr0.block k hk (by simp)⟩
  go_loopw [3] (fun out wr => ∃ (v : Value) (left : Lit → Bool) (cnt : Nat) (zs : List Int), v = out ∧ wr.ranges Try.prog 3 hE M w.heap.size l.length (vD l) left cnt ∧ Ints wr (w.heap.size + 1) v zs ∧ zs.Perm ((seen left l).map fun e => (e.1 - Q.next) % 4294967296) ∧ Below w.heap.size w wr)
    (fun _ wr => wr.rangeLeft M w.heap.size)
  case atStart => exact ⟨_, _, _, [], rfl, hrg0, Ints.nil _ _, by rw [seen_start]; exact List.Perm.refl _, hb0⟩
  case round =>
    obtain ⟨v, left, cnt, zs, rfl, hrg, hI, hp, hb⟩ := hrel
    have hzl : zs.length ≤ l.length := by
      have := hp.length_eq
      rw [List.length_map] at this
      exact this ▸ List.length_filter_le _ _
    go_wp2_with (first
      | (at_next; refine wpList_next_vm rfl _ rfl M w.heap.size l.length l _ _ rfl hrg ?_ ?_)
      | go_in)
    · intro _ hl0
      go_wp2_with fail
      refine (sort_ints (w.heap.size + 1) v zs wr hI (by omega)).mono ?_
      rintro e w1 ⟨rfl, hI1, ht1⟩
      go_wp2
      go_ret
      refine ⟨v, rfl, ?_, hb.trans (ht1.below hb.size (fun k hk he => by omega))⟩
      have e0 : (l.map fun e => (e.1 - Q.next) % 4294967296) = offI (offL Q.next l) := by
        unfold offI offL
        rw [List.map_map]
        refine List.map_congr_left fun e _ => ?_
        show _ = ((((e.1 - Q.next) % 4294967296).toNat : Nat) : Int)
        omega
      have e1 : (zs.mergeSort fun x y => decide (x ≤ y)) = offI (offs Q) := by
        refine sort_is ?_ ?_
        · rw [seen_end l hl0, e0] at hp
          exact hp.trans (hperm.map _)
        · unfold offI
          rw [List.pairwise_map]
          exact (offs_rise Q).imp fun h => by omega
      rw [e1] at hI1
      exact hI1.below (Nat.le_succ _)
    · intro x u w1 cnt1 hxm hlx hrg1 hlt hgr1 hs1 hen
      obtain ⟨x0, x1, -⟩ := key_range h.rep h.vm.2 hxm
      have hr1 : Turn (fun k => k = w.heap.size) wr w1 := Turn.of_grown hgr1 (fun j h => by cases h; exact Or.inl rfl)
      have hbw1 : Below w.heap.size w w1 := hb.trans (hr1.below hb.size (fun k hk he => by omega))
      have hI1 : Ints w1 (w.heap.size + 1) v zs := row_turn hI hr1 (fun k hk e => by have := own_ge hI k hk; omega)
      have d1 : w1.cell? ⟨q, 1, none⟩ = some (.int .i64 Q.next) := later hbw1 c1
      have hdist := dist_any Q.next x w1
      have e1 : numB Q.next = true := numB_mk n0 n1
      have e2 : numB x = true := numB_mk x0 (by simp at x1; omega)
      rw [distV, e1, e2] at hdist
      simp only [Bool.and_self, if_true, codeOf_true] at hdist
      have hbase : w.heap.size + 1 ≤ w1.heap.size := hrg1.lt
      obtain ⟨dx, hdx⟩ : ∃ y, y = (x - Q.next) % 4294967296 := ⟨_, rfl⟩
      rw [← hdx] at hdist
      have HD : Hid (dx = (x - Q.next) % 4294967296) := hdx
      clear hdx e1 e2 hs1
      go_wp2_with fail
      refine hdist.mono ?_
      rintro e w2 ⟨rfl, rfl⟩
      go_wp2_with (first
        | (at_builtin; refine wpList_append1 rfl _ _ rfl (w.heap.size + 1) v zs dx rfl hI1 rfl hbase (by omega) ?_; intro v3 w3 hI3 hb3 ht3)
        | go_in)
      have hrg3 := rg_turn hrg1 ht3 (fun e => by have := own_ge hI1 M e; omega) (fun e => by have := own_ge hI1 _ e; omega)
      go_roundw
      case rel =>
        refine ⟨v3, _, cnt1, zs ++ [dx], rfl, hrg3, hI3, ?_, hbw1.trans (hb3.mono (Nat.le_succ _))⟩
        have h9 := (seen_new h.vm.2 hxm hlx).map (fun e : Vn => (e.1 - Q.next) % 4294967296)
        rw [HD.out]
        exact (List.perm_append_comm.trans (hp.cons _)).trans h9.symm
      case measure => rw [hrg3.left_eq, hrg.left_eq]; exact hlt
end Go.Proofs.Ytkclookpdngkoaa.V
