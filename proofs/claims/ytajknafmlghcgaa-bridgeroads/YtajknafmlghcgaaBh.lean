/- Known: the addresses that are known, rising. -/
import Derived.Test.YtajknafmlghcgaaBg
import Derived.Test.YtajknafmlghcgaaBs
import Derived.Sort.OwnSortedInts
namespace Go.Proofs.Ytajknafmlghcgaa
open Go.RowKit Go.Maps Go.Sort
set_option maxRecDepth 100000
set_option linter.unusedVariables false
set_option linter.unusedSimpArgs false

theorem Turn.grown {w w' : World} {row : Option Nat} (h : Turn (fun k => row = some k) w w') : w.grownBy w' row := ⟨h.os, h.tape, h.output, h.size, fun k hk hne => h.block k hk (fun e => hne e.symm)⟩
/-- slices.Sort of a slice of our own. -/
theorem sort_ints (base : Nat) (v : Value) (zs : List Int) (w : World) (h : Ints w base v zs) (hn : zs.length < 1000000) :
    Calls Try.prog 34 #[v] w fun e w' => e = .returned (.tuple #[]) ∧ Ints w' base v (zs.mergeSort fun x y => decide (x ≤ y)) ∧ Turn (fun k => base ≤ k) w w' := by
  have hl : (zs.mergeSort fun x y => decide (x ≤ y)).length = zs.length := List.length_mergeSort zs
  rcases h.2 with ⟨rfl, h0⟩ | ⟨g, cap, cur, rfl, hg, hb, h1, h2, h3, h4⟩
  · obtain rfl : zs = [] := List.length_eq_zero_iff.1 h0
    refine (Any.slices_Sort_int_none Try.lays189 none 0 w).mono ?_
    rintro e w' ⟨rfl, rfl⟩
    exact ⟨rfl, by simpa using h, Turn.refl _⟩
  · have hH := holds_of_blockI (ss := zs) hb (by rw [Nat.mul_one] at h4; exact h4)
    refine (sort_some g 0 cap zs w hH (Array.getElem?_eq_some_iff.1 hb).1 (by omega)).mono ?_
    rintro e w' ⟨rfl, n, os, rfl⟩
    refine ⟨rfl, ?_, Turn.of_grown (grownBy_sortedI _) (fun j hj => by cases hj; exact Or.inl hg)⟩
    have := ownsRow_sortedI (w := w) (base := base) (n := n) (os := os) (ss := zs) hl hg hb h1 h2 h3
    unfold Ints
    rw [hl]
    exact this
theorem sorted_eq : ∀ {a b : List Int}, a.Perm b → a.Pairwise (· ≤ ·) → b.Pairwise (· ≤ ·) → a = b
  | [], b, hp, _, _ => by rw [List.nil_perm.1 hp]
  | x :: r, [], hp, _, _ => by cases List.perm_nil.1 hp
  | x :: r, y :: s, hp, ha, hb => by
    have hx : x ∈ y :: s := hp.mem_iff.1 (List.mem_cons_self ..)
    have hy : y ∈ x :: r := hp.mem_iff.2 (List.mem_cons_self ..)
    have e : x = y := by
      have h1 : y ≤ x := by
        rcases List.mem_cons.1 hx with h | h
        · omega
        · exact (List.pairwise_cons.1 hb).1 _ h
      have h2 : x ≤ y := by
        rcases List.mem_cons.1 hy with h | h
        · omega
        · exact (List.pairwise_cons.1 ha).1 _ h
      omega
    subst e
    rw [sorted_eq (List.Perm.cons_inv hp) (List.pairwise_cons.1 ha).2 (List.pairwise_cons.1 hb).2]
theorem sort_is {a b : List Int} (hp : a.Perm b) (hb : b.Pairwise (· ≤ ·)) : (a.mergeSort fun x y => decide (x ≤ y)) = b := by
  refine sorted_eq ((List.mergeSort_perm a _).trans hp) ?_ hb
  have := List.pairwise_mergeSort (le := fun x y : Int => decide (x ≤ y)) (fun a b c h1 h2 => by simp at *; omega) (fun a b => by simp; omega) a
  exact this.imp fun h => of_decide_eq_true h
def knownL (ag now : Int) (l : List En) : List Int := (oldL ag now l).map (·.1)
theorem known_rise {ag now : Int} {l : List En} (h : Rise l) : (knownL ag now l).Pairwise (· ≤ ·) := by
  unfold knownL oldL
  rw [List.pairwise_map]
  exact (List.Pairwise.filter _ h).imp fun h => by omega
def seenF (ag now : Int) (left : Lit → Bool) (e : En) : Bool := !left (.int .i64 e.1) && !decide (e.2.2 + ag ≤ now)
theorem seen_start (l : List En) (ag now : Int) : l.filter (seenF ag now (Maps.has (toD l))) = [] := by
  rw [List.filter_eq_nil_iff]
  intro e he
  unfold seenF
  rw [has_toD]
  have : (l.any fun x => x.1 == e.1) = true := List.any_eq_true.2 ⟨e, he, by simp⟩
  rw [this]; simp
theorem seen_end (l : List En) (ag now : Int) {left : Lit → Bool} (h : ∀ k, left k = false) : l.filter (seenF ag now left) = oldL ag now l := by
  unfold oldL
  exact List.filter_congr fun e _ => by unfold seenF; rw [h]; simp
theorem seen_old {l : List En} (hr : Rise l) {ag now : Int} {left : Lit → Bool} {x p t : Int} (hm : (x, p, t) ∈ l) (ho : t + ag ≤ now) :
    l.filter (seenF ag now (fun z => left z && !z.sameKey (.int .i64 x))) = l.filter (seenF ag now left) := by
  refine List.filter_congr fun e he => ?_
  unfold seenF
  by_cases hx : e.1 = x
  · have := uniq hr he hm hx
    subst this
    simp [ho]
  · have h1 : (e.1 == x) = false := by simpa using hx
    simp [h1, same_int]
theorem seen_new : ∀ {l : List En}, Rise l → ∀ {ag now : Int} {left : Lit → Bool} {x p t : Int}, (x, p, t) ∈ l → left (.int .i64 x) = true → ¬ t + ag ≤ now →
    (l.filter (seenF ag now (fun z => left z && !z.sameKey (.int .i64 x)))).Perm ((x, p, t) :: l.filter (seenF ag now left))
  | [], _, _, _, _, _, _, _, hm, _, _ => by cases hm
  | y :: r, hr, ag, now, left, x, p, t, hm, hl, ho => by
    have hy := List.pairwise_cons.1 hr
    rcases List.mem_cons.1 hm with h | h
    · subst h
      have e1 : seenF ag now (fun z => left z && !z.sameKey (.int .i64 x)) (x, p, t) = true := by unfold seenF; simp [same_int]; omega
      have e2 : seenF ag now left (x, p, t) = false := by unfold seenF; simp [hl]
      have e3 : r.filter (seenF ag now (fun z => left z && !z.sameKey (.int .i64 x))) = r.filter (seenF ag now left) := by
        refine List.filter_congr fun e he => ?_
        have := hy.1 e he
        have h1 : (e.1 == x) = false := by simp; simp at this; omega
        unfold seenF
        simp [h1, same_int]
      rw [List.filter_cons_of_pos e1, List.filter_cons_of_neg (by simp [e2]), e3]
    · have ih := seen_new hy.2 h hl ho
      have hne : (y.1 == x) = false := by have := hy.1 _ h; simp; simp at this; omega
      have e1 : seenF ag now (fun z => left z && !z.sameKey (.int .i64 x)) y = seenF ag now left y := by unfold seenF; simp [hne, same_int]
      cases hq : seenF ag now left y with
      | true =>
        rw [List.filter_cons_of_pos (by rw [e1, hq]), List.filter_cons_of_pos (by rw [hq])]
        exact (ih.cons y).trans (List.Perm.swap _ _ _)
      | false =>
        rw [List.filter_cons_of_neg (by rw [e1, hq]; simp), List.filter_cons_of_neg (by rw [hq]; simp)]
        exact ih
set_option maxHeartbeats 2000000 in
theorem known_any (B M : Nat) (po ag ro la : Int) (now : Int) (l : List En) (w : World) (hB : At w B (brV po ag ro la M)) (hM : Lrn w M l) (hg0 : 1 ≤ ag) (hg1 : ag ≤ 1048576) (hn : l.length < 5000) :
    Calls Try.prog 19 #[.pointer (some ⟨B, 0, none⟩), .int .i64 now] w fun e w' => ∃ v, e = .returned v ∧ Ints w' w.heap.size v (knownL ag now l) ∧ Below w.heap.size w w' := by
  have c4 : w.cell? ⟨B, 4, none⟩ = some (.map (some M)) := (hB.2 4 _ rfl).1
  have hMl := hM.1.lt
  go_enter Try.func19, Try.ntmps19
  go_wp2_with (first
    | (at_range; refine wpList_range_own _ rfl _ 56 rfl 3 65 law3 Try.underlying56 _ M l.length _ rfl hM.1 ?_; intro w0 hrg0 hgr0 hs0)
    | go_in)
  go_frame
  have hb0 : Below w.heap.size w w0 := ⟨hgr0.os, hgr0.tape, hgr0.output, hgr0.size, fun k hk => hgr0.block k hk (by simp)⟩
  go_loopw [5, 13] (fun out _ wr => ∃ (v : Value) (left : Lit → Bool) (cnt : Nat) (zs : List Int), v = out ∧ wr.ranges Try.prog 3 hElem M w.heap.size l.length (toD l) left cnt ∧ Ints wr (w.heap.size + 1) v zs ∧ zs.Perm ((l.filter (seenF ag now left)).map (·.1)) ∧ Below w.heap.size w wr)
    (fun _ _ wr => wr.rangeLeft M w.heap.size)
  case atStart => exact ⟨_, _, _, [], rfl, hrg0, Ints.nil _ _, by rw [seen_start]; exact List.Perm.refl _, hb0⟩
  case round =>
    obtain ⟨v, left, cnt, zs, rfl, hrg, hI, hp, hb⟩ := hrel
    have hzl : zs.length ≤ l.length := by
      have := hp.length_eq
      rw [List.length_map] at this
      exact this ▸ List.length_filter_le _ _
    go_wp2_with (first
      | (at_next; refine wpList_next_h rfl _ rfl M w.heap.size l.length _ _ _ rfl hrg ?_ ?_)
      | (go_at_call 34; fail))
    · intro _ hl0
      go_wp2_with fail
      refine (sort_ints (w.heap.size + 1) v zs wr hI (by omega)).mono ?_
      rintro e w1 ⟨rfl, hI1, ht1⟩
      go_wp2
      go_ret
      refine ⟨v, rfl, ?_, hb.trans (ht1.below hb.size (fun k hk he => by omega))⟩
      have e1 : (zs.mergeSort fun x y => decide (x ≤ y)) = knownL ag now l := sort_is (by rw [seen_end l ag now hl0] at hp; exact hp) (known_rise hM.2.1)
      rw [e1] at hI1
      exact hI1.below (Nat.le_succ _)
    · intro x p t w1 cnt1 hwx hok hlx hlk hrg1 hlt hgr1 hs1 hen
      have hxm := lk_mem hlk
      have hr1 : Turn (fun k => k = w.heap.size) wr w1 := Turn.of_grown hgr1 (fun j h => by cases h; exact Or.inl rfl)
      have hbw1 : Below w.heap.size w w1 := hb.trans (hr1.below hb.size (fun k hk he => by omega))
      have hI1 : Ints w1 (w.heap.size + 1) v zs := by
        obtain ⟨i1, i2⟩ := hI
        refine ⟨i1, ?_⟩
        rcases i2 with h | ⟨g, cap, cur, a1, a2, a3, a4⟩
        · exact Or.inl h
        · have hgl := (Array.getElem?_eq_some_iff.1 a3).1
          exact Or.inr ⟨g, cap, cur, a1, a2, (hr1.block g hgl (by omega)).trans a3, a4⟩
      have hb1 := bel1 w1 (.cells #[.int .i64 p, .int .i64 t] 65)
      have hB1 := (hB.later hbw1).later hb1
      have hH := At.box w1 #[.int .i64 p, .int .i64 t] 65
      go_wp2_with fail
      refine (old_any B po ag ro la M p t now _ hB1 hok hg0 hg1).mono ?_
      rintro e w2 ⟨rfl, hb2⟩
      have hrg2 := rg_later (rg_later hrg1 hb1) hb2
      have hbb := bt hb1 hb2
      have hbw2 : Below w.heap.size w w2 := bt hbw1 hbb
      have hI2 : Ints w2 (w.heap.size + 1) v zs := by
        obtain ⟨i1, i2⟩ := hI1
        refine ⟨i1, ?_⟩
        rcases i2 with h | ⟨g, cap, cur, a1, a2, a3, a4⟩
        · exact Or.inl h
        · exact Or.inr ⟨g, cap, cur, a1, a2, (hbb.block g (Array.getElem?_eq_some_iff.1 a3).1).trans a3, a4⟩
      have hbase : w.heap.size + 1 ≤ w2.heap.size := hrg2.lt
      by_cases ho : t + ag ≤ now
      · rw [decide_eq_true ho]
        go_wp2
        go_roundw
        case rel => exact ⟨v, _, cnt1, zs, rfl, hrg2, hI2, by rw [seen_old hM.2.1 hxm ho]; exact hp, hbw2⟩
        case measure => rw [hrg2.left_eq, hrg.left_eq]; exact hlt
      · rw [decide_eq_false ho]
        go_wp2_with (first
          | (at_builtin; refine wpList_append1 rfl _ _ rfl (w.heap.size + 1) v zs x rfl hI2 rfl hbase (by omega) ?_; intro v3 w3 hI3 hb3 ht3)
          | go_in)
        have hgw := ht3.grown
        have hM2 : some M ≠ v.ownBlock := fun e => by have := own_ge hI2 M e.symm; omega
        have hr2 : some w.heap.size ≠ v.ownBlock := fun e => by have := own_ge hI2 _ e.symm; omega
        have hrg3 := hrg2.kept hgw hM2 hr2
        go_roundw
        case rel =>
          refine ⟨v3, _, cnt1, zs ++ [x], rfl, hrg3, hI3, ?_, hbw2.trans (hb3.mono (Nat.le_succ _))⟩
          have h9 := (seen_new (ag := ag) (now := now) hM.2.1 hxm hlx (by omega)).map (fun e : En => e.1)
          exact (List.perm_append_comm.trans (hp.cons x)).trans h9.symm
        case measure => rw [hrg3.left_eq, hrg.left_eq]; exact hlt
end Go.Proofs.Ytajknafmlghcgaa
