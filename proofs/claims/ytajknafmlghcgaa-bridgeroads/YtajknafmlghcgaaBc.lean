/- forget: what is gone is struck from the map, whichever entry comes first. -/
import Derived.Test.YtajknafmlghcgaaBb
namespace Go.Proofs.Ytajknafmlghcgaa
open Go.RowKit Go.Maps
set_option maxRecDepth 100000
set_option linter.unusedVariables false
set_option linter.unusedSimpArgs false

theorem uniq {l : List En} (h : Rise l) {e e' : En} (he : e ∈ l) (he' : e' ∈ l) (hk : e.1 = e'.1) : e = e' := by
  induction l with
  | nil => cases he
  | cons y r ih =>
    have hy := (List.pairwise_cons.1 h)
    rcases List.mem_cons.1 he with h1 | h1
    · rcases List.mem_cons.1 he' with h2 | h2
      · rw [h1, h2]
      · have := hy.1 _ h2; rw [h1] at hk; omega
    · rcases List.mem_cons.1 he' with h2 | h2
      · have := hy.1 _ h1; rw [h2] at hk; omega
      · exact ih hy.2 h1 h2
theorem lk_mem {l : List En} {k p t : Int} (h : lk l k = some (p, t)) : (k, p, t) ∈ l := by
  unfold lk at h
  cases hf : l.find? (fun e => e.1 == k) with
  | none => rw [hf] at h; cases h
  | some e =>
    rw [hf] at h
    obtain ⟨a, b, c⟩ := e
    have h1 : a = k := by simpa using List.find?_some hf
    have h2 : (b, c) = (p, t) := Option.some.inj h
    cases h2
    subst h1
    exact List.mem_of_find?_eq_some hf
theorem lk_of_mem {l : List En} (hr : Rise l) {k p t : Int} (h : (k, p, t) ∈ l) : lk l k = some (p, t) := by
  unfold lk
  cases hf : l.find? (fun e => e.1 == k) with
  | none =>
    have := List.find?_eq_none.1 hf _ h
    simp at this
  | some e =>
    have h1 : e.1 = k := by simpa using List.find?_some hf
    have := uniq hr (List.mem_of_find?_eq_some hf) h h1
    subst this
    rfl
def stF (g : En → Bool) (left : Lit → Bool) (e : En) : Bool := !g e || left (.int .i64 e.1)
theorem st_start (l : List En) (g : En → Bool) : l.filter (stF g (Maps.has (toD l))) = l := by
  rw [List.filter_eq_self]
  intro e he
  unfold stF
  rw [has_toD]
  have : (l.any fun x => x.1 == e.1) = true := List.any_eq_true.2 ⟨e, he, by simp⟩
  rw [this]; simp
theorem st_end (l : List En) (g : En → Bool) {left : Lit → Bool} (h : ∀ k, left k = false) : l.filter (stF g left) = l.filter fun e => !g e :=
  List.filter_congr fun e _ => by unfold stF; rw [h]; simp
theorem st_who {l : List En} (hr : Rise l) {g : En → Bool} {left : Lit → Bool} {x p t : Int} (hlx : left (.int .i64 x) = true) (hlk : lk (l.filter (stF g left)) x = some (p, t)) {e : En} (he : e ∈ l) (hx : e.1 = x) : e = (x, p, t) :=
  uniq hr he (List.mem_filter.1 (lk_mem hlk)).1 hx
theorem st_struck {l : List En} (hr : Rise l) {g : En → Bool} {left : Lit → Bool} {x p t : Int} (hlx : left (.int .i64 x) = true) (hlk : lk (l.filter (stF g left)) x = some (p, t)) (hg : g (x, p, t) = true) :
    (l.filter (stF g left)).filter (fun e => e.1 != x) = l.filter (stF g (fun z => left z && !z.sameKey (.int .i64 x))) := by
  rw [List.filter_filter]
  refine List.filter_congr fun e he => ?_
  unfold stF
  by_cases hx : e.1 = x
  · have := st_who hr hlx hlk he hx
    subst this
    simp [hg, same_int]
  · have h1 : (e.1 == x) = false := by simpa using hx
    simp [bne, h1, same_int]
theorem st_stays {l : List En} (hr : Rise l) {g : En → Bool} {left : Lit → Bool} {x p t : Int} (hlx : left (.int .i64 x) = true) (hlk : lk (l.filter (stF g left)) x = some (p, t)) (hg : g (x, p, t) = false) :
    l.filter (stF g left) = l.filter (stF g (fun z => left z && !z.sameKey (.int .i64 x))) := by
  refine List.filter_congr fun e he => ?_
  unfold stF
  by_cases hx : e.1 = x
  · have := st_who hr hlx hlk he hx
    subst this
    simp [hg]
  · have h1 : (e.1 == x) = false := by simpa using hx
    simp [bne, h1, same_int]
theorem rg_later {w w' : World} {M r n cnt : Nat} {D : DataW Unit} {left : Lit → Bool} (h : w.ranges Try.prog 3 hElem M r n D left cnt) (hb : Below w.heap.size w w') : w'.ranges Try.prog 3 hElem M r n D left cnt :=
  h.kept (row := none) ⟨hb.os, hb.tape, hb.output, hb.size, fun k hk _ => hb.block k hk⟩ (by simp) (by simp)
theorem at_ne {w : World} {B M : Nat} {u : Value} {o : Nat} {l : List En} (h : w.cell? ⟨B, o, none⟩ = some u) (hM : Lrn w M l) : B ≠ M := by
  rintro rfl
  obtain ⟨⟨es, clock, hb, -⟩, -⟩ := hM
  simp [World.cell?, hb] at h
/-- The step of a range over what was learnt. -/
theorem wpList_next_h {w : World} {ops : Array Oper} {rest : List Oper} {o : Oper} {a : Act} {Q : Exit → Act → World → Prop} (hg : o.guard = none) (it : Operand) (hop : o.op = Op.next it false) (M r n : Nat) (l : List En) (left : Lit → Bool) (cnt : Nat)
    (hit : a.eval it = .pointer (some ⟨r, 0, none⟩)) (h : w.ranges Try.prog 3 hElem M r n (toD l) left cnt)
    (hDone : cnt = 0 → (∀ kl, left kl = false) → wpList Try.prog ops Q rest (a.put o.dst (.tuple #[.bool false])) w)
    (hMore : ∀ (x p t : Int) (w' : World) (cnt' : Nat), (Lit.int .i64 x).wf = true → okH p t → left (.int .i64 x) = true → lk l x = some (p, t) → w'.ranges Try.prog 3 hElem M r n (toD l) (fun z => left z && !z.sameKey (.int .i64 x)) cnt' → cnt' < cnt →
      w.grownBy w' (some r) → w'.heap.size = w.heap.size → (Instr.entry (.pointer (some ⟨r, 0, none⟩))).run Try.prog w' = .ok (.tuple #[.int .i64 x, .agg #[.int .i64 p, .int .i64 t]]) w' → wpList Try.prog ops Q rest (a.put o.dst (.tuple #[.bool true, .int .i64 x, .agg #[.int .i64 p, .int .i64 t]])) w') :
    wpList Try.prog ops Q (o :: rest) a w := by
  refine wpList_next_ranges w hg it hop 3 law3 hElem (fun x : Int => Value.int .i64 x) (fun c : Int × Int => .agg #[.int .i64 c.1, .int .i64 c.2]) inv3 invH M r n (toD l) left cnt hit h hDone ?_
  intro x c kl y w' cnt' hkey hlk hv hat hrg hlt hgr hsz hen
  obtain ⟨x', ex, rfl, hwx⟩ := Maps.keyOf_int_inv Try.underlying3 hkey
  cases ex
  obtain ⟨c', ec, rfl, hok⟩ := hElem_inv hv
  obtain ⟨p, t⟩ := c
  obtain ⟨p', t'⟩ := c'
  simp only [Value.agg.injEq, Array.mk.injEq, List.cons.injEq, Value.int.injEq, true_and, and_true] at ec
  obtain ⟨rfl, rfl⟩ := ec
  refine hMore x p t w' cnt' hwx hok hlk ?_ hrg hlt hgr hsz hen
  have h0 := hat (.lit (.bool true))
  rw [at_toD] at h0
  cases hq : lk l x with
  | none => rw [hq] at h0; cases h0
  | some c =>
    rw [hq] at h0
    simp only [DataW.agg.injEq, List.cons.injEq, DataW.lit.injEq, Lit.int.injEq, and_true, true_and] at h0
    exact congrArg some (Prod.ext h0.1 h0.2)
set_option maxHeartbeats 1000000 in
theorem forget_take (B M Bb Bn : Nat) (po ag ro la now : Int) (l : List En) (w : World) (hB : At w B (brV po ag ro la M)) (hM : Lrn w M l) (hg0 : 1 ≤ ag) (hg1 : ag ≤ 1048576) (hBb : w.cell? ⟨Bb, 0, none⟩ = some (.pointer (some ⟨B, 0, none⟩))) (hBn : w.cell? ⟨Bn, 0, none⟩ = some (.int .i64 now)) :
    Calls Try.prog 24 #[.pointer (some ⟨B, 0, none⟩), .func (.func 26) #[] #[.pointer (some ⟨Bb, 0, none⟩), .pointer (some ⟨Bn, 0, none⟩)]] w fun e w' => e = .returned (.tuple #[]) ∧ Lrn w' M (l.filter fun e => !(decide (e.2.2 + ag ≤ now))) ∧ Turn (fun k => k = M) w w' := by
  have hne : B ≠ M := at_ne (hB.2 0 _ rfl).1 hM
  have nBb : Bb ≠ M := at_ne hBb hM
  have nBn : Bn ≠ M := at_ne hBn hM
  have c4 : w.cell? ⟨B, 4, none⟩ = some (.map (some M)) := (hB.2 4 _ rfl).1
  go_enter Try.func24, Try.ntmps24
  go_wp2_with (first
    | (at_range; refine wpList_range_own _ rfl _ 56 rfl 3 65 law3 Try.underlying56 _ M l.length _ rfl hM.1 ?_; intro w0 hrg0 hgr0 hs0)
    | go_in)
  go_frame
  go_loopw [11] (fun _ wr => ∃ (left : Lit → Bool) (cnt : Nat), wr.ranges Try.prog 3 hElem M w.heap.size l.length (toD (l.filter (stF (fun e => decide (e.2.2 + ag ≤ now)) left))) left cnt ∧ Turn (fun k => k = M) w wr)
    (fun _ wr => wr.rangeLeft M w.heap.size)
  case atStart => exact ⟨_, _, by rw [st_start]; exact hrg0, Turn.of_grown hgr0 (fun j h => by cases h)⟩
  case round =>
    obtain ⟨left, cnt, hrg, ht⟩ := hrel
    go_wp2_with (first
      | (at_next; refine wpList_next_h rfl _ rfl M w.heap.size l.length _ _ _ rfl hrg ?_ ?_)
      | go_in)
    · intro _ hl0
      go_wp2
      go_end0
      have h1 := hrg.owns
      rw [st_end l _ hl0] at h1
      exact ⟨rfl, ⟨owns_len h1, rise_of h1, fun e he => hM.2.2 e (List.mem_filter.1 he).1⟩, ht⟩
    · intro x p t w1 cnt1 hwx hok hlx hlk hrg1 hlt hgr1 hs1 hen
      have ht1 : Turn (fun k => k = M) w w1 := ht.and hgr1 (fun j h => by cases h; exact Or.inr (Nat.le_refl _))
      have hb1 := bel1 w1 (.cells #[.int .i64 p, .int .i64 t] 65)
      have hB1 := (hB.turn ht1 hne).later hb1
      have gBb := later hb1 ((ht1.cell (World.block_lt_of_cell? _ _ hBb) nBb 0).trans hBb)
      have gBn := later hb1 ((ht1.cell (World.block_lt_of_cell? _ _ hBn) nBn 0).trans hBn)
      go_wp2_with fail
      refine (take1_any Bb Bn B po ag ro la M p t now _ hB1 hok hg0 hg1 gBb gBn).mono ?_
      rintro e w2 ⟨rfl, hb2⟩
      have ht2 := (ht1.later hb1).later hb2
      have hrg2 := rg_later (rg_later hrg1 hb1) hb2
      have c4' : w2.cell? ⟨B, 4, none⟩ = some (.map (some M)) := ((hB1.later hb2).2 4 _ rfl).1
      rcases Bool.eq_false_or_eq_true (decide (t + ag ≤ now)) with hq | hq
      · rw [hq]
        go_wp2_with (first
          | (at_delete; refine wpList_delete_ranges _ rfl _ _ 56 3 rfl 65 law3 Try.underlying56 _ M w.heap.size l.length _ _ _ rfl hrg2 _ _ rfl (keyOf_int_mk Try.underlying3 hwx) ?_; intro w3 cnt3 hrg3 hle hturn; go_frame)
          | go_in)
        rw [Maps.strike_twice, del_toD, st_struck hM.2.1 hlx hlk hq] at hrg3
        go_roundw
        case rel => exact ⟨_, cnt3, hrg3, ht2.and hturn.grown (fun j h => by cases h; exact Or.inl rfl)⟩
        case measure => rw [hrg3.left_eq, hrg.left_eq]; omega
      · rw [hq]
        rw [st_stays hM.2.1 hlx hlk hq] at hrg2
        go_wp2
        go_roundw
        case rel => exact ⟨_, cnt1, hrg2, ht2⟩
        case measure => rw [hrg2.left_eq, hrg.left_eq]; exact hlt
set_option maxHeartbeats 1000000 in
theorem forget_down (B M Bp : Nat) (po ag ro la port : Int) (l : List En) (w : World) (hB : At w B (brV po ag ro la M)) (hM : Lrn w M l) (hg0 : 1 ≤ ag) (hg1 : ag ≤ 1048576) (hBp : w.cell? ⟨Bp, 0, none⟩ = some (.int .i64 port)) :
    Calls Try.prog 24 #[.pointer (some ⟨B, 0, none⟩), .func (.func 25) #[] #[.pointer (some ⟨Bp, 0, none⟩)]] w fun e w' => e = .returned (.tuple #[]) ∧ Lrn w' M (l.filter fun e => !(e.2.1 == port)) ∧ Turn (fun k => k = M) w w' := by
  have hne : B ≠ M := at_ne (hB.2 0 _ rfl).1 hM
  have nBp : Bp ≠ M := at_ne hBp hM
  have c4 : w.cell? ⟨B, 4, none⟩ = some (.map (some M)) := (hB.2 4 _ rfl).1
  go_enter Try.func24, Try.ntmps24
  go_wp2_with (first
    | (at_range; refine wpList_range_own _ rfl _ 56 rfl 3 65 law3 Try.underlying56 _ M l.length _ rfl hM.1 ?_; intro w0 hrg0 hgr0 hs0)
    | go_in)
  go_frame
  go_loopw [11] (fun _ wr => ∃ (left : Lit → Bool) (cnt : Nat), wr.ranges Try.prog 3 hElem M w.heap.size l.length (toD (l.filter (stF (fun e => e.2.1 == port) left))) left cnt ∧ Turn (fun k => k = M) w wr)
    (fun _ wr => wr.rangeLeft M w.heap.size)
  case atStart => exact ⟨_, _, by rw [st_start]; exact hrg0, Turn.of_grown hgr0 (fun j h => by cases h)⟩
  case round =>
    obtain ⟨left, cnt, hrg, ht⟩ := hrel
    go_wp2_with (first
      | (at_next; refine wpList_next_h rfl _ rfl M w.heap.size l.length _ _ _ rfl hrg ?_ ?_)
      | go_in)
    · intro _ hl0
      go_wp2
      go_end0
      have h1 := hrg.owns
      rw [st_end l _ hl0] at h1
      exact ⟨rfl, ⟨owns_len h1, rise_of h1, fun e he => hM.2.2 e (List.mem_filter.1 he).1⟩, ht⟩
    · intro x p t w1 cnt1 hwx hok hlx hlk hrg1 hlt hgr1 hs1 hen
      have ht1 : Turn (fun k => k = M) w w1 := ht.and hgr1 (fun j h => by cases h; exact Or.inr (Nat.le_refl _))
      have hb1 := bel1 w1 (.cells #[.int .i64 p, .int .i64 t] 65)
      have hB1 := (hB.turn ht1 hne).later hb1
      have gBp := later hb1 ((ht1.cell (World.block_lt_of_cell? _ _ hBp) nBp 0).trans hBp)
      go_wp2_with fail
      refine (down1_any Bp p t port _ gBp).mono ?_
      rintro e w2 ⟨rfl, hb2⟩
      have ht2 := (ht1.later hb1).later hb2
      have hrg2 := rg_later (rg_later hrg1 hb1) hb2
      have c4' : w2.cell? ⟨B, 4, none⟩ = some (.map (some M)) := ((hB1.later hb2).2 4 _ rfl).1
      rcases Bool.eq_false_or_eq_true (p == port) with hq | hq
      · rw [hq]
        go_wp2_with (first
          | (at_delete; refine wpList_delete_ranges _ rfl _ _ 56 3 rfl 65 law3 Try.underlying56 _ M w.heap.size l.length _ _ _ rfl hrg2 _ _ rfl (keyOf_int_mk Try.underlying3 hwx) ?_; intro w3 cnt3 hrg3 hle hturn; go_frame)
          | go_in)
        rw [Maps.strike_twice, del_toD, st_struck hM.2.1 hlx hlk hq] at hrg3
        go_roundw
        case rel => exact ⟨_, cnt3, hrg3, ht2.and hturn.grown (fun j h => by cases h; exact Or.inl rfl)⟩
        case measure => rw [hrg3.left_eq, hrg.left_eq]; omega
      · rw [hq]
        rw [st_stays hM.2.1 hlx hlk hq] at hrg2
        go_wp2
        go_roundw
        case rel => exact ⟨_, cnt1, hrg2, ht2⟩
        case measure => rw [hrg2.left_eq, hrg.left_eq]; exact hlt
end Go.Proofs.Ytajknafmlghcgaa
