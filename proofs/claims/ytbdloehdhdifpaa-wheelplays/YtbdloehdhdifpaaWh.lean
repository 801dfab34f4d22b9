/- Next, due, letGo, Go. -/
import Derived.Test.YtbdloehdhdifpaaWg
namespace Go.Proofs.Ytbdloehdhdifpaa
open Go.Shelf Go.RowKit Go.Maps Go.Lib Go.Sort Go.Proofs
set_option maxRecDepth 100000
set_option linter.unusedVariables false
set_option linter.unusedSimpArgs false

theorem WH.perm {l : List Vn} {L : List Tm} (hp : l.Perm (L.map tV)) {x : Int} {v : Value} (h : (x, v) ∈ l) : ∃ t, v = .int .i64 t ∧ (x, t) ∈ L := by
  obtain ⟨e, he, hk⟩ := List.mem_map.1 (hp.mem_iff.1 h)
  unfold tV at hk
  injection hk with h1 h2
  exact ⟨e.2, h2.symm, by rw [← h1]; exact he⟩
def nextR (L : List Tm) : Int × Bool := match L with | [] => (0, false) | e :: _ => (e.2, true)
/-- What Next knows behind some of the entries. -/
def Nx (L : List Tm) (left : Lit → Bool) (at_ : Int) (ok : Bool) : Prop :=
  (ok = false ∧ at_ = 0 ∧ ∀ e ∈ L, left (.int .i64 e.1) = true) ∨ (ok = true ∧ (∃ e ∈ L, e.2 = at_) ∧ ∀ e ∈ L, left (.int .i64 e.1) = false → at_ ≤ e.2)
theorem Nx.fin {L : List Tm} (hL : WL L) {left : Lit → Bool} (hl : ∀ k, left k = false) {a : Int} {ok : Bool} (h : Nx L left a ok) : nextR L = (a, ok) := by
  rcases h with ⟨rfl, rfl, h⟩ | ⟨rfl, ⟨e, he, h1⟩, h2⟩
  · cases L with
    | nil => rfl
    | cons y r => have := h y (List.mem_cons_self ..); rw [hl] at this; cases this
  · cases L with
    | nil => cases he
    | cons y r =>
      have h3 := h2 y (List.mem_cons_self ..) (hl _)
      have h4 : y.2 ≤ e.2 := by
        rcases List.mem_cons.1 he with rfl | h5
        · exact Int.le_refl _
        · have := (List.pairwise_cons.1 hL.srt).1 e h5
          unfold bef at this
          omega
      show (y.2, true) = (a, true)
      rw [show y.2 = a by omega]
theorem strike_ne {left : Lit → Bool} {x y : Int} (h : (left (.int .i64 y) && !(Lit.int .i64 y).sameKey (.int .i64 x)) = false) : left (.int .i64 y) = false ∨ y = x := by
  rw [same_int] at h
  cases hq : left (.int .i64 y) with
  | false => exact Or.inl rfl
  | true =>
    rw [hq] at h
    refine Or.inr ?_
    simpa using h
theorem Nx.step {L : List Tm} (hL : WL L) {left : Lit → Bool} {a : Int} {ok : Bool} (h : Nx L left a ok) {x t : Int} (hx : (x, t) ∈ L) :
    (ok = false ∨ t < a → Nx L (fun z => left z && !z.sameKey (.int .i64 x)) t true) ∧ (ok = true → ¬ t < a → Nx L (fun z => left z && !z.sameKey (.int .i64 x)) a true) := by
  constructor
  · intro hc
    refine Or.inr ⟨rfl, ⟨(x, t), hx, rfl⟩, fun e he hq => ?_⟩
    rcases strike_ne hq with h1 | h1
    · rcases h with ⟨h2, h3, h4⟩ | ⟨h2, h3, h4⟩
      · rw [h4 e he] at h1; cases h1
      · rcases hc with h5 | h5
        · rw [h2] at h5; cases h5
        · have := h4 e he h1; omega
    · have := key_one hL.nod he hx h1
      rw [this]
      exact Int.le_refl _
  · intro hk hc
    rcases h with ⟨h2, -⟩ | ⟨h2, h3, h4⟩
    · rw [h2] at hk; cases hk
    · refine Or.inr ⟨rfl, h3, fun e he hq => ?_⟩
      rcases strike_ne hq with h1 | h1
      · exact h4 e he h1
      · have := key_one hL.nod he hx h1
        rw [this]
        show a ≤ t
        omega
set_option maxHeartbeats 2000000 in
theorem next_any (B M : Nat) (now : Int) (L : List Tm) (w : World) (hW : WH w B M now L) (hL : WL L) :
    Calls Try.prog 20 #[.pointer (some ⟨B, 0, none⟩)] w fun e w' => e = .returned (.tuple #[.int .i64 (nextR L).1, .bool (nextR L).2]) ∧ Go.RowKit.Below w.heap.size w w' := by
  have hW0 := hW
  obtain ⟨hB, l, hM, hp⟩ := hW
  have c1 : w.cell? ⟨B, 1, none⟩ = some (.map (some M)) := (hB.2 1 _ rfl).1
  go_enter Try.func20, Try.ntmps20
  go_wp2_with (first
    | (at_range; refine wpList_range_own _ rfl _ 49 rfl 3 3 law3 Try.underlying49 _ M l.length _ rfl hM.1 ?_; intro wz hrg0 hgr0 hs0)
    | go_in)
  go_frame
  have hb0 : Go.RowKit.Below w.heap.size w wz := ⟨hgr0.os, hgr0.tape, hgr0.output, hgr0.size, fun k hk => hgr0.block k hk (by simp)⟩
  go_loopw [2, 3] (fun a ok wr => ∃ (at_ : Int) (b : Bool) (left : Lit → Bool) (cnt : Nat), a = .int .i64 at_ ∧ ok = .bool b ∧ wr.ranges Try.prog 3 hE M w.heap.size l.length (vD l) left cnt ∧ Hid (Nx L left at_ b) ∧ Go.RowKit.Below w.heap.size w wr)
    (fun _ _ wr => wr.rangeLeft M w.heap.size)
  case atStart => exact ⟨0, false, _, _, rfl, rfl, hrg0, Or.inl ⟨rfl, rfl, fun e he => left_all (hp.mem_iff.2 (List.mem_map.2 ⟨e, he, rfl⟩))⟩, hb0⟩
  case round =>
    obtain ⟨at_, b, left, cnt, rfl, rfl, hrg, hN, hb⟩ := hrel
    go_wp2_with (first
      | (at_next; refine wpList_next_vm rfl _ rfl M w.heap.size l.length l _ _ rfl hrg ?_ ?_)
      | go_in)
    · intro _ hl0
      have hf := hN.out.fin hL hl0
      go_wp2
      go_ret2
      exact ⟨by rw [hf]; rfl, hb⟩
    · intro x v w1 cnt1 hxm hlx hrg1 hlt hgr1 hs1 hen
      obtain ⟨t, rfl, hxt⟩ := WH.perm hp hxm
      have hN' := hN.out.step hL hxt
      have hr1 : Turn (fun k => k = w.heap.size) wr w1 := Turn.of_grown hgr1 (fun j h => by cases h; exact Or.inl rfl)
      have hb1 : Go.RowKit.Below w.heap.size w w1 := hb.trans (hr1.below hb.size (fun k hk he => by omega))
      cases b with
      | false =>
        have h1 : Hid _ := hN'.1 (Or.inl rfl)
        clear hN' hN
        go_wp2
        go_roundw
        case rel => exact ⟨t, true, _, cnt1, rfl, rfl, hrg1, h1, hb1⟩
        case measure => rw [hrg1.left_eq, hrg.left_eq]; exact hlt
      | true =>
        by_cases hta : t < at_
        · have h1 : Hid _ := hN'.1 (Or.inr hta)
          clear hN' hN
          go_wp2
          go_roundw
          case rel => exact ⟨t, true, _, cnt1, rfl, rfl, hrg1, h1, hb1⟩
          case measure => rw [hrg1.left_eq, hrg.left_eq]; exact hlt
        · have h1 : Hid _ := hN'.2 rfl hta
          clear hN' hN
          go_wp2
          go_roundw
          case rel => exact ⟨at_, true, _, cnt1, rfl, rfl, hrg1, h1, hb1⟩
          case measure => rw [hrg1.left_eq, hrg.left_eq]; exact hlt
def dueL (now : Int) (L : List Tm) : List Int := (L.filter fun e => decide (e.2 ≤ now)).map (·.1)
def restL (now : Int) (L : List Tm) : List Tm := L.filter fun e => !decide (e.2 ≤ now)
/-- Those that a range has passed and that are due. -/
def seenF (now : Int) (left : Lit → Bool) (e : Tm) : Bool := !left (.int .i64 e.1) && decide (e.2 ≤ now)
theorem seen_keep {L : List Tm} (hn : (L.map (·.1)).Nodup) {now : Int} {left : Lit → Bool} {x t : Int} (hm : (x, t) ∈ L) (ho : ¬ t ≤ now) :
    L.filter (seenF now (fun z => left z && !z.sameKey (.int .i64 x))) = L.filter (seenF now left) := by
  refine List.filter_congr fun e he => ?_
  unfold seenF
  by_cases hx : e.1 = x
  · have := key_one hn he hm hx
    subst this
    simp [ho]
  · have h1 : (e.1 == x) = false := by simpa using hx
    simp [h1, same_int]
theorem seen_more : ∀ {L : List Tm}, (L.map (·.1)).Nodup → ∀ {now : Int} {left : Lit → Bool} {x t : Int}, (x, t) ∈ L → left (.int .i64 x) = true → t ≤ now →
    (L.filter (seenF now (fun z => left z && !z.sameKey (.int .i64 x)))).Perm ((x, t) :: L.filter (seenF now left))
  | [], _, _, _, _, _, hm, _, _ => by cases hm
  | y :: r, hn, now, left, x, t, hm, hl, ho => by
    rw [List.map_cons, List.nodup_cons] at hn
    rcases List.mem_cons.1 hm with h | h
    · subst h
      have e1 : seenF now (fun z => left z && !z.sameKey (.int .i64 x)) (x, t) = true := by unfold seenF; simp [same_int, ho]
      have e2 : seenF now left (x, t) = false := by unfold seenF; simp [hl]
      have e3 : r.filter (seenF now (fun z => left z && !z.sameKey (.int .i64 x))) = r.filter (seenF now left) := by
        refine List.filter_congr fun e he => ?_
        have h1 : (e.1 == x) = false := by
          cases hq : (e.1 == x) with
          | false => rfl
          | true => exact absurd (List.mem_map.2 ⟨e, he, by simpa using hq⟩) hn.1
        unfold seenF
        simp [h1, same_int]
      rw [List.filter_cons_of_pos e1, List.filter_cons_of_neg (by simp [e2]), e3]
    · have ih := seen_more hn.2 h hl ho
      have hne : (y.1 == x) = false := by
        cases hq : (y.1 == x) with
        | false => rfl
        | true =>
          have hyx : y.1 = x := by simpa using hq
          exact absurd (List.mem_map.2 ⟨(x, t), h, hyx.symm⟩) hn.1
      have e1 : seenF now (fun z => left z && !z.sameKey (.int .i64 x)) y = seenF now left y := by unfold seenF; simp [hne, same_int]
      cases hq : seenF now left y with
      | true =>
        rw [List.filter_cons_of_pos (by rw [e1, hq]), List.filter_cons_of_pos (by rw [hq])]
        exact (ih.cons y).trans (List.Perm.swap _ _ _)
      | false =>
        rw [List.filter_cons_of_neg (by rw [e1, hq]; simp), List.filter_cons_of_neg (by rw [hq]; simp)]
        exact ih
set_option maxHeartbeats 2000000 in
theorem due_any (B M : Nat) (now : Int) (L : List Tm) (w : World) (hW : WH w B M now L) (hL : WL L) (hn : L.length ≤ 12) :
    Calls Try.prog 25 #[.pointer (some ⟨B, 0, none⟩)] w fun e w' => ∃ v, e = .returned v ∧ Ints w' w.heap.size v (dueL now L) ∧ Go.RowKit.Below w.heap.size w w' := by
  have hW0 := hW
  obtain ⟨hB, l, hM, hp⟩ := hW
  have HLL : Hid (l.length = L.length) := by show _ = _; rw [hp.length_eq, List.length_map]
  have hl9 := hL.len
  have c1 : w.cell? ⟨B, 1, none⟩ = some (.map (some M)) := (hB.2 1 _ rfl).1
  have hMl := hM.lt
  go_enter Try.func25, Try.ntmps25
  go_wp2_with (first
    | (at_range; refine wpList_range_own _ rfl _ 49 rfl 3 3 law3 Try.underlying49 _ M l.length _ rfl hM.1 ?_; intro wz hrg0 hgr0 hs0)
    | go_in)
  go_frame
  have hb0 : Go.RowKit.Below w.heap.size w wz := ⟨hgr0.os, hgr0.tape, hgr0.output, hgr0.size, fun k hk => hgr0.block k hk (by simp)⟩
  go_loopw [3] (fun ov wr => ∃ (v : Value) (left : Lit → Bool) (cnt : Nat) (zs : List Int), v = ov ∧ wr.ranges Try.prog 3 hE M w.heap.size l.length (vD l) left cnt ∧ Ints wr (w.heap.size + 1) v zs ∧ Hid (zs.Perm ((L.filter (seenF now left)).map (·.1))) ∧ Go.RowKit.Below w.heap.size w wr)
    (fun _ wr => wr.rangeLeft M w.heap.size)
  case atStart =>
    refine ⟨_, _, _, [], rfl, hrg0, Ints.nil _ _, ?_, hb0⟩
    have : L.filter (seenF now (Maps.has (vD l))) = [] := by
      rw [List.filter_eq_nil_iff]
      intro e he
      unfold seenF
      have := left_all (hp.mem_iff.2 (List.mem_map.2 ⟨e, he, rfl⟩))
      unfold tV at this
      simp only at this
      rw [this]
      simp
    show List.Perm _ _
    rw [this]
    exact List.Perm.refl _
  case round =>
    obtain ⟨v, left, cnt, zs, rfl, hrg, hI, hperm, hb⟩ := hrel
    have hzl : zs.length ≤ L.length := by
      have := hperm.out.length_eq
      rw [List.length_map] at this
      exact this ▸ List.length_filter_le _ _
    have hzz : ∀ z ∈ zs, 0 ≤ z ∧ z ≤ 1073741824 := fun z hz => by
      obtain ⟨e, he, rfl⟩ := List.mem_map.1 (hperm.out.mem_iff.1 hz)
      exact (hL.ok e (List.mem_filter.1 he).1).1
    go_wp2_with (first
      | (at_next; refine wpList_next_vm rfl _ rfl M w.heap.size l.length l _ _ rfl hrg ?_ ?_)
      | (go_at_call 27; fail))
    · intro _ hl0
      have hWr : WH wr B M now L := hW0.later hb
      go_wp2_with fail
      refine (sort_ints B M (w.heap.size + 1) now L v zs wr hWr hL hI (by have := hB.1; omega) (by omega) hzz (by omega)).mono ?_
      rintro e w1 ⟨rfl, ts, hts, hord, hI1, ht1⟩
      go_wp2
      go_ret
      refine ⟨v, rfl, ?_, hb.trans (ht1.below hb.size (fun k hk he => by omega))⟩
      have e0 : L.filter (seenF now left) = L.filter fun e => decide (e.2 ≤ now) := List.filter_congr fun e _ => by unfold seenF; rw [hl0]; simp
      have hp2 := hts.trans hperm.out
      rw [e0] at hp2
      rw [order_eq hL hp2 hord] at hI1
      exact hI1.below (Nat.le_succ _)
    · intro x u w1 cnt1 hxm hlx hrg1 hlt hgr1 hs1 hen
      obtain ⟨t, rfl, hxt⟩ := WH.perm hp hxm
      have hr1 : Turn (fun k => k = w.heap.size) wr w1 := Turn.of_grown hgr1 (fun j h => by cases h; exact Or.inl rfl)
      have hb1 : Go.RowKit.Below w.heap.size w w1 := hb.trans (hr1.below hb.size (fun k hk he => by omega))
      have hI1 : Ints w1 (w.heap.size + 1) v zs := hI.turn hr1 (fun k hk he => by omega)
      have c0 : w1.cell? ⟨B, 0, none⟩ = some (.int .i64 now) := ((hB.later hb1).2 0 _ rfl).1
      have hbase : w.heap.size + 1 ≤ w1.heap.size := hrg1.lt
      clear hs1
      by_cases ho : t ≤ now
      · have hp2 : Hid ((zs ++ [x]).Perm ((L.filter (seenF now (fun z => left z && !z.sameKey (.int .i64 x)))).map (·.1))) := by
          have h9 := (seen_more (now := now) hL.nod hxt hlx ho).map (fun e : Tm => e.1)
          exact (List.perm_append_comm.trans (hperm.out.cons x)).trans h9.symm
        clear hperm
        go_wp2_with (first
          | (at_builtin; refine wpList_append1 rfl _ _ rfl (w.heap.size + 1) v zs x rfl hI1 rfl hbase (by omega) ?_; intro v3 w3 hI3 hb3 ht3)
          | go_in)
        have hgw := ht3.grown
        have hM2 : some M ≠ v.ownBlock := fun e => by have := own_ge hI1 M e.symm; omega
        have hr2 : some w.heap.size ≠ v.ownBlock := fun e => by have := own_ge hI1 _ e.symm; omega
        have hrg3 := hrg1.kept hgw hM2 hr2
        go_roundw
        case rel => exact ⟨v3, _, cnt1, zs ++ [x], rfl, hrg3, hI3, hp2, hb1.trans (hb3.mono (Nat.le_succ _))⟩
        case measure => rw [hrg3.left_eq, hrg.left_eq]; exact hlt
      · have hp2 : Hid (zs.Perm ((L.filter (seenF now (fun z => left z && !z.sameKey (.int .i64 x)))).map (·.1))) := by
          show List.Perm _ _
          rw [seen_keep hL.nod hxt ho]
          exact hperm.out
        clear hperm
        go_wp2
        go_roundw
        case rel => exact ⟨v, _, cnt1, zs, rfl, hrg1, hI1, hp2, hb1⟩
        case measure => rw [hrg1.left_eq, hrg.left_eq]; exact hlt
theorem due_len (now : Int) (L : List Tm) : (dueL now L).length ≤ L.length := by unfold dueL; rw [List.length_map]; exact List.length_filter_le _ _
theorem due_all {now : Int} {L : List Tm} (h : (dueL now L).length = L.length) : restL now L = [] := by
  unfold dueL at h
  rw [List.length_map, List.length_filter_eq_length_iff] at h
  unfold restL
  rw [List.filter_eq_nil_iff]
  intro e he
  simp [h e he]
/-- Those that are left once the first k were let go. -/
def leftL (L : List Tm) (zs : List Int) : List Tm := L.filter fun e => !zs.contains e.1
theorem left_end {L : List Tm} (hn : (L.map (·.1)).Nodup) (now : Int) : leftL L (dueL now L) = restL now L := by
  unfold leftL restL
  refine List.filter_congr fun e he => ?_
  congr 1
  cases hq : decide (e.2 ≤ now) with
  | true =>
    rw [List.contains_iff_mem]
    exact List.mem_map.2 ⟨e, List.mem_filter.2 ⟨he, hq⟩, rfl⟩
  | false =>
    cases hc : (dueL now L).contains e.1 with
    | false => rfl
    | true =>
      rw [List.contains_iff_mem] at hc
      obtain ⟨y, hy, hk⟩ := List.mem_map.1 hc
      have := key_one hn (List.mem_filter.1 hy).1 he hk
      subst this
      rw [(List.mem_filter.1 hy).2] at hq
      cases hq
theorem left_more (L : List Tm) (zs : List Int) (x : Int) : delT (leftL L zs) x = leftL L (zs ++ [x]) := by
  unfold delT leftL
  rw [List.filter_filter]
  refine List.filter_congr fun e _ => ?_
  by_cases hx : e.1 = x <;> simp [bne, hx]
set_option maxHeartbeats 2000000 in
theorem letgo_any (B M base : Nat) (now : Int) (L : List Tm) (v : Value) (w : World) (hW : WH w B M now L) (hL : WL L) (hI : Ints w base v (dueL now L)) (hMb : M < base) :
    Calls Try.prog 26 #[.pointer (some ⟨B, 0, none⟩), v] w fun e w' => e = .returned (.tuple #[]) ∧ WH w' B M now (restL now L) ∧ Turn (fun k => k = M) w w' := by
  have hBM := hW.ne
  obtain ⟨hB, l, hM, hp⟩ := hW
  have HLL : Hid (l.length = L.length) := by show _ = _; rw [hp.length_eq, List.length_map]
  have hl9 := hL.len
  have hdl := due_len now L
  have c1 : w.cell? ⟨B, 1, none⟩ = some (.map (some M)) := (hB.2 1 _ rfl).1
  have hlen : ∀ ty : TypeId, (Builtin.len_ #[49] ty #[.map (some M)]).run Try.prog w = .ok (.int .i64 l.length) w := fun ty => hM.len Try.underlying49 ty
  have hzz : ∀ z ∈ dueL now L, 0 ≤ z ∧ z ≤ 1073741824 := fun z hz => by
    obtain ⟨e, he, rfl⟩ := List.mem_map.1 hz
    exact (hL.ok e (List.mem_filter.1 he).1).1
  obtain ⟨a, cap, rfl, hr⟩ := hI.row
  have hend := left_end hL.nod now
  have HE : Hid (leftL L (dueL now L) = restL now L) := hend
  have hall := fun h => due_all (now := now) (L := L) h
  have HAL : Hid ((dueL now L).length = L.length → restL now L = []) := hall
  clear hend hall
  generalize restL now L = RL at *
  generalize dueL now L = zs at *
  have HR : Hid (Row w a zs) := hr
  have HI : Hid (Ints w base (.slice a zs.length cap) zs) := hI
  clear hr hI
  by_cases hq : zs.length = l.length
  · have hqq : (zs.length : Int) = (l.length : Int) := by omega
    have hLz : zs.length = L.length := by have := HLL.out; omega
    have hRL := HAL.out hLz
    clear hLz
    subst hRL
    have HQ : Hid (zs.length = l.length) := hq
    clear hq
    obtain ⟨nz, hnz⟩ : ∃ x, x = zs.length := ⟨_, rfl⟩
    rw [← hnz] at hqq ⊢
    rw [← hqq] at hlen
    clear hnz hqq
    obtain ⟨w2, hrun, hM2, ht2⟩ := hM.clear Try.underlying49 0
    go_enter Try.func26, Try.ntmps26
    go_wp2
    (try simp only [Exit.inBlock, Exit.then]); refine bodyPost_ret (results_none rfl _ _ _) rfl ?_
    exact ⟨rfl, ⟨hB.turn ht2 hBM, [], hM2, List.Perm.refl _⟩, ht2⟩
  · have hqq : ¬ (zs.length : Int) = (l.length : Int) := by omega
    rcases HR.out with h0 | ⟨g, off, rfl, hc⟩
    · subst h0
      have hRL : L = RL := by rw [← HE.out]; unfold leftL; rw [List.filter_eq_self.2 (by simp)]
      have hl0 : ¬ ((0 : Int) = (l.length : Int)) := hqq
      have hl1 : ¬ (0 = l.length) := by omega
      clear HR HI HE HAL hdl hqq
      simp only [List.length_nil]
      go_enter Try.func26, Try.ntmps26
      go_wp2
      refine wp_loop_rounds 1 ?_
      rw [rounds_succ]
      go_wp2
      go_end0
      exact ⟨rfl, ⟨hB, l, hM, by rw [← hRL]; exact hp⟩, Turn.refl _⟩
    have hqb : ((zs.length : Int) == (l.length : Int)) = false := beq_eq_false_iff_ne.2 hqq
    have HCC : Hid (∀ j, j < zs.length → w.cell? ⟨g, off + j, none⟩ = some (.int .i64 (zs.getD j 0))) := hc
    clear hc
    go_enter Try.func26, Try.ntmps26
    go_wp2
    go_loopw [20] (fun c wr => ∃ (k : Nat) (l1 : List Vn), c = .int .i64 (k : Int) ∧ k ≤ zs.length ∧ VM wr M l1 ∧ Hid (l1.Perm ((leftL L (zs.take k)).map tV)) ∧ Turn (fun k => k = M) w wr) (fun c _ => zs.length - (intOf c).toNat)
    case atStart => exact ⟨0, l, rfl, Nat.zero_le _, hM, (show Hid _ from by show List.Perm _ _; rw [List.take_zero]; unfold leftL; rw [List.filter_eq_self.2 (by simp)]; exact hp), Turn.refl _⟩
    case round =>
      obtain ⟨k, l1, rfl, hk, hM1, hp1, ht⟩ := hrel
      by_cases hlt : k < zs.length
      · have hk1 : (k : Int) < (zs.length : Int) := by omega
        have hk0 : (0 : Int) ≤ (k : Int) := by omega
        have hcw := HCC.out k hlt
        have hgM : g ≠ M := by
          rintro rfl
          obtain ⟨⟨es, clock, hb, -⟩, -⟩ := hM
          simp [World.cell?, hb] at hcw
        have hcr : wr.cell? ⟨g, off + k, none⟩ = some (.int .i64 (zs.getD k 0)) := (ht.cell (World.block_lt_of_cell? _ _ hcw) hgM _).trans hcw
        have hbr : wr.cell? ⟨B, 1, none⟩ = some (.map (some M)) := ((hB.turn ht hBM).2 1 _ rfl).1
        have hzk : zs.getD k 0 ∈ zs := by rw [List.getD_eq_getElem?_getD, List.getElem?_eq_getElem hlt]; exact List.getElem_mem hlt
        have hwf : (Lit.int .i64 (zs.getD k 0)).wf = true := WalkArith.wf_i64 (by have := hzz _ hzk; omega)
        have htk : zs.take (k + 1) = zs.take k ++ [zs.getD k 0] := by
          rw [List.take_add_one, List.getElem?_eq_getElem hlt, List.getD_eq_getElem?_getD, List.getElem?_eq_getElem hlt]
          rfl
        have hp2 : Hid ((vdel l1 (zs.getD k 0)).Perm ((leftL L (zs.take (k + 1))).map tV)) := by
          show List.Perm _ _
          rw [htk, ← left_more]
          exact del_perm hp1.out _
        clear hcw htk hzk
        generalize zs.getD k 0 = z at *
        go_wp2_with (first
          | (at_delete; refine wpList_delete_vm rfl _ _ rfl M l1 z hwf Try.underlying49 rfl hM1 rfl ?_; intro w2 hM2 ht2)
          | go_in)
        go_roundw
        case rel => exact ⟨k + 1, _, by simp, by omega, hM2, hp2, ht.trans ht2⟩
        case measure => (simp [intOf]; try omega)
      · have hk1 : ¬ (k : Int) < (zs.length : Int) := by omega
        have hkz : k = zs.length := by omega
        go_wp2
        go_end0
        refine ⟨rfl, ⟨hB.turn ht hBM, l1, hM1, ?_⟩, ht⟩
        have := hp1.out
        rw [hkz, List.take_length, HE.out] at this
        exact this
theorem goOk_cases (now t : Int) : (t < now ∨ 1099511627776 < t) ∨ (now ≤ t ∧ t ≤ 1099511627776) := by omega
def goOk (now t : Int) : Bool := decide (now ≤ t ∧ t ≤ 1099511627776)
theorem go_f (B M : Nat) (now t : Int) (L : List Tm) (w : World) (hW : WH w B M now L) (h : goOk now t = false) :
    Calls Try.prog 14 #[.pointer (some ⟨B, 0, none⟩), .int .i64 t] w fun e w' => e = .returned (.tuple #[.slice none 0 0, .int .i64 1]) ∧ w' = w := by
  have c0 : w.cell? ⟨B, 0, none⟩ = some (.int .i64 now) := (hW.1.2 0 _ rfl).1
  have h := of_decide_eq_false h
  by_cases h1 : t < now
  · go_enter Try.func14, Try.ntmps14
    go_wp2
    go_ret2
    exact ⟨rfl, rfl⟩
  · have h2 : 1099511627776 < t := by omega
    go_enter Try.func14, Try.ntmps14
    go_wp2
    go_ret2
    exact ⟨rfl, rfl⟩
set_option maxHeartbeats 1000000 in
theorem go_t (B M : Nat) (now t : Int) (L : List Tm) (w : World) (hW : WH w B M now L) (hL : WL L) (h : goOk now t = true) (hn : L.length ≤ 12) :
    Calls Try.prog 14 #[.pointer (some ⟨B, 0, none⟩), .int .i64 t] w fun e w' => ∃ v, e = .returned (.tuple #[v, .int .i64 0]) ∧ Ints w' w.heap.size v (dueL t L) ∧ WH w' B M t (restL t L) ∧ Turn (fun k => k = B ∨ k = M) w w' := by
  obtain ⟨h1, h2⟩ := of_decide_eq_true h
  have h1' : ¬ t < now := by omega
  have h2' : ¬ 1099511627776 < t := by omega
  have hBM := hW.ne
  have hlt := hW.lt
  obtain ⟨hB, l, hM, hp⟩ := hW
  have c0 : w.cell? ⟨B, 0, none⟩ = some (.int .i64 now) := (hB.2 0 _ rfl).1
  have f0 : w.frozen? ⟨B, 0, none⟩ = false := (hB.2 0 _ rfl).2
  have ht1 := turn_set w B 0 (.int .i64 t)
  have hW1 : WH (w.setCell ⟨B, 0, none⟩ (.int .i64 t)) B M t L := ⟨hB.set 0 (.int .i64 t), l, hM.turn ht1 (fun e => hBM e.symm), hp⟩
  have hsz : (w.setCell ⟨B, 0, none⟩ (.int .i64 t)).heap.size = w.heap.size := World.size_setCell _ _ _
  have HZ : Hid ((w.setCell ⟨B, 0, none⟩ (.int .i64 t)).heap.size = w.heap.size) := hsz
  clear hsz
  go_enter Try.func14, Try.ntmps14
  go_upto_region 4 with fail
  generalize w.setCell ⟨B, 0, none⟩ (.int .i64 t) = w1 at *
  go_wp2_with fail
  refine (due_any B M t L w1 hW1 hL hn).mono ?_
  rintro e w2 ⟨v, rfl, hI2, hb2⟩
  rw [HZ.out] at hI2 hb2
  have hW2 := hW1.turn (S := fun _ => False) ⟨hb2.os, hb2.tape, hb2.output, hb2.size, fun k hk _ => hb2.block k (by have := HZ.out; omega)⟩ (fun h => h) (fun h => h)
  go_wp2_with fail
  refine (letgo_any B M w.heap.size t L v w2 hW2 hL hI2 (by omega)).mono ?_
  rintro e w3 ⟨rfl, hW3, ht3⟩
  go_wp2
  go_ret2
  have hT1 : Turn (fun k => k = B ∨ k = M) w w1 := ht1.mono (fun k h => Or.inl h)
  have hT2 : Turn (fun k => k = B ∨ k = M) w w2 := hT1.trans ⟨hb2.os, hb2.tape, hb2.output, hb2.size, fun k hk _ => hb2.block k (by have := HZ.out; omega)⟩
  refine ⟨v, rfl, hI2.turn ht3 (fun k hk e => by omega), hW3, hT2.trans (ht3.mono (fun k h => Or.inr h))⟩
end Go.Proofs.Ytbdloehdhdifpaa
