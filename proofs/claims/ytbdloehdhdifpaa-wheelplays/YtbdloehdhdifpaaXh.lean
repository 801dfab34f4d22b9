/- SortFunc, due and Go of any number of timers. -/
import Derived.Test.YtbdloehdhdifpaaSj
import Derived.Test.YtbdloehdhdifpaaWh
namespace Go.Proofs.Ytbdloehdhdifpaa
open Go.Shelf Go.RowKit Go.Maps Go.Lib Go.Sort Go.Proofs
set_option maxRecDepth 100000
set_option linter.unusedVariables false
set_option linter.unusedSimpArgs false

theorem sort_full (B M base : Nat) (now : Int) (L : List Tm) (v : Value) (zs : List Int) (w : World) (hW : WH w B M now L) (hL : WL L) (hI : Ints w base v zs) (hB : B < base) (hM : M < base) (hz : ∀ z ∈ zs, 0 ≤ z ∧ z ≤ 1073741824) (hn : zs.length < 1000000) :
    Calls Try.prog 27 #[v, .func (.func 28) #[.pointer (some ⟨B, 0, none⟩)] #[]] w fun e w' => e = .returned (.tuple #[]) ∧ ∃ ts, ts.Perm zs ∧ InOrder L ts ∧ Ints w' base v ts ∧ Turn (fun k => base ≤ k) w w' := by
  rcases hI.2 with ⟨rfl, h0⟩ | ⟨g, cap, cur, rfl, hg, hb, h1, h2, h3, h4⟩
  · obtain rfl : zs = [] := List.length_eq_zero_iff.1 h0
    refine (sort_none none 0 _ w).mono ?_
    rintro e w' ⟨rfl, rfl⟩
    exact ⟨rfl, [], List.Perm.refl _, List.Pairwise.nil, hI, Turn.refl _⟩
  · rw [Nat.mul_one] at h4
    have hH := holds_of_blockI (ss := zs) hb h4
    have hgl : g < w.heap.size := (Array.getElem?_eq_some_iff.1 hb).1
    obtain ⟨d, hd⟩ : ∃ d : Array Nm, d = (zs.map toNm).toArray := ⟨_, rfl⟩
    have hds : d.size = zs.length := by rw [hd]; simp
    have hdi : ∀ j, j < zs.length → ((d[j]!).val : Int) = zs.toArray[j]! := fun j hj => by
      have hj' : j < zs.toArray.size := by simpa using hj
      rw [getElem!_pos d j (by omega), getElem!_pos zs.toArray j hj']
      have hm : zs[j] ∈ zs := List.getElem_mem hj
      have := hz _ hm
      subst hd
      simp only [List.getElem_toArray, List.getElem_map]
      exact toNm_val this.1 this.2
    have hHd : Holds eN w g 0 d := fun j hj => by
      have hj' : j < zs.length := by omega
      obtain ⟨a1, a2⟩ := hH j (by simpa using hj')
      exact ⟨by rw [a1]; show _ = some (Value.int .i64 ((d[j]!).val : Int)); rw [hdi j hj'], a2⟩
    have C : Sx w B M g 0 now L d := ⟨hW, hL, by omega, by omega, ⟨oneN, hHd, hgl⟩⟩
    refine (sortf_all C cap d w (SW.start hHd) zs.length (show Hid _ from ⟨hds, hds⟩) hn).mono ?_
    rintro e w' ⟨rfl, d', hp, hs, m, os, rfl⟩
    have hsz : d'.size = zs.length := by rw [hp.1, hds]
    have hpl : d'.toList.Perm d.toList := by
      have := hp.2.2
      rw [← hds] at this
      have e1 : d.extract 0 d.size = d := by simp
      have e2 : d'.extract 0 d.size = d' := by rw [hds, ← hsz]; simp
      rwa [e1, e2] at this
    have hperm : (d'.toList.map valN).Perm zs := by
      have h5 := hpl.map valN
      have h6 : d.toList.map valN = zs := by
        rw [hd, List.toList_toArray, List.map_map]
        conv => rhs; rw [← List.map_id zs]
        refine List.map_congr_left fun z hzm => ?_
        have := hz z hzm
        exact toNm_val this.1 this.2
      rwa [h6] at h5
    refine ⟨rfl, d'.toList.map valN, hperm, ?_, ?_, ?_⟩
    · unfold InOrder
      rw [List.pairwise_map, List.pairwise_iff_getElem]
      intro i j hi hj hij
      have hi' : i < d'.size := by simpa using hi
      have hj' : j < d'.size := by simpa using hj
      have h7 := hs i j (Nat.zero_le _) hij (by omega)
      rw [getElem!_pos d' j hj', getElem!_pos d' i hi'] at h7
      intro h8
      have h9 := (ltN_iff L d'[j] d'[i]).2 h8
      rw [h9] at h7
      cases h7
    · have e1 : sortWorld eN w g 0 m d' os = grow (putRow (Value.int .i64) (Sort.ahead w m) g 0 (d'.toList.map valN).toArray) os := by
        unfold sortWorld
        rw [putRow_val]
        congr 2
        apply Array.ext'
        simp
      have hl : (d'.toList.map valN).length = zs.length := by rw [List.length_map, Array.length_toList, hsz]
      have := ownsRow_sortedI (w := w) (base := base) (n := m) (os := os) (ss := zs) (ts := d'.toList.map valN) hl hg hb h1 h2 h3
      rw [e1]
      unfold Ints
      rw [hl]
      exact this
    · exact (turn_row hgl).mono (fun k hk => by omega)
set_option maxHeartbeats 2000000 in
theorem due_full (B M : Nat) (now : Int) (L : List Tm) (w : World) (hW : WH w B M now L) (hL : WL L)  :
    Calls Try.prog 25 #[.pointer (some ⟨B, 0, none⟩)] w fun e w' => ∃ v, e = .returned v ∧ Ints w' w.heap.size v (dueL now L) ∧ Go.RowKit.Below w.heap.size w w' := by
  have hW0 := hW
  obtain ⟨hB, l, hM, hp⟩ := hW
  have HLL : Hid (l.length = L.length) := by show _ = _; rw [hp.length_eq, List.length_map]
  have hl9 := hL.len
  have c1 : w.cell? ⟨B, 1, none⟩ = some (.map (some M)) := (hB.2 1 _ rfl).1
  have hMl := hM.lt
  go_enter Try.func25, Try.ntmps25
  go_wp2_with (first
    | (at_range; refine wpList_range_own _ rfl _ 49 rfl 3 3 law3 Try.underlying49 _ M l.length _ rfl hM.1 ?_; intro wz hrg0 hgr0 hs0)
    | go_in)
  go_frame
  have hb0 : Go.RowKit.Below w.heap.size w wz := ⟨hgr0.os, hgr0.tape, hgr0.output, hgr0.size, fun k hk => hgr0.block k hk (by simp)⟩
  go_loopw [3] (fun ov wr => ∃ (v : Value) (left : Lit → Bool) (cnt : Nat) (zs : List Int), v = ov ∧ wr.ranges Try.prog 3 hE M w.heap.size l.length (vD l) left cnt ∧ Ints wr (w.heap.size + 1) v zs ∧ Hid (zs.Perm ((L.filter (seenF now left)).map (·.1))) ∧ Go.RowKit.Below w.heap.size w wr)
    (fun _ wr => wr.rangeLeft M w.heap.size)
  case atStart =>
    refine ⟨_, _, _, [], rfl, hrg0, Ints.nil _ _, ?_, hb0⟩
    have : L.filter (seenF now (Maps.has (vD l))) = [] := by
      rw [List.filter_eq_nil_iff]
      intro e he
      unfold seenF
      have := left_all (hp.mem_iff.2 (List.mem_map.2 ⟨e, he, rfl⟩))
      unfold tV at this
      simp only at this
      rw [this]
      simp
    show List.Perm _ _
    rw [this]
    exact List.Perm.refl _
  case round =>
    obtain ⟨v, left, cnt, zs, rfl, hrg, hI, hperm, hb⟩ := hrel
    have hzl : zs.length ≤ L.length := by
      have := hperm.out.length_eq
      rw [List.length_map] at this
      exact this ▸ List.length_filter_le _ _
    have hzz : ∀ z ∈ zs, 0 ≤ z ∧ z ≤ 1073741824 := fun z hz => by
      obtain ⟨e, he, rfl⟩ := List.mem_map.1 (hperm.out.mem_iff.1 hz)
      exact (hL.ok e (List.mem_filter.1 he).1).1
    go_wp2_with (first
      | (at_next; refine wpList_next_vm rfl _ rfl M w.heap.size l.length l _ _ rfl hrg ?_ ?_)
      | (go_at_call 27; fail))
    · intro _ hl0
      have hWr : WH wr B M now L := hW0.later hb
      go_wp2_with fail
      refine (sort_full B M (w.heap.size + 1) now L v zs wr hWr hL hI (by have := hB.1; omega) (by omega) hzz (by omega)).mono ?_
      rintro e w1 ⟨rfl, ts, hts, hord, hI1, ht1⟩
      go_wp2
      go_ret
      refine ⟨v, rfl, ?_, hb.trans (ht1.below hb.size (fun k hk he => by omega))⟩
      have e0 : L.filter (seenF now left) = L.filter fun e => decide (e.2 ≤ now) := List.filter_congr fun e _ => by unfold seenF; rw [hl0]; simp
      have hp2 := hts.trans hperm.out
      rw [e0] at hp2
      rw [order_eq hL hp2 hord] at hI1
      exact hI1.below (Nat.le_succ _)
    · intro x u w1 cnt1 hxm hlx hrg1 hlt hgr1 hs1 hen
      obtain ⟨t, rfl, hxt⟩ := WH.perm hp hxm
      have hr1 : Turn (fun k => k = w.heap.size) wr w1 := Turn.of_grown hgr1 (fun j h => by cases h; exact Or.inl rfl)
      have hb1 : Go.RowKit.Below w.heap.size w w1 := hb.trans (hr1.below hb.size (fun k hk he => by omega))
      have hI1 : Ints w1 (w.heap.size + 1) v zs := hI.turn hr1 (fun k hk he => by omega)
      have c0 : w1.cell? ⟨B, 0, none⟩ = some (.int .i64 now) := ((hB.later hb1).2 0 _ rfl).1
      have hbase : w.heap.size + 1 ≤ w1.heap.size := hrg1.lt
      clear hs1
      by_cases ho : t ≤ now
      · have hp2 : Hid ((zs ++ [x]).Perm ((L.filter (seenF now (fun z => left z && !z.sameKey (.int .i64 x)))).map (·.1))) := by
          have h9 := (seen_more (now := now) hL.nod hxt hlx ho).map (fun e : Tm => e.1)
          exact (List.perm_append_comm.trans (hperm.out.cons x)).trans h9.symm
        clear hperm
        go_wp2_with (first
          | (at_builtin; refine wpList_append1 rfl _ _ rfl (w.heap.size + 1) v zs x rfl hI1 rfl hbase (by omega) ?_; intro v3 w3 hI3 hb3 ht3)
          | go_in)
        have hgw := ht3.grown
        have hM2 : some M ≠ v.ownBlock := fun e => by have := own_ge hI1 M e.symm; omega
        have hr2 : some w.heap.size ≠ v.ownBlock := fun e => by have := own_ge hI1 _ e.symm; omega
        have hrg3 := hrg1.kept hgw hM2 hr2
        go_roundw
        case rel => exact ⟨v3, _, cnt1, zs ++ [x], rfl, hrg3, hI3, hp2, hb1.trans (hb3.mono (Nat.le_succ _))⟩
        case measure => rw [hrg3.left_eq, hrg.left_eq]; exact hlt
      · have hp2 : Hid (zs.Perm ((L.filter (seenF now (fun z => left z && !z.sameKey (.int .i64 x)))).map (·.1))) := by
          show List.Perm _ _
          rw [seen_keep hL.nod hxt ho]
          exact hperm.out
        clear hperm
        go_wp2
        go_roundw
        case rel => exact ⟨v, _, cnt1, zs, rfl, hrg1, hI1, hp2, hb1⟩
        case measure => rw [hrg1.left_eq, hrg.left_eq]; exact hlt
set_option maxHeartbeats 1000000 in
theorem go_full (B M : Nat) (now t : Int) (L : List Tm) (w : World) (hW : WH w B M now L) (hL : WL L) (h : goOk now t = true)  :
    Calls Try.prog 14 #[.pointer (some ⟨B, 0, none⟩), .int .i64 t] w fun e w' => ∃ v, e = .returned (.tuple #[v, .int .i64 0]) ∧ Ints w' w.heap.size v (dueL t L) ∧ WH w' B M t (restL t L) ∧ Turn (fun k => k = B ∨ k = M) w w' := by
  obtain ⟨h1, h2⟩ := of_decide_eq_true h
  have h1' : ¬ t < now := by omega
  have h2' : ¬ 1099511627776 < t := by omega
  have hBM := hW.ne
  have hlt := hW.lt
  obtain ⟨hB, l, hM, hp⟩ := hW
  have c0 : w.cell? ⟨B, 0, none⟩ = some (.int .i64 now) := (hB.2 0 _ rfl).1
  have f0 : w.frozen? ⟨B, 0, none⟩ = false := (hB.2 0 _ rfl).2
  have ht1 := turn_set w B 0 (.int .i64 t)
  have hW1 : WH (w.setCell ⟨B, 0, none⟩ (.int .i64 t)) B M t L := ⟨hB.set 0 (.int .i64 t), l, hM.turn ht1 (fun e => hBM e.symm), hp⟩
  have hsz : (w.setCell ⟨B, 0, none⟩ (.int .i64 t)).heap.size = w.heap.size := World.size_setCell _ _ _
  have HZ : Hid ((w.setCell ⟨B, 0, none⟩ (.int .i64 t)).heap.size = w.heap.size) := hsz
  clear hsz
  go_enter Try.func14, Try.ntmps14
  go_upto_region 4 with fail
  generalize w.setCell ⟨B, 0, none⟩ (.int .i64 t) = w1 at *
  go_wp2_with fail
  refine (due_full B M t L w1 hW1 hL).mono ?_
  rintro e w2 ⟨v, rfl, hI2, hb2⟩
  rw [HZ.out] at hI2 hb2
  have hW2 := hW1.turn (S := fun _ => False) ⟨hb2.os, hb2.tape, hb2.output, hb2.size, fun k hk _ => hb2.block k (by have := HZ.out; omega)⟩ (fun h => h) (fun h => h)
  go_wp2_with fail
  refine (letgo_any B M w.heap.size t L v w2 hW2 hL hI2 (by omega)).mono ?_
  rintro e w3 ⟨rfl, hW3, ht3⟩
  go_wp2
  go_ret2
  have hT1 : Turn (fun k => k = B ∨ k = M) w w1 := ht1.mono (fun k h => Or.inl h)
  have hT2 : Turn (fun k => k = B ∨ k = M) w w2 := hT1.trans ⟨hb2.os, hb2.tape, hb2.output, hb2.size, fun k hk _ => hb2.block k (by have := HZ.out; omega)⟩
  refine ⟨v, rfl, hI2.turn ht3 (fun k hk e => by omega), hW3, hT2.trans (ht3.mono (fun k h => Or.inr h))⟩
end Go.Proofs.Ytbdloehdhdifpaa
