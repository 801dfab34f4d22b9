/- WheelOnce, walked. -/
import Derived.Test.YtbdloehdhdifpaaWi
namespace Go.Proofs.Ytbdloehdhdifpaa
open Go.Shelf Go.RowKit Go.Maps Go.Lib Go.Sort Go.Proofs
set_option maxRecDepth 100000
set_option linter.unusedVariables false
set_option linter.unusedSimpArgs false

theorem due_lk {L : List Tm} (hL : WL L) {t : Int} {k : Nat} {x : Int} (h : (dueL t L)[k]? = some x) : ∃ c, lkT L x = some c ∧ c ≤ t := by
  obtain ⟨e, he, hk⟩ := List.mem_map.1 (List.mem_of_getElem? h)
  have h1 := List.mem_filter.1 he
  subst hk
  exact ⟨e.2, lkT_of hL.nod h1.1, of_decide_eq_true h1.2⟩
theorem due_bef {L : List Tm} (hL : WL L) {t : Int} {k : Nat} {p x c d : Int} (hp : (dueL t L)[k]? = some p) (hx : (dueL t L)[k + 1]? = some x) (hc : lkT L p = some c) (hd : lkT L x = some d) : bef (p, c) (x, d) := by
  unfold dueL at hp hx
  rw [List.getElem?_map, Option.map_eq_some_iff] at hp hx
  obtain ⟨e, he, rfl⟩ := hp
  obtain ⟨f, hf, rfl⟩ := hx
  have h1 : lkT L e.1 = some e.2 := lkT_of hL.nod (List.mem_filter.1 (List.mem_of_getElem? he)).1
  have h2 : lkT L f.1 = some f.2 := lkT_of hL.nod (List.mem_filter.1 (List.mem_of_getElem? hf)).1
  rw [h1] at hc
  rw [h2] at hd
  cases hc
  cases hd
  have h3 := List.Pairwise.filter (fun e : Tm => decide (e.2 ≤ t)) hL.srt
  rw [List.pairwise_iff_getElem] at h3
  obtain ⟨i1, e1⟩ := List.getElem?_eq_some_iff.1 he
  obtain ⟨i2, e2⟩ := List.getElem?_eq_some_iff.1 hf
  have := h3 k (k + 1) i1 i2 (by omega)
  rw [e1, e2] at this
  exact this
theorem rest_lk {L : List Tm} {t x c : Int} (h : lkT (restL t L) x = some c) : ¬ c ≤ t := by
  have := (List.mem_filter.1 (lkT_mem h)).2
  simpa using this
theorem getD_at {zs : List Int} {k : Nat} (h : k < zs.length) : zs[k]? = some (zs.getD k 0) := by
  rw [List.getD_eq_getElem?_getD, List.getElem?_eq_getElem h]
  rfl
set_option maxHeartbeats 8000000 in
theorem once_any (a : Option Addr) (n cap : Nat) (w : World) (hr : Flat.Rows w a n 3 [.i, .i, .i]) (hz : n < 1000000000000000) :
    Calls Try.prog 4 #[.slice a n cap] w fun e w' => e = .returned (.bool true) ∧ Bel w.heap.size w w' := by
  have hmm := @run_makeMap Try.prog
  have HA : Hid (Flat.Rows w a n 3 [.i, .i, .i]) := hr
  clear hr
  go_enter Try.func4, Try.ntmps4
  go_wp2_with fail
  refine (new_t 10 w (by decide)).mono ?_
  rintro e w1 ⟨B, M, rfl, hBb, hMb, hW1, hb1⟩
  go_wp2_with fail
  refine (works_any w1).mono ?_
  rintro e w2 ⟨rfl, hb2⟩
  go_upto_region 5 with fail
  have q3 := bel1 w2 (.map #[] 0)
  have hD0 := VM.made w2
  have hW3 := (hW1.later hb2).later q3
  have hb3 := bt hb1 (bt hb2 q3)
  have hBM := hW1.ne
  have hBD : B < w2.heap.size := (hW1.later hb2).lt.1
  have hMD : M < w2.heap.size := (hW1.later hb2).lt.2
  have hDb : w.heap.size ≤ w2.heap.size := (bt hb1 hb2).size
  clear hW1 hb1 hb2 q3
  generalize w2.alloc (.map #[] 0) = w4 at *
  obtain ⟨D, hDe⟩ : ∃ x, x = w2.heap.size := ⟨_, rfl⟩
  rw [← hDe] at hBD hMD hDb hD0 ⊢
  clear hDe
  have hT0 : TW w4 B M D 10 [] := ⟨hW3, WL.nil, ⟨[], hD0, List.Perm.refl _⟩, fun e he => by cases he⟩
  clear hW3 hD0
  go_wp2
  go_loopw [6, 7] (fun nv i wr => ∃ (k : Nat) (L : List Tm) (now : Int), nv = .int .i64 now ∧ i = .int .i64 (k : Int) ∧ k ≤ n ∧ k ≤ 80 ∧ 10 ≤ now ∧ now ≤ 10 + 100 * (k : Int) ∧ TW wr B M D now L ∧ Bel w.heap.size w wr) (fun _ i _ => n - (intOf i).toNat)
  case atStart => exact ⟨0, [], 10, rfl, rfl, Nat.zero_le _, by decide, by decide, by decide, hT0, hb3⟩
  case round =>
    clear hT0 hb3
    obtain ⟨k, L, now, rfl, rfl, hkn, hk80, hn0, hn1, hT, hbr⟩ := hrel
    by_cases hlt : k < n ∧ k < 80
    rotate_left
    · by_cases hkn' : (k : Int) < (n : Int)
      · have hk30' : ¬ (k : Int) < 80 := by omega
        go_wp2
        go_ret
        exact ⟨rfl, hbr⟩
      · go_wp2
        go_ret
        exact ⟨rfl, hbr⟩
    obtain ⟨ab, off, rfl, hrow⟩ : ∃ b off, a = some ⟨b, off, none⟩ ∧ ∀ k, k < n → ∃ cs : List Value, Flat.Ok [.i, .i, .i] cs ∧ ∀ j v, cs[j]? = some v → w.cell? ⟨b, off + k * 3 + j, none⟩ = some v := by
      rcases HA.out with h | h
      · omega
      · exact h
    obtain ⟨cs, ⟨hcl, hck⟩, hcc⟩ := hrow k hlt.1
    clear hrow
    match cs, hcl with
    | [v0, v1, v2], _ =>
    obtain ⟨kd, rfl, wkd⟩ := hck 0 _ _ rfl rfl
    obtain ⟨nm, rfl, wnm⟩ := hck 1 _ _ rfl rfl
    obtain ⟨at_, rfl, wat⟩ := hck 2 _ _ rfl rfl
    have x0 := later hbr (hcc 0 _ rfl)
    have x1 := later hbr (hcc 1 _ rfl)
    have x2 := later hbr (hcc 2 _ rfl)
    rw [Nat.add_zero] at x0
    clear hcc hck
    have hk1 : (k : Int) < (n : Int) := by omega
    have hk2 : (k : Int) < 80 := by omega
    have hk3 : (0 : Int) ≤ (k : Int) := by omega
    have q1 := bel1 wr (.cells #[.int .i64 kd, .int .i64 nm, .int .i64 at_] 32)
    have hAct := At.box wr #[.int .i64 kd, .int .i64 nm, .int .i64 at_] 32
    go_upto_region 10 with fail
    have hT1 := hT.later q1
    have hb1 := bt hbr q1
    have hltr := hT.1.lt
    obtain ⟨Ab, hAb⟩ : ∃ x, x = wr.heap.size := ⟨_, rfl⟩
    rw [← hAb] at hAct
    rw [← hAb]
    clear x0 x1 x2 hT q1 hAb hbr
    generalize wr.alloc (.cells #[.int .i64 kd, .int .i64 nm, .int .i64 at_] 32) = w5 at *
    have a0 : w5.cell? ⟨Ab, 0, none⟩ = some (.int .i64 kd) := (hAct.2 0 _ rfl).1
    have a1 : w5.cell? ⟨Ab, 1, none⟩ = some (.int .i64 nm) := (hAct.2 1 _ rfl).1
    have a2 : w5.cell? ⟨Ab, 2, none⟩ = some (.int .i64 at_) := (hAct.2 2 _ rfl).1
    go_wp2_with fail
    refine (among_any nm 12 w5 (by decide) (by decide)).mono ?_
    rintro e w6 ⟨rfl, rfl⟩
    have hm0 : 0 ≤ nm % 12 := Int.emod_nonneg _ (by decide)
    have hm1 : nm % 12 < 12 := Int.emod_lt_of_pos _ (by decide)
    generalize nm % 12 = m at *
    go_wp2_with fail
    refine (among_any kd 3 w6 (by decide) (by decide)).mono ?_
    rintro e w7 ⟨rfl, rfl⟩
    have hd0 : 0 ≤ kd % 3 := Int.emod_nonneg _ (by decide)
    have hd1 : kd % 3 < 3 := Int.emod_lt_of_pos _ (by decide)
    generalize kd % 3 = c at *
    have hwm : (Lit.int .i64 m).wf = true := WalkArith.wf_i64 (by omega)
    obtain ⟨hW, hL, ⟨l, hD, hp⟩, h12⟩ := hT1
    have hfew := few hL h12
    have HLL : Hid (l.length = L.length) := by show _ = _; rw [hp.length_eq, List.length_map]
    have hlm : l.length < 1000000 := by have := HLL.out; omega
    have hv := vlk_is hD.2 hp hL.nod m
    have hMD' : ¬ (D = M) := by omega
    by_cases hc0 : c = 0
    · subst hc0
      go_wp2_with fail
      refine (among_any at_ 200 w7 (by decide) (by decide)).mono ?_
      rintro e w8 ⟨rfl, rfl⟩
      have hz0 : 0 ≤ at_ % 200 := Int.emod_nonneg _ (by decide)
      have hz1 : at_ % 200 < 200 := Int.emod_lt_of_pos _ (by decide)
      generalize at_ % 200 = z at *
      have ht0 : 0 ≤ max 0 (now + z - 20) := Int.le_max_left _ _
      have ht1 : max 0 (now + z - 20) ≤ 20000 := by rw [Int.max_le]; omega
      have hok : setOk m (max 0 (now + z - 20)) = true := by unfold setOk tickB; rw [decide_eq_true (by omega), decide_eq_true (by omega)]; rfl
      go_wp2_with fail
      refine (set_t B M now m (max 0 (now + z - 20)) L w8 hW hL hok (Or.inr (by omega))).mono ?_
      rintro e w9 ⟨rfl, hW9, hL9, ht9⟩
      have hD9 := hD.turn ht9 hMD'
      have hb9 : Bel w.heap.size w w9 := bel_turn hb1 ht9 (fun j hj he => by omega) (Nat.le_refl _)
      go_wp2_with (first
        | (at_mapUpdate; refine wpList_put_vm rfl _ _ _ rfl D l m (.int .i64 (max 0 (now + z - 20))) hwm Try.underlying49 hlm rfl hD9 rfl rfl ?_; intro w10 hD10 ht10)
        | go_in)
      have hW10 := hW9.turn ht10 (by omega) (by omega)
      have hb10 : Bel w.heap.size w w10 := bel_turn hb9 ht10 (fun j hj he => by omega) (Nat.le_refl _)
      have hT10 : TW w10 B M D now (putT L (m, (max 0 (now + z - 20)))) := ⟨hW10, hL9, ⟨_, hD10, put_perm hp (m, (max 0 (now + z - 20)))⟩, fun e he => by
        rcases mem_insT.1 he with rfl | h
        · exact ⟨hm0, hm1⟩
        · exact h12 e (List.mem_filter.1 h).1⟩
      go_roundw
      case rel => exact ⟨k + 1, _, now, rfl, by simp, by omega, by omega, by omega, by omega, hT10, hb10⟩
      case measure => (simp [intOf]; try omega)
    by_cases hc1 : c = 1
    · subst hc1
      cases hq : lkT L m with
      | none =>
        rw [hq] at hv
        go_wp2_with (first
          | (at_lookup; refine wpList_lookup_vm rfl _ _ rfl D l m hwm Try.underlying49 zeroI rfl hD rfl ?_; rw [hv])
          | fail)
        refine (drop_n B M now m L _ hW hL hwm hq).mono ?_
        rintro e w9 ⟨rfl, rfl⟩
        go_wp2_with (first
          | (at_delete; refine wpList_delete_vm rfl _ _ rfl D l m hwm Try.underlying49 rfl hD rfl ?_; intro w10 hD10 ht10)
          | go_in)
        have hW10 := hW.turn ht10 (by omega) (by omega)
        have hb10 : Bel w.heap.size w w10 := bel_turn hb1 ht10 (fun j hj he => by omega) (Nat.le_refl _)
        have hde : delT L m = L := by unfold delT; rw [List.filter_eq_self]; intro e he; simpa using lkT_none hq e he
        have hp2 := del_perm hp m
        rw [hde] at hp2
        have hT10 : TW w10 B M D now L := ⟨hW10, hL, ⟨_, hD10, hp2⟩, h12⟩
        go_roundw
        case rel => exact ⟨k + 1, _, now, rfl, by simp, by omega, by omega, by omega, by omega, hT10, hb10⟩
        case measure => (simp [intOf]; try omega)
      | some cc =>
        rw [hq] at hv
        go_wp2_with (first
          | (at_lookup; refine wpList_lookup_vm rfl _ _ rfl D l m hwm Try.underlying49 zeroI rfl hD rfl ?_; rw [hv])
          | fail)
        refine (drop_s B M now m cc L _ hW hL hwm hq).mono ?_
        rintro e w9 ⟨rfl, hW9, ht9⟩
        have hD9 := hD.turn ht9 hMD'
        have hb9 : Bel w.heap.size w w9 := bel_turn hb1 ht9 (fun j hj he => by omega) (Nat.le_refl _)
        go_wp2_with (first
          | (at_delete; refine wpList_delete_vm rfl _ _ rfl D l m hwm Try.underlying49 rfl hD9 rfl ?_; intro w10 hD10 ht10)
          | go_in)
        have hW10 := hW9.turn ht10 (by omega) (by omega)
        have hb10 : Bel w.heap.size w w10 := bel_turn hb9 ht10 (fun j hj he => by omega) (Nat.le_refl _)
        have hT10 : TW w10 B M D now (delT L m) := ⟨hW10, hL.del m, ⟨_, hD10, del_perm hp m⟩, fun e he => h12 e (List.mem_filter.1 he).1⟩
        go_roundw
        case rel => exact ⟨k + 1, _, now, rfl, by simp, by omega, by omega, by omega, by omega, hT10, hb10⟩
        case measure => (simp [intOf]; try omega)
    obtain rfl : c = 2 := by omega
    clear hc0 hc1 hv
    go_wp2_with fail
    refine (among_any at_ 100 w7 (by decide) (by decide)).mono ?_
    rintro e w8 ⟨rfl, rfl⟩
    have hz0 : 0 ≤ at_ % 100 := Int.emod_nonneg _ (by decide)
    have hz1 : at_ % 100 < 100 := Int.emod_lt_of_pos _ (by decide)
    generalize at_ % 100 = z at *
    have ht0 : now ≤ now + z := by omega
    have ht1 : now + z ≤ 10 + 100 * ((k : Int) + 1) := by omega
    have HT1 : Hid (now + z ≤ 10 + 100 * ((k : Int) + 1)) := ht1
    have hok : goOk now (now + z) = true := decide_eq_true (by omega)
    have hsz0 : Ab < w8.heap.size := hAct.1
    have hDlt := hD.lt
    have hlt8 := hW.lt
    go_wp2_with fail
    refine (go_t B M now (now + z) L w8 hW hL hok (by omega)).mono ?_
    rintro e w9 ⟨v9, rfl, hI9, hW9, ht9⟩
    have hD9 := hD.turn ht9 (by omega)
    have hb9 : Bel w.heap.size w w9 := bel_turn hb1 ht9 (fun j hj he => by omega) (Nat.le_refl _)
    clear hW hD hb1 ht9 hAct a0 a1 a2
    obtain ⟨t, htt⟩ : ∃ x, x = now + z := ⟨_, rfl⟩
    rw [← htt] at hI9 hW9 ht0 ht1
    have ht2 : t ≤ 20000 := by omega
    obtain ⟨av, cv, rfl, hrow⟩ := hI9.row
    have hdl := due_len t L
    have hlkz := fun k x h => due_lk hL (t := t) (k := k) (x := x) h
    have hbef := fun k p x c d h1 h2 h3 h4 => due_bef hL (t := t) (k := k) (p := p) (x := x) (c := c) (d := d) h1 h2 h3 h4
    have hend := left_end hL.nod t
    have hokz : ∀ z ∈ dueL t L, 0 ≤ z ∧ z ≤ 1073741824 := fun z hz => by
      obtain ⟨e, he, rfl⟩ := List.mem_map.1 hz
      exact (hL.ok e (List.mem_filter.1 he).1).1
    have HLK : Hid _ := hlkz
    have HBF : Hid _ := hbef
    have HEN : Hid _ := hend
    clear hlkz hbef hend
    have hzl : (dueL t L).length < 1000000 := by omega
    generalize hzs : dueL t L = zs at *
    clear hzs
    rw [← htt]
    have HTT : Hid (t = now + z) := htt
    clear htt
    rcases hrow with h0 | ⟨g, go, rfl, hc⟩
    · subst h0
      have hre : restL t L = L := by rw [← HEN.out]; unfold leftL; rw [List.filter_eq_self.2 (by simp)]
      have hlk9 : ∀ x, lkT (restL t L) x = lkT L x := fun x => by rw [hre]
      simp only [List.length_nil]
      go_upto_region 17 with fail
      refine wp_loop_rounds 1 ?_
      rw [rounds_succ]
      go_upto_region 24 with fail
      refine wp_loop_rounds 1 ?_
      rw [rounds_succ]
      go_upto_region 29 with fail
      rw [hre] at hW9
      have hD11 := hD9
      have hp11 := hp
      have hW11 := hW9
      have hb11 := hb9
      have hL11 := hL
      have h1211 := h12
      have hr11 : ∀ x c, lkT L x = some c → ¬ c ≤ t := fun x c h => rest_lk (by rw [hlk9]; exact h)
      obtain ⟨L2, hL2⟩ : ∃ x, x = L := ⟨L, rfl⟩
      rw [← hL2] at hp11 hW11 hL11 h1211 hr11
      obtain ⟨l2, hl2⟩ : ∃ x, x = l := ⟨l, rfl⟩
      rw [← hl2] at hD11 hp11
      obtain ⟨w11, hw11⟩ : ∃ x, x = w9 := ⟨w9, rfl⟩
      rw [← hw11] at hD11 hW11 hb11 ⊢
      clear hl2 hL2 hw11 hre hlk9 hD9 hW9 hb9
      clear HLK HBF HEN
      go_loopw [137] (fun i wr => ∃ j : Nat, i = .int .i64 (j : Int) ∧ j ≤ 12 ∧ w11 = wr) (fun i _ => 12 - (intOf i).toNat)
      case atStart => exact ⟨0, rfl, by decide, rfl⟩
      case round =>
        obtain ⟨j, rfl, hj, rfl⟩ := hrel
        by_cases hjl : j < 12
        · have hj1 : (j : Int) < 12 := by omega
          have hj0 : (0 : Int) ≤ (j : Int) := by omega
          have hwx : (Lit.int .i64 (j : Int)).wf = true := WalkArith.wf_i64 (by omega)
          have hvx := vlk_is hD11.2 hp11 hL11.nod (j : Int)
          cases hq : lkT L2 (j : Int) with
          | none =>
            rw [hq] at hvx
            go_wp2_with (first
              | (at_lookup; refine wpList_lookup_vm rfl _ _ rfl D l2 (j : Int) hwx Try.underlying49 zeroI rfl hD11 rfl ?_; rw [hvx])
              | go_in)
            go_roundw
            case rel => exact ⟨j + 1, by simp, by omega, by first | rfl | trivial⟩
            case measure => (simp [intOf]; try omega)
          | some c =>
            rw [hq] at hvx
            have hct := hr11 _ _ hq
            go_wp2_with (first
              | (at_lookup; refine wpList_lookup_vm rfl _ _ rfl D l2 (j : Int) hwx Try.underlying49 zeroI rfl hD11 rfl ?_; rw [hvx])
              | go_in)
            go_roundw
            case rel => exact ⟨j + 1, by simp, by omega, by first | rfl | trivial⟩
            case measure => (simp [intOf]; try omega)
        · have hj1 : ¬ (j : Int) < 12 := by omega
          have hT11 : TW w11 B M D t L2 := ⟨hW11, hL11, ⟨_, hD11, hp11⟩, h1211⟩
          go_wp2
          go_roundw
          case rel => exact ⟨k + 1, _, t, rfl, by simp, by omega, by omega, by omega, by omega, hT11, hb11⟩
          case measure => (simp [intOf]; try omega)
    · have HC : Hid (∀ j, j < zs.length → w9.cell? ⟨g, go + j, none⟩ = some (.int .i64 (zs.getD j 0))) := hc
      have hgD : zs.length ≠ 0 → g ≠ D := fun hne => by
        rintro rfl
        have hcw := hc 0 (by omega)
        obtain ⟨⟨es, clock, hb, -⟩, -⟩ := hD9
        simp [World.cell?, hb] at hcw
      clear hc
      go_upto_region 17 with fail
      go_loopw [74] (fun i wr => ∃ j : Nat, i = .int .i64 (j : Int) ∧ j ≤ zs.length ∧ w9 = wr) (fun i _ => zs.length - (intOf i).toNat)
      case atStart => exact ⟨0, rfl, Nat.zero_le _, rfl⟩
      case round =>
        obtain ⟨j, rfl, hj, rfl⟩ := hrel
        by_cases hjl : j < zs.length
        · have hj1 : (j : Int) < (zs.length : Int) := by omega
          have hj0 : (0 : Int) ≤ (j : Int) := by omega
          have hcx := HC.out j hjl
          obtain ⟨cx, hcx1, hcx2⟩ := HLK.out j _ (getD_at hjl)
          have hwx : (Lit.int .i64 (zs.getD j 0)).wf = true := WalkArith.wf_i64 (by have := hokz _ (List.mem_of_getElem? (getD_at hjl)); omega)
          have hvx := vlk_is hD9.2 hp hL.nod (zs.getD j 0)
          rw [hcx1] at hvx
          have hcx2' : ¬ t < cx := by omega
          by_cases hj2 : j = 0
          · have hjn : ¬ (0 : Int) < (j : Int) := by omega
            have hjm : ¬ (0 < j) := by omega
            have hjd : decide ((j : Int) > 0) = false := decide_eq_false (by omega)
            clear hj2
            generalize zs.getD j 0 = x at *
            go_wp2_with (first
              | (at_lookup; refine wpList_lookup_vm rfl _ _ rfl D l x hwx Try.underlying49 zeroI rfl hD9 rfl ?_; rw [hvx])
              | go_in)
            go_roundw
            case rel => exact ⟨j + 1, by simp, by omega, by first | rfl | trivial⟩
            case measure => (simp [intOf]; try omega)
          · obtain ⟨i, rfl⟩ : ∃ q, j = q + 1 := ⟨j - 1, by omega⟩
            have hil : i < zs.length := by omega
            have hcp := HC.out i hil
            obtain ⟨cp, hcp1, hcp2⟩ := HLK.out i _ (getD_at hil)
            have hbf := HBF.out i _ _ cp cx (getD_at hil) (getD_at hjl) hcp1 hcx1
            have hwp : (Lit.int .i64 (zs.getD i 0)).wf = true := WalkArith.wf_i64 (by have := hokz _ (List.mem_of_getElem? (getD_at hil)); omega)
            have hvp := hD9.look (k := zs.getD i 0) Try.underlying49 zeroI hwp
            rw [vlk_is hD9.2 hp hL.nod (zs.getD i 0), hcp1] at hvp
            have hvp' : (Instr.lookup 49 (.map (some D)) (.int .i64 (zs.getD i 0)) false).run Try.prog w9 = .ok (.int .i64 cp) w9 := hvp
            have eJ : ((i + 1 : Nat) : Int) = (i : Int) + 1 := by omega
            have hi1 : (i : Int) + 1 > 0 := by omega
            have hi2 : (0 : Int) < (i : Int) + 1 := by omega
            have hi3 : (i : Int) < (zs.length : Int) := by omega
            have hi4 : (i : Int) + 1 < (zs.length : Int) := by omega
            have hi5 : (0 : Int) ≤ (i : Int) := by omega
            have hi6 : (0 : Int) ≤ (i : Int) + 1 := by omega
            have hi7 : ((i : Int) + 1).toNat = i + 1 := by omega
            unfold bef at hbf
            simp only at hbf
            clear hvp hcp1 hcx1 hjl hil hj hj1 hj0
            generalize zs.getD (i + 1) 0 = x at *
            generalize zs.getD i 0 = p at *
            rcases hbf with hlt2 | ⟨heq, hpx⟩
            · have e1 : ¬ cx < cp := by omega
              have e2 : (cp == cx) = false := beq_eq_false_iff_ne.2 (by omega)
              go_wp2_with (first
                | (at_lookup; refine wpList_lookup_vm rfl _ _ rfl D l x hwx Try.underlying49 zeroI rfl hD9 rfl ?_; rw [hvx])
                | go_in)
              go_roundw
              case rel => exact ⟨i + 1 + 1, by simp, by omega, by first | rfl | trivial⟩
              case measure => (simp [intOf]; try omega)
            · subst heq
              have e1 : ¬ cp < cp := by omega
              have e3 : ¬ x ≤ p := by omega
              go_wp2_with (first
                | (at_lookup; refine wpList_lookup_vm rfl _ _ rfl D l x hwx Try.underlying49 zeroI rfl hD9 rfl ?_; rw [hvx])
                | go_in)
              go_roundw
              case rel => exact ⟨i + 1 + 1, by simp, by omega, by first | rfl | trivial⟩
              case measure => (simp [intOf]; try omega)
        · have hj1 : ¬ (j : Int) < (zs.length : Int) := by omega
          go_upto_region 24 with fail
          go_loopw [130] (fun i wr => ∃ (j : Nat) (l1 : List Vn), i = .int .i64 (j : Int) ∧ j ≤ zs.length ∧ VM wr D l1 ∧ Hid (l1.Perm ((leftL L (zs.take j)).map tV)) ∧ Turn (fun k => k = D) w9 wr) (fun i _ => zs.length - (intOf i).toNat)
          case atStart => exact ⟨0, l, rfl, Nat.zero_le _, hD9, (show Hid _ from by show List.Perm _ _; rw [List.take_zero]; unfold leftL; rw [List.filter_eq_self.2 (by simp)]; exact hp), Turn.refl _⟩
          case round =>
            obtain ⟨q, l1, rfl, hq, hD1, hp1, htq⟩ := hrel
            by_cases hql : q < zs.length
            · have hq1 : (q : Int) < (zs.length : Int) := by omega
              have hq0 : (0 : Int) ≤ (q : Int) := by omega
              have hcw := HC.out q hql
              have hcr : wr.cell? ⟨g, go + q, none⟩ = some (.int .i64 (zs.getD q 0)) := (htq.cell (World.block_lt_of_cell? _ _ hcw) (hgD (by omega)) _).trans hcw
              have hzk : zs.getD q 0 ∈ zs := List.mem_of_getElem? (getD_at hql)
              have hwf : (Lit.int .i64 (zs.getD q 0)).wf = true := WalkArith.wf_i64 (by have := hokz _ hzk; omega)
              have htk : zs.take (q + 1) = zs.take q ++ [zs.getD q 0] := by rw [List.take_add_one, getD_at hql]; rfl
              have hp2 : Hid ((vdel l1 (zs.getD q 0)).Perm ((leftL L (zs.take (q + 1))).map tV)) := by
                show List.Perm _ _
                rw [htk, ← left_more]
                exact del_perm hp1.out _
              clear hcw htk hzk
              generalize zs.getD q 0 = y at *
              go_wp2_with (first
                | (at_delete; refine wpList_delete_vm rfl _ _ rfl D l1 y hwf Try.underlying49 rfl hD1 rfl ?_; intro w2 hD2 ht2)
                | go_in)
              go_roundw
              case rel => exact ⟨q + 1, _, by simp, by omega, hD2, hp2, htq.trans ht2⟩
              case measure => (simp [intOf]; try omega)
            · have hq1 : ¬ (q : Int) < (zs.length : Int) := by omega
              have hqe : q = zs.length := by omega
              have hp11 := hp1.out
              rw [hqe, List.take_length, HEN.out] at hp11
              have hD11 := hD1
              have hW11 := hW9.turn htq (by omega) (by omega)
              have hb11 : Bel w.heap.size w wr := bel_turn hb9 htq (fun j hj he => by omega) (Nat.le_refl _)
              have hL11 : WL (restL t L) := hL.part _
              have h1211 : ∀ e ∈ restL t L, 0 ≤ e.1 ∧ e.1 < 12 := fun e he => h12 e (List.mem_filter.1 he).1
              have hr11 : ∀ x c, lkT (restL t L) x = some c → ¬ c ≤ t := fun x c h => rest_lk h
              go_upto_region 29 with fail
              generalize restL t L = L2 at *
              obtain ⟨w11, hw11⟩ : ∃ x, x = wr := ⟨wr, rfl⟩
              rw [← hw11] at hD11 hW11 hb11 ⊢
              obtain ⟨l2, hl2⟩ : ∃ x, x = l1 := ⟨l1, rfl⟩
              rw [← hl2] at hD11 hp11
              clear hw11 hl2 hD1 hqe hql hq1 hq hp1 htq
              clear HLK HBF HEN
              go_loopw [137] (fun i wr => ∃ j : Nat, i = .int .i64 (j : Int) ∧ j ≤ 12 ∧ w11 = wr) (fun i _ => 12 - (intOf i).toNat)
              case atStart => exact ⟨0, rfl, by decide, rfl⟩
              case round =>
                obtain ⟨j, rfl, hj, rfl⟩ := hrel
                by_cases hjl : j < 12
                · have hj1 : (j : Int) < 12 := by omega
                  have hj0 : (0 : Int) ≤ (j : Int) := by omega
                  have hwx : (Lit.int .i64 (j : Int)).wf = true := WalkArith.wf_i64 (by omega)
                  have hvx := vlk_is hD11.2 hp11 hL11.nod (j : Int)
                  cases hq : lkT L2 (j : Int) with
                  | none =>
                    rw [hq] at hvx
                    go_wp2_with (first
                      | (at_lookup; refine wpList_lookup_vm rfl _ _ rfl D l2 (j : Int) hwx Try.underlying49 zeroI rfl hD11 rfl ?_; rw [hvx])
                      | go_in)
                    go_roundw
                    case rel => exact ⟨j + 1, by simp, by omega, by first | rfl | trivial⟩
                    case measure => (simp [intOf]; try omega)
                  | some c =>
                    rw [hq] at hvx
                    have hct := hr11 _ _ hq
                    go_wp2_with (first
                      | (at_lookup; refine wpList_lookup_vm rfl _ _ rfl D l2 (j : Int) hwx Try.underlying49 zeroI rfl hD11 rfl ?_; rw [hvx])
                      | go_in)
                    go_roundw
                    case rel => exact ⟨j + 1, by simp, by omega, by first | rfl | trivial⟩
                    case measure => (simp [intOf]; try omega)
                · have hj1 : ¬ (j : Int) < 12 := by omega
                  have hT11 : TW w11 B M D t L2 := ⟨hW11, hL11, ⟨_, hD11, hp11⟩, h1211⟩
                  go_wp2
                  go_roundw
                  case rel => exact ⟨k + 1, _, t, rfl, by simp, by omega, by omega, by omega, by omega, hT11, hb11⟩
                  case measure => (simp [intOf]; try omega)
end Go.Proofs.Ytbdloehdhdifpaa
