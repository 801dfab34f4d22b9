/- WheelNext, walked. -/
import Derived.Test.YtbdloehdhdifpaaXh
import Derived.Test.YtbdloehdhdifpaaWj
namespace Go.Proofs.Ytbdloehdhdifpaa
open Go.Shelf Go.RowKit Go.Maps Go.Lib Go.Sort Go.Proofs
set_option maxRecDepth 100000
set_option linter.unusedVariables false
set_option linter.unusedSimpArgs false

def Arg (w : World) (a : Option Addr) (zs : List Int) : Prop := zs = [] ∨ ∃ x, a = some x ∧ ∀ i, i < zs.length → w.cell? (x.add i) = some (.int .i64 (zs.getD i 0))
/-- A wheel, and a map of what it has; all is due behind now. -/
def NW (w : World) (B M D : Nat) (now : Int) (L : List Tm) : Prop := WH w B M now L ∧ WL L ∧ (∃ l, VM w D l ∧ l.Perm (L.map tV)) ∧ ∀ e ∈ L, now < e.2 ∧ e.2 ≤ 500
theorem NW.later {w w' : World} {B M D : Nat} {now : Int} {L : List Tm} (h : NW w B M D now L) (hb : Bel w.heap.size w w') : NW w' B M D now L := by
  obtain ⟨h1, h2, ⟨l, h3, h4⟩, h5⟩ := h
  exact ⟨h1.later hb, h2, ⟨l, h3.later hb, h4⟩, h5⟩
theorem put_len (L : List Tm) (e : Tm) : (putT L e).length ≤ L.length + 1 := by
  unfold putT
  rw [(perm_insT e (delT L e.1)).length_eq, List.length_cons]
  have := List.length_filter_le (fun x : Tm => x.1 != e.1) L
  unfold delT
  omega
theorem due_none {L : List Tm} {t : Int} (h : ∀ e ∈ L, t < e.2) : dueL t L = [] ∧ restL t L = L := by
  constructor
  · unfold dueL
    rw [List.filter_eq_nil_iff.2 (fun e he => by have := h e he; simp; omega)]
    rfl
  · unfold restL
    rw [List.filter_eq_self]
    intro e he
    have := h e he
    simp; omega
theorem rest_len {e : Tm} {L : List Tm} (h : e ∈ L) {t : Int} (ht : e.2 ≤ t) : (restL t L).length < L.length := by
  unfold restL
  exact List.length_filter_lt_length_iff_exists.2 ⟨e, h, by simp [ht]⟩
theorem due_some {e : Tm} {L : List Tm} (h : e ∈ L) {t : Int} (ht : e.2 ≤ t) : (dueL t L).length ≠ 0 := by
  unfold dueL
  rw [List.length_map]
  have : e ∈ L.filter fun e => decide (e.2 ≤ t) := List.mem_filter.2 ⟨h, decide_eq_true ht⟩
  exact fun h0 => by rw [List.length_eq_zero_iff] at h0; rw [h0] at this; cases this
theorem due_nod {L : List Tm} (hL : WL L) (t : Int) : (dueL t L).Nodup := (List.filter_sublist.map _).nodup hL.nod
theorem left_lk {L : List Tm} (hL : WL L) {zs : List Int} {x c : Int} (h : lkT L x = some c) (hx : x ∉ zs) : lkT (leftL L zs) x = some c := by
  refine lkT_of (hL.part _).nod (List.mem_filter.2 ⟨lkT_mem h, ?_⟩)
  simpa using hx
theorem take_not {zs : List Int} (hn : zs.Nodup) {q : Nat} (hq : q < zs.length) : zs.getD q 0 ∉ zs.take q := by
  intro h
  obtain ⟨i, hi, he⟩ := List.mem_iff_getElem.1 h
  have hiq : i < q := by rw [List.length_take] at hi; omega
  have h1 : zs[i]? = some (zs.getD q 0) := by
    rw [List.getElem_take] at he
    rw [List.getElem?_eq_getElem (by omega), he]
  have h2 := getD_at hq
  obtain ⟨i1, e1⟩ := List.getElem?_eq_some_iff.1 h1
  obtain ⟨i2, e2⟩ := List.getElem?_eq_some_iff.1 h2
  exact List.pairwise_iff_getElem.1 (List.nodup_iff_pairwise_ne.1 hn) i q i1 i2 hiq (e1.trans e2.symm)
set_option maxHeartbeats 8000000 in
theorem wnext_any (a : Option Addr) (cap : Nat) (zs0 : List Int) (w : World) (hi : Arg w a zs0) (hz : zs0.length * 8 ≤ 140737488351232) :
    Calls Try.prog 5 #[.slice a zs0.length cap] w fun e w' => e = .returned (.bool true) ∧ Bel w.heap.size w w' := by
  have hmm := @run_makeMap Try.prog
  have HA : Hid (Arg w a zs0) := hi
  clear hi
  go_enter Try.func5, Try.ntmps5
  go_wp2_with fail
  refine (new_t 0 w (by decide)).mono ?_
  rintro e w1 ⟨B, M, rfl, hBb, hMb, hW1, hb1⟩
  go_wp2_with fail
  refine (works_any w1).mono ?_
  rintro e w2 ⟨rfl, hb2⟩
  go_upto_region 5 with fail
  have q3 := bel1 w2 (.map #[] 0)
  have hD0 := VM.made w2
  have hW3 := (hW1.later hb2).later q3
  have hb3 := bt hb1 (bt hb2 q3)
  have hBM := hW1.ne
  have hBD : B < w2.heap.size := (hW1.later hb2).lt.1
  have hMD : M < w2.heap.size := (hW1.later hb2).lt.2
  have hDb : w.heap.size ≤ w2.heap.size := (bt hb1 hb2).size
  clear hW1 hb1 hb2 q3
  generalize w2.alloc (.map #[] 0) = w4 at *
  obtain ⟨D, hDe⟩ : ∃ x, x = w2.heap.size := ⟨_, rfl⟩
  rw [← hDe] at hBD hMD hDb hD0 ⊢
  clear hDe
  have hT0 : NW w4 B M D 0 [] := ⟨hW3, WL.nil, ⟨[], hD0, List.Perm.refl _⟩, fun e he => by cases he⟩
  clear hW3 hD0
  go_wp2
  go_loopw [6] (fun i wr => ∃ (k : Nat) (L : List Tm), i = .int .i64 (k : Int) ∧ k ≤ zs0.length ∧ k ≤ 30 ∧ L.length ≤ k ∧ NW wr B M D 0 L ∧ Hid (∀ e ∈ L, e.1 < (k : Int)) ∧ Bel w.heap.size w wr) (fun i _ => zs0.length - (intOf i).toNat)
  case atStart => exact ⟨0, [], rfl, Nat.zero_le _, by decide, by simp, hT0, (show Hid _ from fun e he => by cases he), hb3⟩
  case round =>
    clear hT0 hb3
    obtain ⟨k, L, rfl, hkn, hk30, hlk, hT, HK, hbr⟩ := hrel
    by_cases hlt : k < zs0.length ∧ k < 30
    · obtain ⟨x, rfl, hc⟩ : ∃ x, a = some x ∧ ∀ i, i < zs0.length → w.cell? (x.add i) = some (.int .i64 (zs0.getD i 0)) := by
        rcases HA.out with h | h
        · subst h; simp at hlt
        · exact h
      have g := later hbr (hc k hlt.1)
      have hk1 : (k : Int) < (zs0.length : Int) := by omega
      have hk2 : (k : Int) < 30 := by omega
      have hk3 : (0 : Int) ≤ (k : Int) := by omega
      clear hc
      generalize zs0.getD k 0 = z at *
      obtain ⟨hW, hL, ⟨l, hD, hp⟩, h5⟩ := hT
      have HLL : Hid (l.length = L.length) := by show _ = _; rw [hp.length_eq, List.length_map]
      have hlm : l.length < 1000000 := by have := HLL.out; omega
      have hwm : (Lit.int .i64 (k : Int)).wf = true := WalkArith.wf_i64 (by omega)
      go_wp2_with fail
      refine (among_any z 500 wr (by decide) (by decide)).mono ?_
      rintro e w5 ⟨rfl, rfl⟩
      have hf0 : 0 ≤ z % 500 := Int.emod_nonneg _ (by decide)
      have hf1 : z % 500 < 500 := Int.emod_lt_of_pos _ (by decide)
      generalize z % 500 = f at *
      obtain ⟨tk, htk⟩ : ∃ x, x = 1 + f := ⟨_, rfl⟩
      have ht1 : 1 ≤ tk := by omega
      have ht5 : tk ≤ 500 := by omega
      have hok : setOk (k : Int) tk = true := by unfold setOk tickB; rw [decide_eq_true (by omega), decide_eq_true (by omega)]; rfl
      have hft : 1 + f = tk := htk.symm
      clear htk
      go_wp2_with (first
        | (at_mapUpdate; refine wpList_put_vm rfl _ _ _ rfl D l (k : Int) (.int .i64 tk) hwm Try.underlying49 hlm rfl hD rfl (by first | rfl | (rw [← hft]; rfl)) ?_; intro w6 hD6 ht6; have hlook : (Instr.lookup 49 (.map (some D)) (.int .i64 (k : Int)) false).run Try.prog w6 = .ok (.int .i64 tk) w6 := (by have h9 := hD6.look (k := (k : Int)) Try.underlying49 zeroI hwm; rw [vlk_of hD6.2 (mem_vins.2 (Or.inl rfl))] at h9; exact h9))
        | fail)
      have hW6 := hW.turn ht6 (by omega) (by omega)
      have hb6 : Bel w.heap.size w w6 := bel_turn hbr ht6 (fun j hj he => by omega) (Nat.le_refl _)
      refine (set_t B M 0 (k : Int) tk L w6 hW6 hL hok (Or.inr (by omega))).mono ?_
      rintro e w7 ⟨rfl, hW7, hL7, ht7⟩
      have hD7 := hD6.turn ht7 (by omega)
      have hb7 : Bel w.heap.size w w7 := bel_turn hb6 ht7 (fun j hj he => by omega) (Nat.le_refl _)
      have hT7 : NW w7 B M D 0 (putT L ((k : Int), tk)) := ⟨hW7, hL7, ⟨_, hD7, put_perm hp ((k : Int), tk)⟩, fun e he => by
        rcases mem_insT.1 he with rfl | h
        · exact ⟨by show 0 < tk; omega, ht5⟩
        · exact h5 e (List.mem_filter.1 h).1⟩
      have hlen7 := put_len L ((k : Int), tk)
      have HK7 : Hid (∀ e ∈ putT L ((k : Int), tk), e.1 < ((k + 1 : Nat) : Int)) := fun e he => by
        rcases mem_insT.1 he with rfl | h
        · show (k : Int) < _; omega
        · have := HK.out e (List.mem_filter.1 h).1; omega
      go_wp2
      go_roundw
      case rel => exact ⟨k + 1, _, by simp, by omega, by omega, by omega, hT7, HK7, hb7⟩
      case measure => (simp [intOf]; try omega)
    · have hstop : ¬ ((k : Int) < (zs0.length : Int) ∧ (k : Int) < 30) := by omega
      have HK9 : Hid (∀ e ∈ L, e.1 < 30) := fun e he => by have := HK.out e he; omega
      clear HK HA
      have hw30 : L.length ≤ 30 := by omega
      by_cases hkz : (k : Int) < (zs0.length : Int)
      · have hk30' : ¬ (k : Int) < 30 := by omega
        clear hstop
        go_upto_region 12 with fail
        clear hlk hkn hk30
        go_loopw [58] (fun i wr => ∃ (q : Nat) (L : List Tm) (now : Int), i = .int .i64 (q : Int) ∧ L.length + q ≤ 30 ∧ 0 ≤ now ∧ NW wr B M D now L ∧ Hid (∀ e ∈ L, e.1 < 30) ∧ Bel w.heap.size w wr) (fun i _ => 31 - (intOf i).toNat)
        case atStart => exact ⟨0, L, 0, rfl, by omega, by decide, hT, HK9, hbr⟩
        case round =>
          clear hT HK9 hbr
          obtain ⟨q, L, now, rfl, hlq, hnow, hT, HK, hbr⟩ := hrel
          have hq1 : (q : Int) < 31 := by omega
          have hq0 : (0 : Int) ≤ (q : Int) := by omega
          obtain ⟨hW, hL, ⟨l, hD, hp⟩, h5⟩ := hT
          go_wp2_with fail
          refine (next_any B M now L wr hW hL).mono ?_
          rintro e w5 ⟨rfl, hb5⟩
          have hW5 := hW.later hb5
          have hD5 := hD.later hb5
          have hb5' := bt hbr hb5
          clear hW hD hbr hb5
          cases L with
          | nil =>
            obtain rfl : l = [] := List.perm_nil.1 hp
            have hlen : ∀ ty : TypeId, (Builtin.len_ #[49] ty #[.map (some D)]).run Try.prog w5 = .ok (.int .i64 0) w5 := fun ty => hD5.len Try.underlying49 ty
            simp only [nextR]
            go_wp2
            go_ret
            exact ⟨rfl, hb5'⟩
          | cons e0 r0 =>
            have hn0 := h5 e0 (List.mem_cons_self ..)
            have hall : ∀ e ∈ e0 :: r0, e0.2 ≤ e.2 := fun e he => by
              rcases List.mem_cons.1 he with rfl | h
              · exact Int.le_refl _
              · have := (List.pairwise_cons.1 hL.srt).1 e h
                unfold bef at this
                omega
            have hn1 : (nextR (e0 :: r0)) = (e0.2, true) := rfl
            rw [hn1]
            have hdn := due_none (L := e0 :: r0) (t := e0.2 - 1) (fun e he => by have := hall e he; omega)
            have hds := due_some (L := e0 :: r0) (List.mem_cons_self ..) (Int.le_refl e0.2)
            have hrl := rest_len (L := e0 :: r0) (List.mem_cons_self ..) (Int.le_refl e0.2)
            have hnod := due_nod hL e0.2
            have hlkz : ∀ k x, (dueL e0.2 (e0 :: r0))[k]? = some x → lkT (e0 :: r0) x = some e0.2 := fun k x h => by
              obtain ⟨c, h1, h2⟩ := due_lk hL h
              have := hall _ (lkT_mem h1)
              rw [h1, show c = e0.2 by simp at this; omega]
            have hend := left_end hL.nod e0.2
            have hokz : ∀ z ∈ dueL e0.2 (e0 :: r0), 0 ≤ z ∧ z ≤ 1073741824 := fun z hz => by
              obtain ⟨e, he, rfl⟩ := List.mem_map.1 hz
              exact (hL.ok e (List.mem_filter.1 he).1).1
            have hdl := due_len e0.2 (e0 :: r0)
            have hr11 : ∀ x c, lkT (restL e0.2 (e0 :: r0)) x = some c → ¬ c ≤ e0.2 := fun x c h => rest_lk h
            have h511 : ∀ e ∈ restL e0.2 (e0 :: r0), e0.2 < e.2 ∧ e.2 ≤ 500 := fun e he => by
              have h1 := List.mem_filter.1 he
              have h2 := (h5 e h1.1).2
              have h3 : ¬ e.2 ≤ e0.2 := by simpa using h1.2
              omega
            have HK11 : Hid (∀ e ∈ restL e0.2 (e0 :: r0), e.1 < 30) := fun e he => HK.out e (List.mem_filter.1 he).1
            have hL11 : WL (restL e0.2 (e0 :: r0)) := hL.part _
            have hleft : ∀ (zs : List Int) (x c : Int), lkT (e0 :: r0) x = some c → x ∉ zs → lkT (leftL (e0 :: r0) zs) x = some c := fun zs x c h1 h2 => left_lk hL h1 h2
            have hlW : ∀ zs, WL (leftL (e0 :: r0) zs) := fun zs => hL.part _
            have h50 := (hL.ok e0 (List.mem_cons_self ..)).2
            obtain ⟨nx, hnx⟩ : ∃ x, x = e0.2 := ⟨_, rfl⟩
            have hnz : 1 ≤ nx := by omega
            have hok1 : goOk now (nx - 1) = true := decide_eq_true (by omega)
            have hok2 : goOk (nx - 1) nx = true := decide_eq_true (by omega)
            have hnn : now < nx := by omega
            have hnx5 : nx ≤ 500 := by omega
            simp only []
            rw [← hnx] at hdn hds hrl hnod hlkz hend hokz hdl hr11 h511 HK11 hL11 ⊢
            clear hnx hn1 hall hn0 h5 HK h50
            have hLl : (e0 :: r0).length ≤ 30 := by omega
            generalize e0 :: r0 = L at *
            have hlt5 := hW5.lt
            have hDl := hD5.lt
            go_wp2_with fail
            refine (go_full B M now (nx - 1) L w5 hW5 hL hok1).mono ?_
            rintro e w6 ⟨v6, rfl, hI6, hW6, ht6⟩
            rw [hdn.1] at hI6
            rw [hdn.2] at hW6
            have hD6 := hD5.turn ht6 (by omega)
            have hb6 : Bel w.heap.size w w6 := bel_turn hb5' ht6 (fun j hj he => by omega) (Nat.le_refl _)
            obtain ⟨a6, c6, rfl, -⟩ := hI6.row
            clear hI6 hW5 hD5 hb5' hdn
            have hsz6 := ht6.size
            go_wp2_with fail
            refine (go_full B M (nx - 1) nx L w6 hW6 hL hok2).mono ?_
            rintro e w9 ⟨v9, rfl, hI9, hW9, ht9⟩
            have hD9 := hD6.turn ht9 (by omega)
            have hb9 : Bel w.heap.size w w9 := bel_turn hb6 ht9 (fun j hj he => by omega) (Nat.le_refl _)
            obtain ⟨av, cv, rfl, hrow⟩ := hI9.row
            clear hI9 hW6 hD6 hb6 ht6 ht9
            have hzl : (dueL nx L).length < 1000000 := by omega
            have HLK : Hid _ := hlkz
            have HEN : Hid _ := hend
            have HND : Hid _ := hnod
            have HLF : Hid _ := hleft
            clear hlkz hend hnod hleft
            generalize hzs : dueL nx L = zs at *
            clear hzs
            have hdz : ((zs.length : Int) == 0) = false := beq_eq_false_iff_ne.2 (by omega)
            have hdn0 : ¬ (zs.length : Int) = 0 := by omega
            rcases hrow with h0 | ⟨g, go, rfl, hc⟩
            · rw [h0] at hds; exact absurd rfl hds
            have HC : Hid (∀ j, j < zs.length → w9.cell? ⟨g, go + j, none⟩ = some (.int .i64 (zs.getD j 0))) := hc
            have hgD : g ≠ D := by
              rintro rfl
              have hcw := hc 0 (by omega)
              obtain ⟨⟨es, clock, hb, -⟩, -⟩ := hD9
              simp [World.cell?, hb] at hcw
            clear hc
            go_upto_region 21 with fail
            go_loopw [101] (fun i wr => ∃ (j : Nat) (l1 : List Vn), i = .int .i64 (j : Int) ∧ j ≤ zs.length ∧ VM wr D l1 ∧ Hid (l1.Perm ((leftL L (zs.take j)).map tV)) ∧ Turn (fun k => k = D) w9 wr) (fun i _ => zs.length - (intOf i).toNat)
            case atStart => exact ⟨0, l, rfl, Nat.zero_le _, hD9, (show Hid _ from by show List.Perm _ _; rw [List.take_zero]; unfold leftL; rw [List.filter_eq_self.2 (by simp)]; exact hp), Turn.refl _⟩
            case round =>
              obtain ⟨s, l1, rfl, hs, hD1, hp1, htq⟩ := hrel
              by_cases hsl : s < zs.length
              · have hs1 : (s : Int) < (zs.length : Int) := by omega
                have hs0 : (0 : Int) ≤ (s : Int) := by omega
                have hcw := HC.out s hsl
                have hcr : wr.cell? ⟨g, go + s, none⟩ = some (.int .i64 (zs.getD s 0)) := (htq.cell (World.block_lt_of_cell? _ _ hcw) hgD _).trans hcw
                have hzk : zs.getD s 0 ∈ zs := List.mem_of_getElem? (getD_at hsl)
                have hwf : (Lit.int .i64 (zs.getD s 0)).wf = true := WalkArith.wf_i64 (by have := hokz _ hzk; omega)
                have htk : zs.take (s + 1) = zs.take s ++ [zs.getD s 0] := by rw [List.take_add_one, getD_at hsl]; rfl
                have hp2 : Hid ((vdel l1 (zs.getD s 0)).Perm ((leftL L (zs.take (s + 1))).map tV)) := by
                  show List.Perm _ _
                  rw [htk, ← left_more]
                  exact del_perm hp1.out _
                have hvx := vlk_is hD1.2 hp1.out (hlW _).nod (zs.getD s 0)
                rw [HLF.out _ _ _ (HLK.out _ _ (getD_at hsl)) (take_not HND.out hsl)] at hvx
                have hvp := hD1.look (k := zs.getD s 0) Try.underlying49 zeroI hwf
                rw [hvx] at hvp
                have hvp' : (Instr.lookup 49 (.map (some D)) (.int .i64 (zs.getD s 0)) false).run Try.prog wr = .ok (.int .i64 nx) wr := hvp
                clear hcw htk hzk hvp hvx
                generalize zs.getD s 0 = y at *
                go_wp2_with (first
                  | (at_delete; refine wpList_delete_vm rfl _ _ rfl D l1 y hwf Try.underlying49 rfl hD1 rfl ?_; intro w2 hD2 ht2)
                  | go_in)
                go_roundw
                case rel => exact ⟨s + 1, _, by simp, by omega, hD2, hp2, htq.trans ht2⟩
                case measure => (simp [intOf]; try omega)
              · have hs1 : ¬ (s : Int) < (zs.length : Int) := by omega
                have hse : s = zs.length := by omega
                have hp11 := hp1.out
                rw [hse, List.take_length, HEN.out] at hp11
                have hW11 := hW9.turn htq (by omega) (by omega)
                have hb11 : Bel w.heap.size w wr := bel_turn hb9 htq (fun j hj he => by omega) (Nat.le_refl _)
                go_upto_region 28 with fail
                generalize restL nx L = L2 at *
                obtain ⟨w11, hw11⟩ : ∃ x, x = wr := ⟨wr, rfl⟩
                rw [← hw11] at hD1 hW11 hb11 ⊢
                obtain ⟨l2, hl2⟩ : ∃ x, x = l1 := ⟨l1, rfl⟩
                rw [← hl2] at hD1 hp11
                clear hw11 hl2 hse hsl hs1 hs hp1 htq HLK HEN HND HLF HC
                go_loopw [113] (fun i wr => ∃ j : Nat, i = .int .i64 (j : Int) ∧ j ≤ 30 ∧ w11 = wr) (fun i _ => 30 - (intOf i).toNat)
                case atStart => exact ⟨0, rfl, by decide, rfl⟩
                case round =>
                  obtain ⟨j, rfl, hj, rfl⟩ := hrel
                  by_cases hjl : j < 30
                  · have hj1 : (j : Int) < 30 := by omega
                    have hj0 : (0 : Int) ≤ (j : Int) := by omega
                    have hwx : (Lit.int .i64 (j : Int)).wf = true := WalkArith.wf_i64 (by omega)
                    have hvx := vlk_is hD1.2 hp11 hL11.nod (j : Int)
                    cases hq : lkT L2 (j : Int) with
                    | none =>
                      rw [hq] at hvx
                      go_wp2_with (first
                        | (at_lookup; refine wpList_lookup_vm rfl _ _ rfl D l2 (j : Int) hwx Try.underlying49 zeroI rfl hD1 rfl ?_; rw [hvx])
                        | go_in)
                      go_roundw
                      case rel => exact ⟨j + 1, by simp, by omega, by first | rfl | trivial⟩
                      case measure => (simp [intOf]; try omega)
                    | some c =>
                      rw [hq] at hvx
                      have hct := hr11 _ _ hq
                      go_wp2_with (first
                        | (at_lookup; refine wpList_lookup_vm rfl _ _ rfl D l2 (j : Int) hwx Try.underlying49 zeroI rfl hD1 rfl ?_; rw [hvx])
                        | go_in)
                      go_roundw
                      case rel => exact ⟨j + 1, by simp, by omega, by first | rfl | trivial⟩
                      case measure => (simp [intOf]; try omega)
                  · have hj1 : ¬ (j : Int) < 30 := by omega
                    have hT11 : NW w11 B M D nx L2 := ⟨hW11, hL11, ⟨_, hD1, hp11⟩, h511⟩
                    go_wp2
                    go_roundw
                    case rel => exact ⟨q + 1, _, nx, by simp, by omega, by omega, hT11, HK11, hb11⟩
                    case measure => (simp [intOf]; try omega)
      · clear hstop
        go_upto_region 12 with fail
        clear hlk hkn hk30
        go_loopw [58] (fun i wr => ∃ (q : Nat) (L : List Tm) (now : Int), i = .int .i64 (q : Int) ∧ L.length + q ≤ 30 ∧ 0 ≤ now ∧ NW wr B M D now L ∧ Hid (∀ e ∈ L, e.1 < 30) ∧ Bel w.heap.size w wr) (fun i _ => 31 - (intOf i).toNat)
        case atStart => exact ⟨0, L, 0, rfl, by omega, by decide, hT, HK9, hbr⟩
        case round =>
          clear hT HK9 hbr
          obtain ⟨q, L, now, rfl, hlq, hnow, hT, HK, hbr⟩ := hrel
          have hq1 : (q : Int) < 31 := by omega
          have hq0 : (0 : Int) ≤ (q : Int) := by omega
          obtain ⟨hW, hL, ⟨l, hD, hp⟩, h5⟩ := hT
          go_wp2_with fail
          refine (next_any B M now L wr hW hL).mono ?_
          rintro e w5 ⟨rfl, hb5⟩
          have hW5 := hW.later hb5
          have hD5 := hD.later hb5
          have hb5' := bt hbr hb5
          clear hW hD hbr hb5
          cases L with
          | nil =>
            obtain rfl : l = [] := List.perm_nil.1 hp
            have hlen : ∀ ty : TypeId, (Builtin.len_ #[49] ty #[.map (some D)]).run Try.prog w5 = .ok (.int .i64 0) w5 := fun ty => hD5.len Try.underlying49 ty
            simp only [nextR]
            go_wp2
            go_ret
            exact ⟨rfl, hb5'⟩
          | cons e0 r0 =>
            have hn0 := h5 e0 (List.mem_cons_self ..)
            have hall : ∀ e ∈ e0 :: r0, e0.2 ≤ e.2 := fun e he => by
              rcases List.mem_cons.1 he with rfl | h
              · exact Int.le_refl _
              · have := (List.pairwise_cons.1 hL.srt).1 e h
                unfold bef at this
                omega
            have hn1 : (nextR (e0 :: r0)) = (e0.2, true) := rfl
            rw [hn1]
            have hdn := due_none (L := e0 :: r0) (t := e0.2 - 1) (fun e he => by have := hall e he; omega)
            have hds := due_some (L := e0 :: r0) (List.mem_cons_self ..) (Int.le_refl e0.2)
            have hrl := rest_len (L := e0 :: r0) (List.mem_cons_self ..) (Int.le_refl e0.2)
            have hnod := due_nod hL e0.2
            have hlkz : ∀ k x, (dueL e0.2 (e0 :: r0))[k]? = some x → lkT (e0 :: r0) x = some e0.2 := fun k x h => by
              obtain ⟨c, h1, h2⟩ := due_lk hL h
              have := hall _ (lkT_mem h1)
              rw [h1, show c = e0.2 by simp at this; omega]
            have hend := left_end hL.nod e0.2
            have hokz : ∀ z ∈ dueL e0.2 (e0 :: r0), 0 ≤ z ∧ z ≤ 1073741824 := fun z hz => by
              obtain ⟨e, he, rfl⟩ := List.mem_map.1 hz
              exact (hL.ok e (List.mem_filter.1 he).1).1
            have hdl := due_len e0.2 (e0 :: r0)
            have hr11 : ∀ x c, lkT (restL e0.2 (e0 :: r0)) x = some c → ¬ c ≤ e0.2 := fun x c h => rest_lk h
            have h511 : ∀ e ∈ restL e0.2 (e0 :: r0), e0.2 < e.2 ∧ e.2 ≤ 500 := fun e he => by
              have h1 := List.mem_filter.1 he
              have h2 := (h5 e h1.1).2
              have h3 : ¬ e.2 ≤ e0.2 := by simpa using h1.2
              omega
            have HK11 : Hid (∀ e ∈ restL e0.2 (e0 :: r0), e.1 < 30) := fun e he => HK.out e (List.mem_filter.1 he).1
            have hL11 : WL (restL e0.2 (e0 :: r0)) := hL.part _
            have hleft : ∀ (zs : List Int) (x c : Int), lkT (e0 :: r0) x = some c → x ∉ zs → lkT (leftL (e0 :: r0) zs) x = some c := fun zs x c h1 h2 => left_lk hL h1 h2
            have hlW : ∀ zs, WL (leftL (e0 :: r0) zs) := fun zs => hL.part _
            have h50 := (hL.ok e0 (List.mem_cons_self ..)).2
            obtain ⟨nx, hnx⟩ : ∃ x, x = e0.2 := ⟨_, rfl⟩
            have hnz : 1 ≤ nx := by omega
            have hok1 : goOk now (nx - 1) = true := decide_eq_true (by omega)
            have hok2 : goOk (nx - 1) nx = true := decide_eq_true (by omega)
            have hnn : now < nx := by omega
            have hnx5 : nx ≤ 500 := by omega
            simp only []
            rw [← hnx] at hdn hds hrl hnod hlkz hend hokz hdl hr11 h511 HK11 hL11 ⊢
            clear hnx hn1 hall hn0 h5 HK h50
            have hLl : (e0 :: r0).length ≤ 30 := by omega
            generalize e0 :: r0 = L at *
            have hlt5 := hW5.lt
            have hDl := hD5.lt
            go_wp2_with fail
            refine (go_full B M now (nx - 1) L w5 hW5 hL hok1).mono ?_
            rintro e w6 ⟨v6, rfl, hI6, hW6, ht6⟩
            rw [hdn.1] at hI6
            rw [hdn.2] at hW6
            have hD6 := hD5.turn ht6 (by omega)
            have hb6 : Bel w.heap.size w w6 := bel_turn hb5' ht6 (fun j hj he => by omega) (Nat.le_refl _)
            obtain ⟨a6, c6, rfl, -⟩ := hI6.row
            clear hI6 hW5 hD5 hb5' hdn
            have hsz6 := ht6.size
            go_wp2_with fail
            refine (go_full B M (nx - 1) nx L w6 hW6 hL hok2).mono ?_
            rintro e w9 ⟨v9, rfl, hI9, hW9, ht9⟩
            have hD9 := hD6.turn ht9 (by omega)
            have hb9 : Bel w.heap.size w w9 := bel_turn hb6 ht9 (fun j hj he => by omega) (Nat.le_refl _)
            obtain ⟨av, cv, rfl, hrow⟩ := hI9.row
            clear hI9 hW6 hD6 hb6 ht6 ht9
            have hzl : (dueL nx L).length < 1000000 := by omega
            have HLK : Hid _ := hlkz
            have HEN : Hid _ := hend
            have HND : Hid _ := hnod
            have HLF : Hid _ := hleft
            clear hlkz hend hnod hleft
            generalize hzs : dueL nx L = zs at *
            clear hzs
            have hdz : ((zs.length : Int) == 0) = false := beq_eq_false_iff_ne.2 (by omega)
            have hdn0 : ¬ (zs.length : Int) = 0 := by omega
            rcases hrow with h0 | ⟨g, go, rfl, hc⟩
            · rw [h0] at hds; exact absurd rfl hds
            have HC : Hid (∀ j, j < zs.length → w9.cell? ⟨g, go + j, none⟩ = some (.int .i64 (zs.getD j 0))) := hc
            have hgD : g ≠ D := by
              rintro rfl
              have hcw := hc 0 (by omega)
              obtain ⟨⟨es, clock, hb, -⟩, -⟩ := hD9
              simp [World.cell?, hb] at hcw
            clear hc
            go_upto_region 21 with fail
            go_loopw [101] (fun i wr => ∃ (j : Nat) (l1 : List Vn), i = .int .i64 (j : Int) ∧ j ≤ zs.length ∧ VM wr D l1 ∧ Hid (l1.Perm ((leftL L (zs.take j)).map tV)) ∧ Turn (fun k => k = D) w9 wr) (fun i _ => zs.length - (intOf i).toNat)
            case atStart => exact ⟨0, l, rfl, Nat.zero_le _, hD9, (show Hid _ from by show List.Perm _ _; rw [List.take_zero]; unfold leftL; rw [List.filter_eq_self.2 (by simp)]; exact hp), Turn.refl _⟩
            case round =>
              obtain ⟨s, l1, rfl, hs, hD1, hp1, htq⟩ := hrel
              by_cases hsl : s < zs.length
              · have hs1 : (s : Int) < (zs.length : Int) := by omega
                have hs0 : (0 : Int) ≤ (s : Int) := by omega
                have hcw := HC.out s hsl
                have hcr : wr.cell? ⟨g, go + s, none⟩ = some (.int .i64 (zs.getD s 0)) := (htq.cell (World.block_lt_of_cell? _ _ hcw) hgD _).trans hcw
                have hzk : zs.getD s 0 ∈ zs := List.mem_of_getElem? (getD_at hsl)
                have hwf : (Lit.int .i64 (zs.getD s 0)).wf = true := WalkArith.wf_i64 (by have := hokz _ hzk; omega)
                have htk : zs.take (s + 1) = zs.take s ++ [zs.getD s 0] := by rw [List.take_add_one, getD_at hsl]; rfl
                have hp2 : Hid ((vdel l1 (zs.getD s 0)).Perm ((leftL L (zs.take (s + 1))).map tV)) := by
                  show List.Perm _ _
                  rw [htk, ← left_more]
                  exact del_perm hp1.out _
                have hvx := vlk_is hD1.2 hp1.out (hlW _).nod (zs.getD s 0)
                rw [HLF.out _ _ _ (HLK.out _ _ (getD_at hsl)) (take_not HND.out hsl)] at hvx
                have hvp := hD1.look (k := zs.getD s 0) Try.underlying49 zeroI hwf
                rw [hvx] at hvp
                have hvp' : (Instr.lookup 49 (.map (some D)) (.int .i64 (zs.getD s 0)) false).run Try.prog wr = .ok (.int .i64 nx) wr := hvp
                clear hcw htk hzk hvp hvx
                generalize zs.getD s 0 = y at *
                go_wp2_with (first
                  | (at_delete; refine wpList_delete_vm rfl _ _ rfl D l1 y hwf Try.underlying49 rfl hD1 rfl ?_; intro w2 hD2 ht2)
                  | go_in)
                go_roundw
                case rel => exact ⟨s + 1, _, by simp, by omega, hD2, hp2, htq.trans ht2⟩
                case measure => (simp [intOf]; try omega)
              · have hs1 : ¬ (s : Int) < (zs.length : Int) := by omega
                have hse : s = zs.length := by omega
                have hp11 := hp1.out
                rw [hse, List.take_length, HEN.out] at hp11
                have hW11 := hW9.turn htq (by omega) (by omega)
                have hb11 : Bel w.heap.size w wr := bel_turn hb9 htq (fun j hj he => by omega) (Nat.le_refl _)
                go_upto_region 28 with fail
                generalize restL nx L = L2 at *
                obtain ⟨w11, hw11⟩ : ∃ x, x = wr := ⟨wr, rfl⟩
                rw [← hw11] at hD1 hW11 hb11 ⊢
                obtain ⟨l2, hl2⟩ : ∃ x, x = l1 := ⟨l1, rfl⟩
                rw [← hl2] at hD1 hp11
                clear hw11 hl2 hse hsl hs1 hs hp1 htq HLK HEN HND HLF HC
                go_loopw [113] (fun i wr => ∃ j : Nat, i = .int .i64 (j : Int) ∧ j ≤ 30 ∧ w11 = wr) (fun i _ => 30 - (intOf i).toNat)
                case atStart => exact ⟨0, rfl, by decide, rfl⟩
                case round =>
                  obtain ⟨j, rfl, hj, rfl⟩ := hrel
                  by_cases hjl : j < 30
                  · have hj1 : (j : Int) < 30 := by omega
                    have hj0 : (0 : Int) ≤ (j : Int) := by omega
                    have hwx : (Lit.int .i64 (j : Int)).wf = true := WalkArith.wf_i64 (by omega)
                    have hvx := vlk_is hD1.2 hp11 hL11.nod (j : Int)
                    cases hq : lkT L2 (j : Int) with
                    | none =>
                      rw [hq] at hvx
                      go_wp2_with (first
                        | (at_lookup; refine wpList_lookup_vm rfl _ _ rfl D l2 (j : Int) hwx Try.underlying49 zeroI rfl hD1 rfl ?_; rw [hvx])
                        | go_in)
                      go_roundw
                      case rel => exact ⟨j + 1, by simp, by omega, by first | rfl | trivial⟩
                      case measure => (simp [intOf]; try omega)
                    | some c =>
                      rw [hq] at hvx
                      have hct := hr11 _ _ hq
                      go_wp2_with (first
                        | (at_lookup; refine wpList_lookup_vm rfl _ _ rfl D l2 (j : Int) hwx Try.underlying49 zeroI rfl hD1 rfl ?_; rw [hvx])
                        | go_in)
                      go_roundw
                      case rel => exact ⟨j + 1, by simp, by omega, by first | rfl | trivial⟩
                      case measure => (simp [intOf]; try omega)
                  · have hj1 : ¬ (j : Int) < 30 := by omega
                    have hT11 : NW w11 B M D nx L2 := ⟨hW11, hL11, ⟨_, hD1, hp11⟩, h511⟩
                    go_wp2
                    go_roundw
                    case rel => exact ⟨q + 1, _, nx, by simp, by omega, by omega, hT11, HK11, hb11⟩
                    case measure => (simp [intOf]; try omega)
end Go.Proofs.Ytbdloehdhdifpaa
