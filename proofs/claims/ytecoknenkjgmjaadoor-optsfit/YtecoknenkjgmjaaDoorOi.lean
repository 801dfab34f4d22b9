/- The contract of Fit of package opts: of options that may be, as many of the first ranges as there is room for, in a row of their own; of others none at all; nothing that was there turns. -/
import Derived.Test.YtecoknenkjgmjaaDoorOh
import Derived.Deep.LoopGhost
namespace Go.Proofs.YtecoknenkjgmjaaDoor
open Go.RowKit

/-- How many ranges fit. -/
def fitN (m : Int) (sd ok sp : Bool) (most : Int) : Nat → Nat
  | 0 => 0
  | n + 1 => if (longN m sd ok sp (n + 1) : Int) ≤ most then n + 1 else fitN m sd ok sp most n
theorem fitN_le (m : Int) (sd ok sp : Bool) (most : Int) : ∀ n, fitN m sd ok sp most n ≤ n
  | 0 => Nat.le_refl _
  | n + 1 => by
    unfold fitN
    split
    · exact Nat.le_refl _
    · exact Nat.le_succ_of_le (fitN_le m sd ok sp most n)
theorem fitN_stop (m : Int) (sd ok sp : Bool) (most : Int) (k : Nat) (h : k = 0 ∨ (longN m sd ok sp k : Int) ≤ most) : fitN m sd ok sp most k = k := by
  cases k with
  | zero => rfl
  | succ k =>
    unfold fitN
    rcases h with h | h
    · cases h
    · rw [if_pos h]
theorem fitN_on (m : Int) (sd ok sp : Bool) (most : Int) (k : Nat) (h : ¬ (longN m sd ok sp (k + 1) : Int) ≤ most) : fitN m sd ok sp most (k + 1) = fitN m sd ok sp most k := by
  conv => lhs; unfold fitN
  rw [if_neg h]
theorem Below.growN {B : Nat} {W x : World} (hg : W.grownBy x none) (hB : B ≤ W.heap.size) : Below B W x := (Below.refl _ _).grown hg hB (fun k e => by cases e)
set_option maxRecDepth 100000 in
set_option maxHeartbeats 4000000 in
theorem fit_t (m c t ec : Int) (sd ok sp : Bool) (v : Value) (rs : List (Int × Int)) (most : Int) (w : World) (hv : Rgs w v rs) (hm : mayO m c t ec sd ok sp rs = true) (hG : Ord w) :
    Calls Tryd.prog 17 #[.agg #[.int .i64 m, .int .i64 c, .int .i64 t, .int .i64 ec, .bool sd, .bool ok, .bool sp, v], .int .i64 most] w fun en w' => ∃ v', en = .returned (.agg #[.int .i64 m, .int .i64 c, .int .i64 t, .int .i64 ec, .bool sd, .bool ok, .bool sp, v']) ∧ w'.ownsRow w.heap.size 35 2 v' (fitN m sd ok sp most rs.length) (flatR (rs.take (fitN m sd ok sp most rs.length))) ∧ Below w.heap.size w w' := by
  obtain ⟨i0, hi, hz0, hz1, hz2⟩ := info_parts Tryd.info35
  have HI : Hid (Tryd.prog.info? 35 = some i0 ∧ i0.zero = some (.agg #[.int .i64 0, .int .i64 0]) ∧ i0.size = 2 ∧ i0.bytes = 16) := ⟨hi, hz0, hz1, hz2⟩
  clear hi hz0 hz1 hz2
  have hn4 := mayO_short hm
  obtain ⟨a, cap, hvx, hc, -⟩ := id hv
  subst hvx
  have hb1 := bel1 w (.cells #[.int .i64 m, .int .i64 c, .int .i64 t, .int .i64 ec, .bool sd, .bool ok, .bool sp, (.slice a rs.length cap)] 24)
  have hb2 := bel1 (w.alloc (.cells #[.int .i64 m, .int .i64 c, .int .i64 t, .int .i64 ec, .bool sd, .bool ok, .bool sp, (.slice a rs.length cap)] 24)) (.cells #[.int .i64 0, .int .i64 0, .int .i64 0, .int .i64 0, .bool false, .bool false, .bool false, .slice none 0 0] 24)
  have hA := (At.box w #[.int .i64 m, .int .i64 c, .int .i64 t, .int .i64 ec, .bool sd, .bool ok, .bool sp, (.slice a rs.length cap)] 24).later hb2
  have hR := At.box2 w (.cells #[.int .i64 m, .int .i64 c, .int .i64 t, .int .i64 ec, .bool sd, .bool ok, .bool sp, (.slice a rs.length cap)] 24) #[.int .i64 0, .int .i64 0, .int .i64 0, .int .i64 0, .bool false, .bool false, .bool false, .slice none 0 0] 24
  have hl := bt hb1 hb2
  have hsz : w.heap.size + 2 ≤ ((w.alloc (.cells #[.int .i64 m, .int .i64 c, .int .i64 t, .int .i64 ec, .bool sd, .bool ok, .bool sp, (.slice a rs.length cap)] 24)).alloc (.cells #[.int .i64 0, .int .i64 0, .int .i64 0, .int .i64 0, .bool false, .bool false, .bool false, .slice none 0 0] 24)).heap.size := by simp
  have hM := fun W hv hG => may_any m c t ec sd ok sp (.slice a rs.length cap) rs W hv (by omega) hG
  rw [hm] at hM
  have hcap : (rs.length : Int) ≤ (cap : Int) := by have := hc.1; omega
  have HV : Hid (Rgs w (.slice a rs.length cap) rs) := hv
  have HG : Hid (Ord w) := hG
  obtain ⟨⟨c0, c1, c2, c3, c4, c5, c6, c7⟩, -, -⟩ := hA.eight
  go_enter Tryd.func17, Tryd.ntmps17
  go_wp2_with fail
  refine (hM _ (hv.later hl) (hG.later hl)).mono ?_
  rintro en w1 ⟨rfl, hb⟩
  have HST : Hid (Below w.heap.size w w1 ∧ w.heap.size + 2 ≤ w1.heap.size ∧ At w1 w.heap.size #[.int .i64 m, .int .i64 c, .int .i64 t, .int .i64 ec, .bool sd, .bool ok, .bool sp, (.slice a rs.length cap)] ∧ At w1 (w.heap.size + 1) #[.int .i64 0, .int .i64 0, .int .i64 0, .int .i64 0, .bool false, .bool false, .bool false, .slice none 0 0]) := ⟨bt hl hb, Nat.le_trans hsz hb.size, hA.later hb, hR.later hb⟩
  clear c0 c1 c2 c3 c4 c5 c6 c7 hA hR hl hb1 hb2 hb hsz hM hv hG hm
  go_wp2
  go_loopg [9] rs.length (fun k s W => k ≤ rs.length ∧ fitN m sd ok sp most k = fitN m sd ok sp most rs.length ∧ Below w.heap.size w W ∧ w.heap.size + 2 ≤ W.heap.size ∧ At W w.heap.size #[.int .i64 m, .int .i64 c, .int .i64 t, .int .i64 ec, .bool sd, .bool ok, .bool sp, (.slice a k cap)] ∧ At W (w.heap.size + 1) #[.int .i64 0, .int .i64 0, .int .i64 0, .int .i64 0, .bool false, .bool false, .bool false, .slice none 0 0])
  case atStart => exact ⟨Nat.le_refl _, rfl, HST.out⟩
  case round =>
    obtain ⟨hk, hfit, hbl, hsz, hA, hR⟩ := hrel
    clear HST
    generalize gk = k at *
    have HF : Hid (fitN m sd ok sp most k = fitN m sd ok sp most rs.length) := hfit
    clear hfit
    obtain ⟨⟨c0, c1, c2, c3, c4, c5, c6, c7⟩, ⟨f0, f1, f2, f3, f4, f5, f6, f7⟩, -⟩ := hA.eight
    have hk' : (k : Int) ≤ (rs.length : Int) := by omega
    have hk4 : (k : Int) ≤ 4 := by omega
    cases a with
    | none =>
      have hr0 : rs = [] := by
        obtain ⟨a', cap', e, -, h⟩ := HV.out
        simp only [Value.slice.injEq] at e
        obtain ⟨rfl, -, -⟩ := e
        rcases h with h | ⟨b, off, h, -⟩
        · exact h
        · cases h
      obtain rfl : cap = 0 := hc.2 rfl
      subst hr0
      obtain rfl : k = 0 := by simpa using hk
      have hnl := World.ownsRow_nil wr (w.heap.size + 2) 35 2
      obtain ⟨⟨r0, r1, r2, r3, r4, r5, r6, r7⟩, ⟨g0, g1, g2, g3, g4, g5, g6, g7⟩, -⟩ := hR.eight
      go_wp2_with (first | (at_builtin; refine wpList_append_own_none rfl _ _ 22 rfl (w.heap.size + 2) 35 i0 2 Tryd.underlying22 HI.out.1 _ _ _ rfl hnl rfl ?_))
      exact bodyPost_ret (v := .agg #[.int .i64 m, .int .i64 c, .int .i64 t, .int .i64 ec, .bool sd, .bool ok, .bool sp, .slice none 0 0]) (by simp [results, Tryd.results17, go_sem, r0, r1, r2, r3, r4, r5, r6, r7]) rfl ⟨_, rfl,
        own_mono (own_set8 (own_setCell hnl w.heap.size 7 _ (by omega)) (w.heap.size + 1) (by omega) _ _ _ _ _ _ _ _) (by omega),
        below8 (hbl.setCell (Nat.le_refl _) _) (by omega) _ _ _ _ _ _ _ _⟩
    | some x =>
      by_cases hk0 : k = 0
      · subst hk0
        clear hk' hk4
        have HC : Hid (∀ p u, (flatR (rs.take (0)))[p]? = some u → wr.cell? (x.add p) = some u) := by
          obtain ⟨a', cap', e, -, h⟩ := (HV.out.take (0) (by omega)).later hbl
          simp only [Value.slice.injEq] at e
          obtain ⟨rfl, -, rfl⟩ := e
          exact news_of rfl h
        have hlen : (flatR (rs.take (0))).length = (0) * 2 := by rw [flatR_len, List.length_take, Nat.min_eq_left (by omega)]
        have hnl := World.ownsRow_nil wr (w.heap.size + 2) 35 2
        go_wp2_with (first | (at_builtin; refine wpList_append_own _ rfl _ _ 22 rfl (w.heap.size + 2) 35 i0 (.agg #[.int .i64 0, .int .i64 0]) 2 16 Tryd.underlying22 HI.out.1 HI.out.2.1 HI.out.2.2.1 HI.out.2.2.2 rfl (by decide) _ _ _ rfl hnl x (0) cap (flatR (rs.take (0))) rfl hlen HC.out (flatR_one _) ?c3 ?c4 ?c5 ?_))
        case c3 => unfold maxLen; omega
        case c4 => omega
        case c5 => exact hsz
        intro v' w3 hown2 hgrow hn
        replace hown2 : w3.ownsRow (w.heap.size + 2) 35 2 v' (0) (flatR (rs.take (0))) := by simpa using hown2
        have hbg : Below (w.heap.size + 2) wr w3 := Below.growN hgrow hsz
        have hA1 := hA.below hbg (by omega)
        have hR1 := hR.below hbg (by omega)
        have hBw : Below w.heap.size w w3 := hbl.trans (hbg.mono (by omega))
        clear hgrow hn hlen HC hnl hbg c0 c1 c2 c3 c4 c5 c6 c7 f0 f1 f2 f3 f4 f5 f6 f7
        have HFF : Hid (fitN m sd ok sp most rs.length = 0) := by show _ = _; rw [← HF.out]; exact fitN_stop m sd ok sp most 0 (.inl rfl)
        rcases id hown2.2 with ⟨rfl, -⟩ | ⟨g, cap', cur, rfl, hg, -⟩
        · obtain ⟨⟨c0, c1, c2, c3, c4, c5, c6, c7⟩, ⟨f0, f1, f2, f3, f4, f5, f6, f7⟩, -⟩ := hA1.eight
          obtain ⟨⟨r0, r1, r2, r3, r4, r5, r6, r7⟩, ⟨g0, g1, g2, g3, g4, g5, g6, g7⟩, -⟩ := hR1.eight
          go_wp2
          exact bodyPost_ret (v := .agg #[.int .i64 m, .int .i64 c, .int .i64 t, .int .i64 ec, .bool sd, .bool ok, .bool sp, .slice none 0 0]) (by simp [results, Tryd.results17, go_sem, r0, r1, r2, r3, r4, r5, r6, r7]) rfl ⟨_, rfl,
            by rw [HFF.out]; exact own_mono (own_set8 (own_setCell hown2 w.heap.size 7 _ (by omega)) (w.heap.size + 1) (by omega) _ _ _ _ _ _ _ _) (by omega),
            below8 (hBw.setCell (Nat.le_refl _) _) (by omega) _ _ _ _ _ _ _ _⟩
        · obtain ⟨⟨c0, c1, c2, c3, c4, c5, c6, c7⟩, ⟨f0, f1, f2, f3, f4, f5, f6, f7⟩, -⟩ := hA1.eight
          obtain ⟨⟨r0, r1, r2, r3, r4, r5, r6, r7⟩, ⟨g0, g1, g2, g3, g4, g5, g6, g7⟩, -⟩ := hR1.eight
          go_wp2
          exact bodyPost_ret (v := .agg #[.int .i64 m, .int .i64 c, .int .i64 t, .int .i64 ec, .bool sd, .bool ok, .bool sp, .slice (some ⟨g, 0, none⟩) (0) cap']) (by simp [results, Tryd.results17, go_sem, r0, r1, r2, r3, r4, r5, r6, r7]) rfl ⟨_, rfl,
            by rw [HFF.out]; exact own_mono (own_set8 (own_setCell hown2 w.heap.size 7 _ (by omega)) (w.heap.size + 1) (by omega) _ _ _ _ _ _ _ _) (by omega),
            below8 (hBw.setCell (Nat.le_refl _) _) (by omega) _ _ _ _ _ _ _ _⟩
      · obtain ⟨j, rfl⟩ : ∃ j, k = j + 1 := ⟨k - 1, by omega⟩
        have hj : (0 : Int) ≤ (j : Int) := by omega
        by_cases hlm : (longN m sd ok sp (j + 1) : Int) ≤ most
        · have HLO : Hid (∀ W, Ord W → Calls Tryd.prog 29 #[.agg #[.int .i64 m, .int .i64 c, .int .i64 t, .int .i64 ec, .bool sd, .bool ok, .bool sp, (.slice (some x) (j + 1) cap)]] W fun e w' => e = .returned (.int .i64 (longN m sd ok sp (j + 1))) ∧ Below W.heap.size W w') := fun W h => long_any m c t ec sd ok sp (some x) (j + 1) cap W (by omega) h
          have HST : Hid (fitN m sd ok sp most (j + 1) = j + 1) := fitN_stop m sd ok sp most (j + 1) (.inr hlm)
          generalize longN m sd ok sp (j + 1) = L at *
          go_wp2_with fail
          refine (HLO.out _ (HG.out.later hbl)).mono ?_
          rintro en w2 ⟨rfl, hb⟩
          replace hbl := bt hbl hb
          replace hsz := Nat.le_trans hsz hb.size
          replace hA := hA.later hb
          replace hR := hR.later hb
          clear c0 c1 c2 c3 c4 c5 c6 c7 f0 f1 f2 f3 f4 f5 f6 f7 hb
          obtain ⟨⟨c0, c1, c2, c3, c4, c5, c6, c7⟩, ⟨f0, f1, f2, f3, f4, f5, f6, f7⟩, -⟩ := hA.eight
          have HC : Hid (∀ p u, (flatR (rs.take (j + 1)))[p]? = some u → w2.cell? (x.add p) = some u) := by
            obtain ⟨a', cap', e, -, h⟩ := (HV.out.take (j + 1) (by omega)).later hbl
            simp only [Value.slice.injEq] at e
            obtain ⟨rfl, -, rfl⟩ := e
            exact news_of rfl h
          have hlen : (flatR (rs.take (j + 1))).length = (j + 1) * 2 := by rw [flatR_len, List.length_take, Nat.min_eq_left (by omega)]
          have hnl := World.ownsRow_nil w2 (w.heap.size + 2) 35 2
          go_wp2_with (first | (at_builtin; refine wpList_append_own _ rfl _ _ 22 rfl (w.heap.size + 2) 35 i0 (.agg #[.int .i64 0, .int .i64 0]) 2 16 Tryd.underlying22 HI.out.1 HI.out.2.1 HI.out.2.2.1 HI.out.2.2.2 rfl (by decide) _ _ _ rfl hnl x (j + 1) cap (flatR (rs.take (j + 1))) rfl hlen HC.out (flatR_one _) ?c3 ?c4 ?c5 ?_))
          case c3 => unfold maxLen; omega
          case c4 => omega
          case c5 => exact hsz
          intro v' w3 hown2 hgrow hn
          replace hown2 : w3.ownsRow (w.heap.size + 2) 35 2 v' (j + 1) (flatR (rs.take (j + 1))) := by simpa using hown2
          have hbg : Below (w.heap.size + 2) w2 w3 := Below.growN hgrow hsz
          have hA1 := hA.below hbg (by omega)
          have hR1 := hR.below hbg (by omega)
          have hBw : Below w.heap.size w w3 := hbl.trans (hbg.mono (by omega))
          clear hgrow hn hlen HC hnl hbg c0 c1 c2 c3 c4 c5 c6 c7 f0 f1 f2 f3 f4 f5 f6 f7
          have HFF : Hid (fitN m sd ok sp most rs.length = j + 1) := by show _ = _; rw [← HF.out]; exact HST.out
          rcases id hown2.2 with ⟨rfl, -⟩ | ⟨g, cap', cur, rfl, hg, -⟩
          · obtain ⟨⟨c0, c1, c2, c3, c4, c5, c6, c7⟩, ⟨f0, f1, f2, f3, f4, f5, f6, f7⟩, -⟩ := hA1.eight
            obtain ⟨⟨r0, r1, r2, r3, r4, r5, r6, r7⟩, ⟨g0, g1, g2, g3, g4, g5, g6, g7⟩, -⟩ := hR1.eight
            go_wp2
            exact bodyPost_ret (v := .agg #[.int .i64 m, .int .i64 c, .int .i64 t, .int .i64 ec, .bool sd, .bool ok, .bool sp, .slice none 0 0]) (by simp [results, Tryd.results17, go_sem, r0, r1, r2, r3, r4, r5, r6, r7]) rfl ⟨_, rfl,
              by rw [HFF.out]; exact own_mono (own_set8 (own_setCell hown2 w.heap.size 7 _ (by omega)) (w.heap.size + 1) (by omega) _ _ _ _ _ _ _ _) (by omega),
              below8 (hBw.setCell (Nat.le_refl _) _) (by omega) _ _ _ _ _ _ _ _⟩
          · obtain ⟨⟨c0, c1, c2, c3, c4, c5, c6, c7⟩, ⟨f0, f1, f2, f3, f4, f5, f6, f7⟩, -⟩ := hA1.eight
            obtain ⟨⟨r0, r1, r2, r3, r4, r5, r6, r7⟩, ⟨g0, g1, g2, g3, g4, g5, g6, g7⟩, -⟩ := hR1.eight
            go_wp2
            exact bodyPost_ret (v := .agg #[.int .i64 m, .int .i64 c, .int .i64 t, .int .i64 ec, .bool sd, .bool ok, .bool sp, .slice (some ⟨g, 0, none⟩) (j + 1) cap']) (by simp [results, Tryd.results17, go_sem, r0, r1, r2, r3, r4, r5, r6, r7]) rfl ⟨_, rfl,
              by rw [HFF.out]; exact own_mono (own_set8 (own_setCell hown2 w.heap.size 7 _ (by omega)) (w.heap.size + 1) (by omega) _ _ _ _ _ _ _ _) (by omega),
              below8 (hBw.setCell (Nat.le_refl _) _) (by omega) _ _ _ _ _ _ _ _⟩
        · have HLO : Hid (∀ W, Ord W → Calls Tryd.prog 29 #[.agg #[.int .i64 m, .int .i64 c, .int .i64 t, .int .i64 ec, .bool sd, .bool ok, .bool sp, (.slice (some x) (j + 1) cap)]] W fun e w' => e = .returned (.int .i64 (longN m sd ok sp (j + 1))) ∧ Below W.heap.size W w') := fun W h => long_any m c t ec sd ok sp (some x) (j + 1) cap W (by omega) h
          have HST : Hid (fitN m sd ok sp most (j + 1) = fitN m sd ok sp most j) := fitN_on m sd ok sp most j hlm
          generalize longN m sd ok sp (j + 1) = L at *
          go_wp2_with fail
          refine (HLO.out _ (HG.out.later hbl)).mono ?_
          rintro en w2 ⟨rfl, hb⟩
          replace hbl := bt hbl hb
          replace hsz := Nat.le_trans hsz hb.size
          replace hA := hA.later hb
          replace hR := hR.later hb
          clear c0 c1 c2 c3 c4 c5 c6 c7 f0 f1 f2 f3 f4 f5 f6 f7 hb
          obtain ⟨⟨c0, c1, c2, c3, c4, c5, c6, c7⟩, ⟨f0, f1, f2, f3, f4, f5, f6, f7⟩, -⟩ := hA.eight
          go_wp2
          go_roundg j
          case measure => omega
          case rel => exact ⟨by omega, by rw [← HST.out, HF.out], hbl.setCell (Nat.le_refl _) _, by rw [World.size_setCell]; exact hsz, hA.set 7 _, hR.keep (by omega) 7 _⟩
end Go.Proofs.YtecoknenkjgmjaaDoor
