/- AppPieces: however bytes are cut. -/
import Derived.Test.YtadmpdeegnppjaaDoorAn
import Derived.Lib.MinMax
namespace Go.Proofs.YtadmpdeegnppjaaDoor
open Go.RowKit Go.Maps Go.Shelf Go.Lib
set_option maxRecDepth 100000
set_option linter.unusedVariables false
set_option linter.unusedSimpArgs false


theorem B_sub (d : By) (i j : Nat) : (B d).extract i j = B ((d.drop i).take (j - i)) := by
  unfold B
  rw [ByteArray.extract_mk]
theorem take_more (d : By) (i n : Nat) : d.take (i + n) = d.take i ++ (d.drop i).take n := List.take_add
section
variable {w : World}
/-- What the loop keeps. -/
structure PL (w : World) (d : By) (b : Nat) (wr : World) (k i : Nat) (got : By) (st : St) (A : Bk) : Prop where
  k1 : k ≤ 202
  k2 : 201 < k → i = d.length
  i1 : i ≤ d.length
  eq : takeF st0 (d.take i) = (got, st)
  sx : SX wr A b st
  bel : Below w.heap.size w wr
  ge : ∀ q, A q → w.heap.size ≤ q
theorem PL.ok {d : By} {b : Nat} {wr : World} {k i : Nat} {got : By} {st : St} {A : Bk} (h : PL w d b wr k i got st A) : Ok st ∧ got.length ≤ 2201 * d.length := by
  have := take_ok ok0 (d.take i)
  rw [h.eq] at this
  refine ⟨this.1, Nat.le_trans this.2 (Nat.mul_le_mul_left _ ?_)⟩
  rw [List.length_take]
  omega
theorem PL.all {d : By} {b : Nat} {wr : World} {k i : Nat} {got : By} {st : St} {A : Bk} (h : PL w d b wr k i got st A) (he : i = d.length) : takeF st0 d = (got, st) := by
  have := h.eq
  rwa [he, List.take_length] at this
theorem PL.over {d : By} {b : Nat} {wr : World} {k i : Nat} {got : By} {st : St} {A : Bk} (h : PL w d b wr k i got st A) (he : st.over = true) : takeF st0 d = (got, st) := by
  have e : d = d.take i ++ d.drop i := (List.take_append_drop i d).symm
  have t := take_app (d.take i) (d.drop i) st0
  rw [h.eq] at t
  simp only at t
  rw [take_over _ _ he, ← e] at t
  rw [t]
  simp
set_option maxHeartbeats 4000000 in
theorem pieces_any (a0 : ByteArray) (a1 : Option Addr) (c1 : Nat) (zs : List Int) (hE : Env w) (hz0 : a0.size ≤ 140737488351232) (hi : Arg w a1 zs) (hz1 : zs.length * 8 ≤ 140737488351232) :
    Calls Tryd.prog 3 #[.string a0, .slice a1 zs.length c1] w fun e w' => e = .returned (.bool true) ∧ Below w.heap.size w w' := by
  obtain ⟨d, rfl⟩ : ∃ d, a0 = B d := ⟨_, (B_of a0).symm⟩
  rw [B_size] at hz0
  have HA : Hid (Arg w a1 zs) := hi
  clear hi
  obtain ⟨n, hn⟩ : ∃ n, n = zs.length := ⟨_, rfl⟩
  rw [← hn] at hz1 ⊢
  have HN : Hid (n = zs.length) := hn
  clear hn
  have HE : Hid _ := hE
  clear hE
  have hsz : (B d).size = d.length := B_size d
  by_cases hd : 3000 < d.length
  · have hd' : (3000 : Int) < ((B d).size : Int) := by omega
    have HS : Hid _ := hsz
    clear hsz
    go_enter Tryd.func3, Tryd.ntmps3
    go_wp2_with fail
    refine (works_any HE.out).mono ?_
    rintro e w1 ⟨rfl, hb1⟩
    go_wp2
    go_ret
    exact ⟨rfl, hb1⟩
  have hd' : ¬ (3000 : Int) < (d.length : Int) := by omega
  have hq : ansA d = ((takeF st0 d).1, (takeF st0 d).2.over) := if_pos (by omega)
  obtain ⟨R, hR⟩ : ∃ R, R = takeF st0 d := ⟨_, rfl⟩
  rw [← hR] at hq
  have HR : Hid _ := hR
  clear hR
  go_enter Tryd.func3, Tryd.ntmps3
  go_wp2_with fail
  refine (works_any HE.out).mono ?_
  rintro e w1 ⟨rfl, hb1⟩
  have hA := ansA_any (HE.out.later hb1) d
  rw [hq] at hA
  go_wp2_with fail
  refine hA.mono ?_
  rintro e w2 ⟨rfl, hb2⟩
  have hb12 := bt hb1 hb2
  go_wp2_with fail
  refine (new_any (HE.out.later hb12)).mono ?_
  rintro e w3 ⟨b, A, rfl, h3, hb3, hA3⟩
  have hb13 := bt hb12 hb3
  have hge3 : ∀ q, A q → w.heap.size ≤ q := fun q hq => Nat.le_trans hb12.size (hA3 q hq)
  have h0 : PL w d b w3 0 0 [] st0 A := ⟨by omega, by omega, by omega, by simp [takeF], h3, hb13, hge3⟩
  have H0 : Hid _ := h0
  clear hA hq h0 h3 hb13 hge3 hA3 hb3 hb12 hb2 hb1
  go_wp2
  go_loopw [8, 9, 10] (fun g x i wr => ∃ (k at_ : Nat) (got : By) (st : St) (A' : Bk), i = .int .i64 (k : Int) ∧ x = .int .i64 (at_ : Int) ∧ g = .string (B got) ∧ PL w d b wr k at_ got st A') (fun _ _ i _ => 203 - (intOf i).toNat)
  case atStart => exact ⟨0, 0, [], st0, A, rfl, rfl, rfl, H0.out⟩
  case round =>
    clear H0
    obtain ⟨k, i, got, st, A', rfl, rfl, rfl, hP⟩ := hrel
    have HP : Hid _ := hP
    obtain ⟨hok, hgl⟩ := hP.ok
    obtain ⟨M, v, hY⟩ := hP.sx
    have hil := hP.i1
    have hkl := hP.k1
    have hov := fun (W : World) (hW : Below wr.heap.size wr W) => over_any (hY.later hW)
    have hk0 : (0 : Int) ≤ (k : Int) := by omega
    have hi0 : (0 : Int) ≤ (i : Int) := by omega
    by_cases hid : i < d.length
    rotate_left
    · have hid' : ¬ (i : Int) < (d.length : Int) := by omega
      have hall := hP.all (by omega)
      rw [← HR.out] at hall
      subst hall
      have q : ((B got).toList == (B got).toList) = true := beq_self_eq_true _
      have ho := hov wr (Below.refl _ _)
      clear hP hY hov hok
      go_wp2_with fail
      refine ho.mono ?_
      rintro e w5 ⟨rfl, rfl⟩
      go_wp2
      go_ret
      exact ⟨by simp, HP.out.bel⟩
    have hid' : (i : Int) < (d.length : Int) := by omega
    have hk201 : k ≤ 201 := by
      rcases Nat.lt_or_ge 201 k with h | h
      · have := hP.k2 h; omega
      · exact h
    by_cases hkn : k < n
    · have hkn' : (k : Int) < (n : Int) := by omega
      by_cases hk2 : 200 < k
      · obtain ⟨ax, rfl, hcell⟩ : ∃ x, a1 = some x ∧ ∀ i, i < zs.length → w.cell? (x.add i) = some (.int .i64 (zs.getD i 0)) := by
          rcases HA.out with h | h
          · rw [h] at HN
            have := HN.out
            simp at this
            omega
          · exact h
        have cx := later HP.out.bel (hcell k (by have := HN.out; omega))
        generalize zs.getD k 0 = z0 at *
        clear hcell
        have ham := among_any z0 60 wr (by decide) (by decide)
        obtain ⟨x, hxq⟩ : ∃ x, x = z0 % 60 := ⟨_, rfl⟩
        have hx0 : 0 ≤ x := by rw [hxq]; exact Int.emod_nonneg _ (by decide)
        have hx1 : x < 60 := by rw [hxq]; exact Int.emod_lt_of_pos _ (by decide)
        rw [← hxq] at ham
        clear hxq
        have hl : (200 : Int) < (k : Int) := by omega
        obtain ⟨nn, hnq⟩ : ∃ nn, nn = d.length - i := ⟨_, rfl⟩
        have hne : (d.length : Int) - (i : Int) = (nn : Int) := by omega
        have hnle : nn ≤ d.length - i := by omega
        have HNQ : Hid _ := hnq
        clear hnq
        go_wp2_with fail
        refine ham.mono ?_
        rintro e wq ⟨rfl, hwq⟩
        rw [hwq]
        clear hwq wq
        have hin : i + nn ≤ d.length := by omega
        have hin0 : (0 : Int) ≤ (i : Int) + (nn : Int) := by omega
        have hin1 : (i : Int) ≤ (i : Int) + (nn : Int) := by omega
        have hin2 : (i : Int) + (nn : Int) ≤ (d.length : Int) := by omega
        have HX : Hid ((B d).extract i (i + nn) = B ((d.drop i).take nn)) := by show (B d).extract i (i + nn) = B ((d.drop i).take nn); rw [B_sub]; congr 2; omega
        have HX0 : Hid ((B d).extract 0 (i + nn) = B (d.take (i + nn))) := B_take d (i + nn)
        have hpl : ((d.drop i).take nn).length ≤ 65536 := by rw [List.length_take]; omega
        cases hso : st.over with
        | true =>
          have hT := take_end hY ((d.drop i).take nn) hpl hso
          have hall := HP.out.over hso
          rw [← HR.out] at hall
          subst hall
          have q : ((B got).toList == (B got).toList) = true := beq_self_eq_true _
          have ho := hov wr (Below.refl _ _)
          rw [hso] at ho
          have HSO : Hid _ := hso
          clear hov hok hY hP hso
          go_wp2_with fail
          rw [HX.out]
          refine hT.mono ?_
          rintro e w5 ⟨rfl, rfl⟩
          go_wp2_with fail
          refine ho.mono ?_
          rintro e w6 ⟨rfl, rfl⟩
          go_wp2_with fail
          refine ho.mono ?_
          rintro e w7 ⟨rfl, rfl⟩
          have hs2 : (true == st.over) = true := by rw [HSO.out]; rfl
          go_wp2
          go_ret
          exact ⟨by simp [HSO.out], HP.out.bel⟩
        | false =>
          have hT := take_any HP.out.sx (HE.out.later HP.out.bel) hok hso ((d.drop i).take nn) hpl
          have hall : takeF st0 (d.take (i + nn)) = (got ++ (takeF st ((d.drop i).take nn)).1, (takeF st ((d.drop i).take nn)).2) := by
            rw [take_more, take_app, HP.out.eq]
          have htl := (take_ok hok ((d.drop i).take nn)).2
          obtain ⟨T1, T2, hTT⟩ : ∃ a b, takeF st ((d.drop i).take nn) = (a, b) := ⟨_, _, rfl⟩
          rw [hTT] at hT hall htl
          have hans : ansA (d.take (i + nn)) = (got ++ T1, T2.over) := by
            unfold ansA
            rw [if_pos (by rw [List.length_take]; omega), hall]
          have htl2 : T1.length ≤ 2201 * 65536 := Nat.le_trans htl (Nat.mul_le_mul_left _ hpl)
          have hz1 : (B got).size ≤ 100000000 := by rw [B_size]; omega
          have hz2 : (B T1).size ≤ 1000000000 := by rw [B_size]; omega
          have HAP : Hid (B got ++ B T1 = B (got ++ T1)) := B_app got T1
          have hwa := fun (W : World) (hW : Env W) => ansA_any hW (d.take (i + nn))
          rw [hans] at hwa
          have q : ((B (got ++ T1)).toList == (B got ++ B T1).toList) = true := by rw [HAP.out]; exact beq_self_eq_true _
          clear hov hok hY hP hso hTT hans htl htl2
          have HALL : Hid _ := hall
          clear hall
          go_wp2_with fail
          rw [HX.out]
          refine hT.mono ?_
          rintro e w5 ⟨rfl, A2, h5, t5, g5⟩
          have hb5 : Below w.heap.size w w5 := HP.out.bel.trans (t5.below HP.out.bel.size (fun k hk e => by have := HP.out.ge k e; omega))
          have hge5 : ∀ q, A2 q → w.heap.size ≤ q := fun q hq => by
            rcases g5 q hq with h | h
            · exact HP.out.ge q h
            · have := HP.out.bel.size; omega
          have H5 : Hid _ := And.intro h5 (And.intro hb5 hge5)
          obtain ⟨M5, v5, hY5⟩ := h5
          have ho5 := over_any hY5
          clear hT t5 g5 hb5 hge5 hY5
          cases hto : T2.over with
          | false =>
            rw [hto] at ho5 hwa
            have HTO : Hid _ := hto
            clear hto
            go_wp2_with fail
            refine ho5.mono ?_
            rintro e w6 ⟨rfl, rfl⟩
            go_wp2_with fail
            rw [HX0.out]
            refine (hwa w6 (HE.out.later H5.out.2.1)).mono ?_
            rintro e w7 ⟨rfl, hb7⟩
            have H7 : Hid _ := hb7
            clear hb7
            go_wp2
            go_roundw
            case rel =>
              refine ⟨k + 1, i + nn, got ++ T1, T2, A2, by first | rfl | simp, by first | rfl | simp, by first | rfl | (rw [HAP.out]) | simp [HAP.out], ⟨by omega, (fun _ => by have := HNQ.out; omega), hin, HALL.out, H5.out.1.later H7.out, H5.out.2.1.trans (H7.out.mono H5.out.2.1.size), H5.out.2.2⟩⟩
            case measure => show 203 - ((k : Int) + 1).toNat < 203 - (k : Int).toNat; omega
          | true =>
            rw [hto] at ho5 hwa
            have HTO : Hid _ := hto
            clear hto
            go_wp2_with fail
            refine ho5.mono ?_
            rintro e w6 ⟨rfl, rfl⟩
            go_wp2_with fail
            rw [HX0.out]
            refine (hwa w6 (HE.out.later H5.out.2.1)).mono ?_
            rintro e w7 ⟨rfl, hb7⟩
            have H7 : Hid _ := hb7
            clear hb7
            go_wp2
            go_roundw
            case rel =>
              refine ⟨k + 1, i + nn, got ++ T1, T2, A2, by first | rfl | simp, by first | rfl | simp, by first | rfl | (rw [HAP.out]) | simp [HAP.out], ⟨by omega, (fun _ => by have := HNQ.out; omega), hin, HALL.out, H5.out.1.later H7.out, H5.out.2.1.trans (H7.out.mono H5.out.2.1.size), H5.out.2.2⟩⟩
            case measure => show 203 - ((k : Int) + 1).toNat < 203 - (k : Int).toNat; omega
      · obtain ⟨ax, rfl, hcell⟩ : ∃ x, a1 = some x ∧ ∀ i, i < zs.length → w.cell? (x.add i) = some (.int .i64 (zs.getD i 0)) := by
          rcases HA.out with h | h
          · rw [h] at HN
            have := HN.out
            simp at this
            omega
          · exact h
        have cx := later HP.out.bel (hcell k (by have := HN.out; omega))
        generalize zs.getD k 0 = z0 at *
        clear hcell
        have ham := among_any z0 60 wr (by decide) (by decide)
        obtain ⟨x, hxq⟩ : ∃ x, x = z0 % 60 := ⟨_, rfl⟩
        have hx0 : 0 ≤ x := by rw [hxq]; exact Int.emod_nonneg _ (by decide)
        have hx1 : x < 60 := by rw [hxq]; exact Int.emod_lt_of_pos _ (by decide)
        rw [← hxq] at ham
        clear hxq
        have hl : ¬ (200 : Int) < (k : Int) := by omega
        obtain ⟨xx, rfl⟩ : ∃ xx : Nat, x = (xx : Int) := ⟨x.toNat, by omega⟩
        obtain ⟨mm, hmq⟩ : ∃ mm, mm = d.length - i := ⟨_, rfl⟩
        have hme : (d.length : Int) - (i : Int) = (mm : Int) := by omega
        rcases Nat.le_total mm xx with hmin | hmin
        · have hmi : min (mm : Int) (xx : Int) = (mm : Int) := by omega
          have hnle : mm ≤ d.length - i := by omega
          have HMQ : Hid _ := hmq
          clear hmq
          go_wp2_with fail
          refine ham.mono ?_
          rintro e wq ⟨rfl, hwq⟩
          rw [hwq]
          clear hwq wq
          have hin : i + mm ≤ d.length := by omega
          have hin0 : (0 : Int) ≤ (i : Int) + (mm : Int) := by omega
          have hin1 : (i : Int) ≤ (i : Int) + (mm : Int) := by omega
          have hin2 : (i : Int) + (mm : Int) ≤ (d.length : Int) := by omega
          have HX : Hid ((B d).extract i (i + mm) = B ((d.drop i).take mm)) := by show (B d).extract i (i + mm) = B ((d.drop i).take mm); rw [B_sub]; congr 2; omega
          have HX0 : Hid ((B d).extract 0 (i + mm) = B (d.take (i + mm))) := B_take d (i + mm)
          have hpl : ((d.drop i).take mm).length ≤ 65536 := by rw [List.length_take]; omega
          cases hso : st.over with
          | true =>
            have hT := take_end hY ((d.drop i).take mm) hpl hso
            have hall := HP.out.over hso
            rw [← HR.out] at hall
            subst hall
            have q : ((B got).toList == (B got).toList) = true := beq_self_eq_true _
            have ho := hov wr (Below.refl _ _)
            rw [hso] at ho
            have HSO : Hid _ := hso
            clear hov hok hY hP hso
            go_wp2_with fail
            rw [HX.out]
            refine hT.mono ?_
            rintro e w5 ⟨rfl, rfl⟩
            go_wp2_with fail
            refine ho.mono ?_
            rintro e w6 ⟨rfl, rfl⟩
            go_wp2_with fail
            refine ho.mono ?_
            rintro e w7 ⟨rfl, rfl⟩
            have hs2 : (true == st.over) = true := by rw [HSO.out]; rfl
            go_wp2
            go_ret
            exact ⟨by simp [HSO.out], HP.out.bel⟩
          | false =>
            have hT := take_any HP.out.sx (HE.out.later HP.out.bel) hok hso ((d.drop i).take mm) hpl
            have hall : takeF st0 (d.take (i + mm)) = (got ++ (takeF st ((d.drop i).take mm)).1, (takeF st ((d.drop i).take mm)).2) := by
              rw [take_more, take_app, HP.out.eq]
            have htl := (take_ok hok ((d.drop i).take mm)).2
            obtain ⟨T1, T2, hTT⟩ : ∃ a b, takeF st ((d.drop i).take mm) = (a, b) := ⟨_, _, rfl⟩
            rw [hTT] at hT hall htl
            have hans : ansA (d.take (i + mm)) = (got ++ T1, T2.over) := by
              unfold ansA
              rw [if_pos (by rw [List.length_take]; omega), hall]
            have htl2 : T1.length ≤ 2201 * 65536 := Nat.le_trans htl (Nat.mul_le_mul_left _ hpl)
            have hz1 : (B got).size ≤ 100000000 := by rw [B_size]; omega
            have hz2 : (B T1).size ≤ 1000000000 := by rw [B_size]; omega
            have HAP : Hid (B got ++ B T1 = B (got ++ T1)) := B_app got T1
            have hwa := fun (W : World) (hW : Env W) => ansA_any hW (d.take (i + mm))
            rw [hans] at hwa
            have q : ((B (got ++ T1)).toList == (B got ++ B T1).toList) = true := by rw [HAP.out]; exact beq_self_eq_true _
            clear hov hok hY hP hso hTT hans htl htl2
            have HALL : Hid _ := hall
            clear hall
            go_wp2_with fail
            rw [HX.out]
            refine hT.mono ?_
            rintro e w5 ⟨rfl, A2, h5, t5, g5⟩
            have hb5 : Below w.heap.size w w5 := HP.out.bel.trans (t5.below HP.out.bel.size (fun k hk e => by have := HP.out.ge k e; omega))
            have hge5 : ∀ q, A2 q → w.heap.size ≤ q := fun q hq => by
              rcases g5 q hq with h | h
              · exact HP.out.ge q h
              · have := HP.out.bel.size; omega
            have H5 : Hid _ := And.intro h5 (And.intro hb5 hge5)
            obtain ⟨M5, v5, hY5⟩ := h5
            have ho5 := over_any hY5
            clear hT t5 g5 hb5 hge5 hY5
            cases hto : T2.over with
            | false =>
              rw [hto] at ho5 hwa
              have HTO : Hid _ := hto
              clear hto
              go_wp2_with fail
              refine ho5.mono ?_
              rintro e w6 ⟨rfl, rfl⟩
              go_wp2_with fail
              rw [HX0.out]
              refine (hwa w6 (HE.out.later H5.out.2.1)).mono ?_
              rintro e w7 ⟨rfl, hb7⟩
              have H7 : Hid _ := hb7
              clear hb7
              go_wp2
              go_roundw
              case rel =>
                refine ⟨k + 1, i + mm, got ++ T1, T2, A2, by first | rfl | simp, by first | rfl | simp, by first | rfl | (rw [HAP.out]) | simp [HAP.out], ⟨by omega, (fun h => by omega), hin, HALL.out, H5.out.1.later H7.out, H5.out.2.1.trans (H7.out.mono H5.out.2.1.size), H5.out.2.2⟩⟩
              case measure => show 203 - ((k : Int) + 1).toNat < 203 - (k : Int).toNat; omega
            | true =>
              rw [hto] at ho5 hwa
              have HTO : Hid _ := hto
              clear hto
              go_wp2_with fail
              refine ho5.mono ?_
              rintro e w6 ⟨rfl, rfl⟩
              go_wp2_with fail
              rw [HX0.out]
              refine (hwa w6 (HE.out.later H5.out.2.1)).mono ?_
              rintro e w7 ⟨rfl, hb7⟩
              have H7 : Hid _ := hb7
              clear hb7
              go_wp2
              go_roundw
              case rel =>
                refine ⟨k + 1, i + mm, got ++ T1, T2, A2, by first | rfl | simp, by first | rfl | simp, by first | rfl | (rw [HAP.out]) | simp [HAP.out], ⟨by omega, (fun h => by omega), hin, HALL.out, H5.out.1.later H7.out, H5.out.2.1.trans (H7.out.mono H5.out.2.1.size), H5.out.2.2⟩⟩
              case measure => show 203 - ((k : Int) + 1).toNat < 203 - (k : Int).toNat; omega
        · have hmi : min (mm : Int) (xx : Int) = (xx : Int) := by omega
          have hnle : xx ≤ d.length - i := by omega
          have HMQ : Hid _ := hmq
          clear hmq
          go_wp2_with fail
          refine ham.mono ?_
          rintro e wq ⟨rfl, hwq⟩
          rw [hwq]
          clear hwq wq
          have hin : i + xx ≤ d.length := by omega
          have hin0 : (0 : Int) ≤ (i : Int) + (xx : Int) := by omega
          have hin1 : (i : Int) ≤ (i : Int) + (xx : Int) := by omega
          have hin2 : (i : Int) + (xx : Int) ≤ (d.length : Int) := by omega
          have HX : Hid ((B d).extract i (i + xx) = B ((d.drop i).take xx)) := by show (B d).extract i (i + xx) = B ((d.drop i).take xx); rw [B_sub]; congr 2; omega
          have HX0 : Hid ((B d).extract 0 (i + xx) = B (d.take (i + xx))) := B_take d (i + xx)
          have hpl : ((d.drop i).take xx).length ≤ 65536 := by rw [List.length_take]; omega
          cases hso : st.over with
          | true =>
            have hT := take_end hY ((d.drop i).take xx) hpl hso
            have hall := HP.out.over hso
            rw [← HR.out] at hall
            subst hall
            have q : ((B got).toList == (B got).toList) = true := beq_self_eq_true _
            have ho := hov wr (Below.refl _ _)
            rw [hso] at ho
            have HSO : Hid _ := hso
            clear hov hok hY hP hso
            go_wp2_with fail
            rw [HX.out]
            refine hT.mono ?_
            rintro e w5 ⟨rfl, rfl⟩
            go_wp2_with fail
            refine ho.mono ?_
            rintro e w6 ⟨rfl, rfl⟩
            go_wp2_with fail
            refine ho.mono ?_
            rintro e w7 ⟨rfl, rfl⟩
            have hs2 : (true == st.over) = true := by rw [HSO.out]; rfl
            go_wp2
            go_ret
            exact ⟨by simp [HSO.out], HP.out.bel⟩
          | false =>
            have hT := take_any HP.out.sx (HE.out.later HP.out.bel) hok hso ((d.drop i).take xx) hpl
            have hall : takeF st0 (d.take (i + xx)) = (got ++ (takeF st ((d.drop i).take xx)).1, (takeF st ((d.drop i).take xx)).2) := by
              rw [take_more, take_app, HP.out.eq]
            have htl := (take_ok hok ((d.drop i).take xx)).2
            obtain ⟨T1, T2, hTT⟩ : ∃ a b, takeF st ((d.drop i).take xx) = (a, b) := ⟨_, _, rfl⟩
            rw [hTT] at hT hall htl
            have hans : ansA (d.take (i + xx)) = (got ++ T1, T2.over) := by
              unfold ansA
              rw [if_pos (by rw [List.length_take]; omega), hall]
            have htl2 : T1.length ≤ 2201 * 65536 := Nat.le_trans htl (Nat.mul_le_mul_left _ hpl)
            have hz1 : (B got).size ≤ 100000000 := by rw [B_size]; omega
            have hz2 : (B T1).size ≤ 1000000000 := by rw [B_size]; omega
            have HAP : Hid (B got ++ B T1 = B (got ++ T1)) := B_app got T1
            have hwa := fun (W : World) (hW : Env W) => ansA_any hW (d.take (i + xx))
            rw [hans] at hwa
            have q : ((B (got ++ T1)).toList == (B got ++ B T1).toList) = true := by rw [HAP.out]; exact beq_self_eq_true _
            clear hov hok hY hP hso hTT hans htl htl2
            have HALL : Hid _ := hall
            clear hall
            go_wp2_with fail
            rw [HX.out]
            refine hT.mono ?_
            rintro e w5 ⟨rfl, A2, h5, t5, g5⟩
            have hb5 : Below w.heap.size w w5 := HP.out.bel.trans (t5.below HP.out.bel.size (fun k hk e => by have := HP.out.ge k e; omega))
            have hge5 : ∀ q, A2 q → w.heap.size ≤ q := fun q hq => by
              rcases g5 q hq with h | h
              · exact HP.out.ge q h
              · have := HP.out.bel.size; omega
            have H5 : Hid _ := And.intro h5 (And.intro hb5 hge5)
            obtain ⟨M5, v5, hY5⟩ := h5
            have ho5 := over_any hY5
            clear hT t5 g5 hb5 hge5 hY5
            cases hto : T2.over with
            | false =>
              rw [hto] at ho5 hwa
              have HTO : Hid _ := hto
              clear hto
              go_wp2_with fail
              refine ho5.mono ?_
              rintro e w6 ⟨rfl, rfl⟩
              go_wp2_with fail
              rw [HX0.out]
              refine (hwa w6 (HE.out.later H5.out.2.1)).mono ?_
              rintro e w7 ⟨rfl, hb7⟩
              have H7 : Hid _ := hb7
              clear hb7
              go_wp2
              go_roundw
              case rel =>
                refine ⟨k + 1, i + xx, got ++ T1, T2, A2, by first | rfl | simp, by first | rfl | simp, by first | rfl | (rw [HAP.out]) | simp [HAP.out], ⟨by omega, (fun h => by omega), hin, HALL.out, H5.out.1.later H7.out, H5.out.2.1.trans (H7.out.mono H5.out.2.1.size), H5.out.2.2⟩⟩
              case measure => show 203 - ((k : Int) + 1).toNat < 203 - (k : Int).toNat; omega
            | true =>
              rw [hto] at ho5 hwa
              have HTO : Hid _ := hto
              clear hto
              go_wp2_with fail
              refine ho5.mono ?_
              rintro e w6 ⟨rfl, rfl⟩
              go_wp2_with fail
              rw [HX0.out]
              refine (hwa w6 (HE.out.later H5.out.2.1)).mono ?_
              rintro e w7 ⟨rfl, hb7⟩
              have H7 : Hid _ := hb7
              clear hb7
              go_wp2
              go_roundw
              case rel =>
                refine ⟨k + 1, i + xx, got ++ T1, T2, A2, by first | rfl | simp, by first | rfl | simp, by first | rfl | (rw [HAP.out]) | simp [HAP.out], ⟨by omega, (fun h => by omega), hin, HALL.out, H5.out.1.later H7.out, H5.out.2.1.trans (H7.out.mono H5.out.2.1.size), H5.out.2.2⟩⟩
              case measure => show 203 - ((k : Int) + 1).toNat < 203 - (k : Int).toNat; omega
    · have hkn' : ¬ (k : Int) < (n : Int) := by omega
      by_cases hk2 : 200 < k
      · have hl : (200 : Int) < (k : Int) := by omega
        obtain ⟨nn, hnq⟩ : ∃ nn, nn = d.length - i := ⟨_, rfl⟩
        have hne : (d.length : Int) - (i : Int) = (nn : Int) := by omega
        have hnle : nn ≤ d.length - i := by omega
        have HNQ : Hid _ := hnq
        clear hnq
        have hin : i + nn ≤ d.length := by omega
        have hin0 : (0 : Int) ≤ (i : Int) + (nn : Int) := by omega
        have hin1 : (i : Int) ≤ (i : Int) + (nn : Int) := by omega
        have hin2 : (i : Int) + (nn : Int) ≤ (d.length : Int) := by omega
        have HX : Hid ((B d).extract i (i + nn) = B ((d.drop i).take nn)) := by show (B d).extract i (i + nn) = B ((d.drop i).take nn); rw [B_sub]; congr 2; omega
        have HX0 : Hid ((B d).extract 0 (i + nn) = B (d.take (i + nn))) := B_take d (i + nn)
        have hpl : ((d.drop i).take nn).length ≤ 65536 := by rw [List.length_take]; omega
        cases hso : st.over with
        | true =>
          have hT := take_end hY ((d.drop i).take nn) hpl hso
          have hall := HP.out.over hso
          rw [← HR.out] at hall
          subst hall
          have q : ((B got).toList == (B got).toList) = true := beq_self_eq_true _
          have ho := hov wr (Below.refl _ _)
          rw [hso] at ho
          have HSO : Hid _ := hso
          clear hov hok hY hP hso
          go_wp2_with fail
          rw [HX.out]
          refine hT.mono ?_
          rintro e w5 ⟨rfl, rfl⟩
          go_wp2_with fail
          refine ho.mono ?_
          rintro e w6 ⟨rfl, rfl⟩
          go_wp2_with fail
          refine ho.mono ?_
          rintro e w7 ⟨rfl, rfl⟩
          have hs2 : (true == st.over) = true := by rw [HSO.out]; rfl
          go_wp2
          go_ret
          exact ⟨by simp [HSO.out], HP.out.bel⟩
        | false =>
          have hT := take_any HP.out.sx (HE.out.later HP.out.bel) hok hso ((d.drop i).take nn) hpl
          have hall : takeF st0 (d.take (i + nn)) = (got ++ (takeF st ((d.drop i).take nn)).1, (takeF st ((d.drop i).take nn)).2) := by
            rw [take_more, take_app, HP.out.eq]
          have htl := (take_ok hok ((d.drop i).take nn)).2
          obtain ⟨T1, T2, hTT⟩ : ∃ a b, takeF st ((d.drop i).take nn) = (a, b) := ⟨_, _, rfl⟩
          rw [hTT] at hT hall htl
          have hans : ansA (d.take (i + nn)) = (got ++ T1, T2.over) := by
            unfold ansA
            rw [if_pos (by rw [List.length_take]; omega), hall]
          have htl2 : T1.length ≤ 2201 * 65536 := Nat.le_trans htl (Nat.mul_le_mul_left _ hpl)
          have hz1 : (B got).size ≤ 100000000 := by rw [B_size]; omega
          have hz2 : (B T1).size ≤ 1000000000 := by rw [B_size]; omega
          have HAP : Hid (B got ++ B T1 = B (got ++ T1)) := B_app got T1
          have hwa := fun (W : World) (hW : Env W) => ansA_any hW (d.take (i + nn))
          rw [hans] at hwa
          have q : ((B (got ++ T1)).toList == (B got ++ B T1).toList) = true := by rw [HAP.out]; exact beq_self_eq_true _
          clear hov hok hY hP hso hTT hans htl htl2
          have HALL : Hid _ := hall
          clear hall
          go_wp2_with fail
          rw [HX.out]
          refine hT.mono ?_
          rintro e w5 ⟨rfl, A2, h5, t5, g5⟩
          have hb5 : Below w.heap.size w w5 := HP.out.bel.trans (t5.below HP.out.bel.size (fun k hk e => by have := HP.out.ge k e; omega))
          have hge5 : ∀ q, A2 q → w.heap.size ≤ q := fun q hq => by
            rcases g5 q hq with h | h
            · exact HP.out.ge q h
            · have := HP.out.bel.size; omega
          have H5 : Hid _ := And.intro h5 (And.intro hb5 hge5)
          obtain ⟨M5, v5, hY5⟩ := h5
          have ho5 := over_any hY5
          clear hT t5 g5 hb5 hge5 hY5
          cases hto : T2.over with
          | false =>
            rw [hto] at ho5 hwa
            have HTO : Hid _ := hto
            clear hto
            go_wp2_with fail
            refine ho5.mono ?_
            rintro e w6 ⟨rfl, rfl⟩
            go_wp2_with fail
            rw [HX0.out]
            refine (hwa w6 (HE.out.later H5.out.2.1)).mono ?_
            rintro e w7 ⟨rfl, hb7⟩
            have H7 : Hid _ := hb7
            clear hb7
            go_wp2
            go_roundw
            case rel =>
              refine ⟨k + 1, i + nn, got ++ T1, T2, A2, by first | rfl | simp, by first | rfl | simp, by first | rfl | (rw [HAP.out]) | simp [HAP.out], ⟨by omega, (fun _ => by have := HNQ.out; omega), hin, HALL.out, H5.out.1.later H7.out, H5.out.2.1.trans (H7.out.mono H5.out.2.1.size), H5.out.2.2⟩⟩
            case measure => show 203 - ((k : Int) + 1).toNat < 203 - (k : Int).toNat; omega
          | true =>
            rw [hto] at ho5 hwa
            have HTO : Hid _ := hto
            clear hto
            go_wp2_with fail
            refine ho5.mono ?_
            rintro e w6 ⟨rfl, rfl⟩
            go_wp2_with fail
            rw [HX0.out]
            refine (hwa w6 (HE.out.later H5.out.2.1)).mono ?_
            rintro e w7 ⟨rfl, hb7⟩
            have H7 : Hid _ := hb7
            clear hb7
            go_wp2
            go_roundw
            case rel =>
              refine ⟨k + 1, i + nn, got ++ T1, T2, A2, by first | rfl | simp, by first | rfl | simp, by first | rfl | (rw [HAP.out]) | simp [HAP.out], ⟨by omega, (fun _ => by have := HNQ.out; omega), hin, HALL.out, H5.out.1.later H7.out, H5.out.2.1.trans (H7.out.mono H5.out.2.1.size), H5.out.2.2⟩⟩
            case measure => show 203 - ((k : Int) + 1).toNat < 203 - (k : Int).toNat; omega
      · have hl : ¬ (200 : Int) < (k : Int) := by omega
        obtain ⟨nn, hnq⟩ : ∃ nn, nn = d.length - i := ⟨_, rfl⟩
        have hne : (d.length : Int) - (i : Int) = (nn : Int) := by omega
        have hnle : nn ≤ d.length - i := by omega
        have HNQ : Hid _ := hnq
        clear hnq
        have hin : i + nn ≤ d.length := by omega
        have hin0 : (0 : Int) ≤ (i : Int) + (nn : Int) := by omega
        have hin1 : (i : Int) ≤ (i : Int) + (nn : Int) := by omega
        have hin2 : (i : Int) + (nn : Int) ≤ (d.length : Int) := by omega
        have HX : Hid ((B d).extract i (i + nn) = B ((d.drop i).take nn)) := by show (B d).extract i (i + nn) = B ((d.drop i).take nn); rw [B_sub]; congr 2; omega
        have HX0 : Hid ((B d).extract 0 (i + nn) = B (d.take (i + nn))) := B_take d (i + nn)
        have hpl : ((d.drop i).take nn).length ≤ 65536 := by rw [List.length_take]; omega
        cases hso : st.over with
        | true =>
          have hT := take_end hY ((d.drop i).take nn) hpl hso
          have hall := HP.out.over hso
          rw [← HR.out] at hall
          subst hall
          have q : ((B got).toList == (B got).toList) = true := beq_self_eq_true _
          have ho := hov wr (Below.refl _ _)
          rw [hso] at ho
          have HSO : Hid _ := hso
          clear hov hok hY hP hso
          go_wp2_with fail
          rw [HX.out]
          refine hT.mono ?_
          rintro e w5 ⟨rfl, rfl⟩
          go_wp2_with fail
          refine ho.mono ?_
          rintro e w6 ⟨rfl, rfl⟩
          go_wp2_with fail
          refine ho.mono ?_
          rintro e w7 ⟨rfl, rfl⟩
          have hs2 : (true == st.over) = true := by rw [HSO.out]; rfl
          go_wp2
          go_ret
          exact ⟨by simp [HSO.out], HP.out.bel⟩
        | false =>
          have hT := take_any HP.out.sx (HE.out.later HP.out.bel) hok hso ((d.drop i).take nn) hpl
          have hall : takeF st0 (d.take (i + nn)) = (got ++ (takeF st ((d.drop i).take nn)).1, (takeF st ((d.drop i).take nn)).2) := by
            rw [take_more, take_app, HP.out.eq]
          have htl := (take_ok hok ((d.drop i).take nn)).2
          obtain ⟨T1, T2, hTT⟩ : ∃ a b, takeF st ((d.drop i).take nn) = (a, b) := ⟨_, _, rfl⟩
          rw [hTT] at hT hall htl
          have hans : ansA (d.take (i + nn)) = (got ++ T1, T2.over) := by
            unfold ansA
            rw [if_pos (by rw [List.length_take]; omega), hall]
          have htl2 : T1.length ≤ 2201 * 65536 := Nat.le_trans htl (Nat.mul_le_mul_left _ hpl)
          have hz1 : (B got).size ≤ 100000000 := by rw [B_size]; omega
          have hz2 : (B T1).size ≤ 1000000000 := by rw [B_size]; omega
          have HAP : Hid (B got ++ B T1 = B (got ++ T1)) := B_app got T1
          have hwa := fun (W : World) (hW : Env W) => ansA_any hW (d.take (i + nn))
          rw [hans] at hwa
          have q : ((B (got ++ T1)).toList == (B got ++ B T1).toList) = true := by rw [HAP.out]; exact beq_self_eq_true _
          clear hov hok hY hP hso hTT hans htl htl2
          have HALL : Hid _ := hall
          clear hall
          go_wp2_with fail
          rw [HX.out]
          refine hT.mono ?_
          rintro e w5 ⟨rfl, A2, h5, t5, g5⟩
          have hb5 : Below w.heap.size w w5 := HP.out.bel.trans (t5.below HP.out.bel.size (fun k hk e => by have := HP.out.ge k e; omega))
          have hge5 : ∀ q, A2 q → w.heap.size ≤ q := fun q hq => by
            rcases g5 q hq with h | h
            · exact HP.out.ge q h
            · have := HP.out.bel.size; omega
          have H5 : Hid _ := And.intro h5 (And.intro hb5 hge5)
          obtain ⟨M5, v5, hY5⟩ := h5
          have ho5 := over_any hY5
          clear hT t5 g5 hb5 hge5 hY5
          cases hto : T2.over with
          | false =>
            rw [hto] at ho5 hwa
            have HTO : Hid _ := hto
            clear hto
            go_wp2_with fail
            refine ho5.mono ?_
            rintro e w6 ⟨rfl, rfl⟩
            go_wp2_with fail
            rw [HX0.out]
            refine (hwa w6 (HE.out.later H5.out.2.1)).mono ?_
            rintro e w7 ⟨rfl, hb7⟩
            have H7 : Hid _ := hb7
            clear hb7
            go_wp2
            go_roundw
            case rel =>
              refine ⟨k + 1, i + nn, got ++ T1, T2, A2, by first | rfl | simp, by first | rfl | simp, by first | rfl | (rw [HAP.out]) | simp [HAP.out], ⟨by omega, (fun h => by omega), hin, HALL.out, H5.out.1.later H7.out, H5.out.2.1.trans (H7.out.mono H5.out.2.1.size), H5.out.2.2⟩⟩
            case measure => show 203 - ((k : Int) + 1).toNat < 203 - (k : Int).toNat; omega
          | true =>
            rw [hto] at ho5 hwa
            have HTO : Hid _ := hto
            clear hto
            go_wp2_with fail
            refine ho5.mono ?_
            rintro e w6 ⟨rfl, rfl⟩
            go_wp2_with fail
            rw [HX0.out]
            refine (hwa w6 (HE.out.later H5.out.2.1)).mono ?_
            rintro e w7 ⟨rfl, hb7⟩
            have H7 : Hid _ := hb7
            clear hb7
            go_wp2
            go_roundw
            case rel =>
              refine ⟨k + 1, i + nn, got ++ T1, T2, A2, by first | rfl | simp, by first | rfl | simp, by first | rfl | (rw [HAP.out]) | simp [HAP.out], ⟨by omega, (fun h => by omega), hin, HALL.out, H5.out.1.later H7.out, H5.out.2.1.trans (H7.out.mono H5.out.2.1.size), H5.out.2.2⟩⟩
            case measure => show 203 - ((k : Int) + 1).toNat < 203 - (k : Int).toNat; omega
end
end Go.Proofs.YtadmpdeegnppjaaDoor
