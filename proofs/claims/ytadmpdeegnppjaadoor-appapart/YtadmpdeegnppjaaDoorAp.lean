/- AppApart: two sessions in turns. -/
import Derived.Test.YtadmpdeegnppjaaDoorAo
import Derived.Test.YtadmpdeegnppjaaDoorFlat
import Derived.Lib.MinMax
namespace Go.Proofs.YtadmpdeegnppjaaDoor
open Go.RowKit Go.Maps Go.Shelf Go.Lib
set_option maxRecDepth 100000
set_option linter.unusedVariables false
set_option linter.unusedSimpArgs false


/-- A row of texts that came in. -/
def ArgS (w : World) (a : Option Addr) (n : Nat) : Prop := n = 0 ∨ ∃ x, a = some x ∧ ∀ i, i < n → ∃ s : By, w.cell? (x.add i) = some (.string (B s)) ∧ s.length ≤ 140737488351232
theorem argS_of {w : World} {a : Option Addr} {n : Nat} (h : Flat.Rows w a n 1 [.s]) : ArgS w a n := by
  rcases h with h | ⟨b, off, ha, h⟩
  · exact Or.inl h
  · refine Or.inr ⟨⟨b, off, none⟩, ha, fun i hi => ?_⟩
    obtain ⟨cs, ho, hc⟩ := h i hi
    have hl : cs.length = 1 := ho.1
    obtain ⟨c, rfl⟩ : ∃ c, cs = [c] := by
      match cs, hl with
      | [c], _ => exact ⟨c, rfl⟩
    obtain ⟨s, rfl, hs⟩ := ho.2 0 .s c rfl rfl
    refine ⟨s.data.toList, ?_, by simpa using hs⟩
    rw [B_of, Addr.add_mid]
    have := hc 0 (.string s) rfl
    simpa using this
/-- One side: what it took, what it was answered. -/
structure SD (w wr : World) (b : Nat) (A : Bk) (f o : By) (st : St) : Prop where
  len : f.length ≤ 2000
  eq : takeF st0 f = (o, st)
  sx : SX wr A b st
  ge : ∀ q, A q → w.heap.size ≤ q
section
variable {w wr : World} {b : Nat} {A : Bk} {f o : By} {st : St}
theorem SD.ok (h : SD w wr b A f o st) : Ok st ∧ o.length ≤ 4402000 := by
  have := take_ok ok0 f
  rw [h.eq] at this
  have hl := h.len
  exact ⟨this.1, by have := this.2; simp only at this; omega⟩
theorem SD.turn {S : Bk} {w' : World} (h : SD w wr b A f o st) (ht : Turn S wr w') (hd : Dj S A) : SD w w' b A f o st := ⟨h.len, h.eq, h.sx.turn ht hd, h.ge⟩
theorem SD.later {w' : World} (h : SD w wr b A f o st) (hb : Below wr.heap.size wr w') : SD w w' b A f o st := ⟨h.len, h.eq, h.sx.later hb, h.ge⟩
theorem SD.step {w' : World} {A' : Bk} {p T1 : By} {T2 : St} (h : SD w wr b A f o st) (hw : w.heap.size ≤ wr.heap.size) (hl : f.length + p.length ≤ 2000) (hT : takeF st p = (T1, T2)) (hx : SX w' A' b T2) (hg : Gr wr.heap.size A A') : SD w w' b A' (f ++ p) (o ++ T1) T2 := by
  refine ⟨by rw [List.length_append]; exact hl, ?_, hx, fun q hq => ?_⟩
  · rw [take_app, h.eq]
    simp only
    rw [hT]
  · rcases hg q hq with e | e
    · exact h.ge q e
    · omega
theorem SD.ans (h : SD w wr b A f o st) : ansA f = (o, st.over) := by
  unfold ansA
  rw [if_pos (by have := h.len; omega), h.eq]
end
section
variable {w : World}
set_option maxHeartbeats 8000000 in
theorem apart_any (a0 : Option Addr) (na c0 : Nat) (a1 : Option Addr) (nb c1 : Nat) (hE : Env w) (hi0 : Flat.Rows w a0 na 1 [.s]) (hz0 : na * 16 ≤ 140737488351232) (hi1 : Flat.Rows w a1 nb 1 [.s]) (hz1 : nb * 16 ≤ 140737488351232) :
    Calls Tryd.prog 6 #[.slice a0 na c0, .slice a1 nb c1] w fun e w' => e = .returned (.bool true) ∧ Below w.heap.size w w' := by
  have HA0 : Hid (ArgS w a0 na) := argS_of hi0
  have HA1 : Hid (ArgS w a1 nb) := argS_of hi1
  clear hi0 hi1
  have HE : Hid _ := hE
  clear hE
  obtain ⟨N, hN⟩ : ∃ N, N = max na nb := ⟨_, rfl⟩
  have hmax : max (na : Int) (nb : Int) = (N : Int) := by omega
  have HN : Hid _ := hN
  clear hN
  go_enter Tryd.func6, Tryd.ntmps6
  go_wp2_with fail
  refine (new_any HE.out).mono ?_
  rintro e w1 ⟨bx, Ax, rfl, h1, hb1, hA1⟩
  go_wp2_with fail
  refine (new_any (HE.out.later hb1)).mono ?_
  rintro e w2 ⟨by_, Ay, rfl, h2, hb2, hA2⟩
  have hb12 := bt hb1 hb2
  go_wp2_with fail
  refine (works_any (HE.out.later hb12)).mono ?_
  rintro e w3 ⟨rfl, hb3⟩
  have hb13 := bt hb12 hb3
  have hdj : Dj Ax Ay := fun k hx hy => by
    have := h1.lw k hx
    have := hA2 k hy
    omega
  have hX0 : SD w w3 bx Ax [] [] st0 := ⟨by simp, rfl, (h1.later hb2).later hb3, hA1⟩
  have hY0 : SD w w3 by_ Ay [] [] st0 := ⟨by simp, rfl, h2.later hb3, fun q hq => Nat.le_trans hb1.size (hA2 q hq)⟩
  have H0 : Hid _ := And.intro hX0 (And.intro hY0 (And.intro hdj hb13))
  clear h1 h2 hA1 hA2 hb1 hb2 hb3 hb12 hb13 hdj hX0 hY0
  go_wp2
  go_loopw [7, 8, 9, 10, 11] (fun fx fy ox oy i wr => ∃ (k : Nat) (f1 f2 o1 o2 : By) (s1 s2 : St) (A1 A2 : Bk), k ≤ 60 ∧ i = .int .i64 (k : Int) ∧ fx = .string (B f1) ∧ fy = .string (B f2) ∧ ox = .string (B o1) ∧ oy = .string (B o2) ∧ SD w wr bx A1 f1 o1 s1 ∧ SD w wr by_ A2 f2 o2 s2 ∧ Dj A1 A2 ∧ Below w.heap.size w wr) (fun _ _ _ _ i _ => 61 - (intOf i).toNat)
  case atStart => exact ⟨0, [], [], [], [], st0, st0, Ax, Ay, by omega, rfl, rfl, rfl, rfl, rfl, H0.out⟩
  case round =>
    clear H0
    obtain ⟨k, f1, f2, o1, o2, s1, s2, A1, A2, hk60, rfl, rfl, rfl, rfl, rfl, hX, hY, hdj, hb⟩ := hrel
    have HX : Hid _ := hX
    have HY : Hid _ := hY
    have HD : Hid _ := hdj
    have HB : Hid (Below w.heap.size w wr) := hb
    obtain ⟨okx, olx⟩ := hX.ok
    obtain ⟨oky, oly⟩ := hY.ok
    have hf1l := hX.len
    have hf2l := hY.len
    have hk0 : (0 : Int) ≤ (k : Int) := by omega
    by_cases hlast : k < N ∧ k < 60
    rotate_left
    · have hl2 : ¬ (k : Int) < (N : Int) ∨ ((k : Int) < (N : Int) ∧ ¬ (k : Int) < 60) := by omega
      have hax := fun (W : World) (hW : Env W) => ansA_any hW f1
      have hay := fun (W : World) (hW : Env W) => ansA_any hW f2
      rw [hX.ans] at hax
      rw [hY.ans] at hay
      have hox := fun (W : World) (hW : Below wr.heap.size wr W) => over_any ((HX.out.sx.later hW).choose_spec.choose_spec)
      have hoy := fun (W : World) (hW : Below wr.heap.size wr W) => over_any ((HY.out.sx.later hW).choose_spec.choose_spec)
      have q1 : ((B o1).toList == (B o1).toList) = true := beq_self_eq_true _
      have q2 : ((B o2).toList == (B o2).toList) = true := beq_self_eq_true _
      clear hX hY hdj hb okx oky
      rcases hl2 with hq | ⟨hq, hq2⟩
      all_goals
        go_wp2_with fail
        refine (hax wr (HE.out.later HB.out)).mono ?_
        rintro e w5 ⟨rfl, hb5⟩
        go_wp2_with fail
        refine (hay w5 (HE.out.later (HB.out.trans (hb5.mono HB.out.size)))).mono ?_
        rintro e w6 ⟨rfl, hb6⟩
        have hb56 := bt hb5 hb6
        have HB6 : Hid _ := HB.out.trans (hb56.mono HB.out.size)
        go_wp2_with fail
        refine (hox w6 hb56).mono ?_
        rintro e w7 ⟨rfl, hw7⟩
        rw [hw7]
        clear hw7 w7
        go_wp2_with fail
        refine (hoy w6 hb56).mono ?_
        rintro e w8 ⟨rfl, hw8⟩
        rw [hw8]
        clear hw8 w8
        go_wp2
        go_ret
        exact ⟨by simp, HB6.out⟩
    obtain ⟨hkN, hk60'⟩ := hlast
    have hkN' : (k : Int) < (N : Int) := by omega
    have hk6 : (k : Int) < 60 := by omega
    by_cases hkx : k < na
    · have hnx : (k : Int) < (na : Int) := by omega
      obtain ⟨adx, rfl, hcellx⟩ : ∃ x, a0 = some x ∧ ∀ i, i < na → ∃ s : By, w.cell? (x.add i) = some (.string (B s)) ∧ s.length ≤ 140737488351232 := by
        rcases HA0.out with h | h
        · omega
        · exact h
      obtain ⟨px, hcx, hlx⟩ := hcellx k (by omega)
      have cx := later HB.out hcx
      have zx : (B px).size = px.length := B_size _
      clear hcellx
      have zfx : (B f1).size = f1.length := B_size _
      by_cases hsx2 : f1.length + px.length ≤ 2000
      · have hsx3 : ((f1.length : Int) + (px.length : Int)) ≤ 2000 := by omega
        cases hsx : s1.over with
        | true =>
          by_cases hky : k < nb
          · have hny : (k : Int) < (nb : Int) := by omega
            obtain ⟨ady, rfl, hcelly⟩ : ∃ x, a1 = some x ∧ ∀ i, i < nb → ∃ s : By, w.cell? (x.add i) = some (.string (B s)) ∧ s.length ≤ 140737488351232 := by
              rcases HA1.out with h | h
              · omega
              · exact h
            obtain ⟨py, hcy, hly⟩ := hcelly k (by omega)
            have cy := later HB.out hcy
            have zy : (B py).size = py.length := B_size _
            clear hcelly
            have zfy : (B f2).size = f2.length := B_size _
            by_cases hsy2 : f2.length + py.length ≤ 2000
            · have hsy3 : ((f2.length : Int) + (py.length : Int)) ≤ 2000 := by omega
              cases hsy : s2.over with
              | true =>
                have hTx := take_end (HX.out.sx.choose_spec.choose_spec) px (by omega) hsx
                clear hX okx
                go_wp2_with fail
                refine hTx.mono ?_
                rintro e wx ⟨rfl, hwx⟩
                rw [hwx]
                clear hwx wx hTx
                have hTy := take_end (HY.out.sx.choose_spec.choose_spec) py (by omega) hsy
                clear hY oky
                go_wp2_with fail
                refine hTy.mono ?_
                rintro e wy ⟨rfl, hwy⟩
                rw [hwy]
                clear hwy wy hTy
                go_wp2
                go_roundw
                case rel =>
                  refine ⟨k + 1, f1, f2, o1, o2, s1, s2, A1, A2, by omega, (by first | rfl | simp), rfl, rfl, rfl, rfl, HX.out, HY.out, HD.out, HB.out⟩
                case measure => show 61 - ((k : Int) + 1).toNat < 61 - (k : Int).toNat; omega
              | false =>
                have hTx := take_end (HX.out.sx.choose_spec.choose_spec) px (by omega) hsx
                clear hX okx
                go_wp2_with fail
                refine hTx.mono ?_
                rintro e wx ⟨rfl, hwx⟩
                rw [hwx]
                clear hwx wx hTx
                have hTy := take_any HY.out.sx (HE.out.later HB.out) oky hsy py (by omega)
                obtain ⟨U1, U2, hTTy⟩ : ∃ a b, takeF s2 py = (a, b) := ⟨_, _, rfl⟩
                rw [hTTy] at hTy
                have htly := (take_ok oky py).2
                rw [hTTy] at htly
                simp only at htly
                have hzy1 : (B o2).size ≤ 100000000 := by rw [B_size]; omega
                have hzy2 : (B U1).size ≤ 100000000 := by rw [B_size]; omega
                have hzy3 : (B f2).size ≤ 100000000 := by rw [B_size]; have := HY.out.len; omega
                have HTY : Hid _ := hTTy
                have hly2 : f2.length + py.length ≤ 2000 := by omega
                have HLY : Hid _ := hly2
                clear hY oky hTTy htly hly2
                go_wp2_with fail
                refine hTy.mono ?_
                rintro e wy ⟨rfl, A4, h4, t4, g4⟩
                have hby : Below w.heap.size w wy := HB.out.trans (t4.below HB.out.size (fun k hk e => by have := HY.out.ge k e; omega))
                have HY3 : Hid _ := (HY.out).step HB.out.size HLY.out HTY.out h4 g4
                have HX3 : Hid _ := (HX.out).turn t4 (Dj.symm (HD.out))
                have HD3 : Hid _ := (Dj.gr (Dj.symm (HD.out)) g4 (HX.out).sx.lw).symm
                have HB3 : Hid (Below w.heap.size w wy) := hby
                clear h4 t4 g4 hTy
                have cy3 := later HB3.out hcy
                go_wp2
                go_roundw
                case rel =>
                  have hapy1 := B_app f2 py
                  have hapy2 := B_app o2 U1
                  refine ⟨k + 1, f1, f2 ++ py, o1, o2 ++ U1, s1, U2, A1, A4, by omega, (by first | rfl | simp), rfl, (by first | rfl | rw [hapy1]), rfl, (by first | rfl | rw [hapy2]), HX3.out, HY3.out, HD3.out, HB3.out⟩
                case measure => show 61 - ((k : Int) + 1).toNat < 61 - (k : Int).toNat; omega
            · have hsy3 : ¬ ((f2.length : Int) + (py.length : Int)) ≤ 2000 := by omega
              have hTx := take_end (HX.out.sx.choose_spec.choose_spec) px (by omega) hsx
              clear hX okx
              go_wp2_with fail
              refine hTx.mono ?_
              rintro e wx ⟨rfl, hwx⟩
              rw [hwx]
              clear hwx wx hTx
              go_wp2
              go_roundw
              case rel =>
                refine ⟨k + 1, f1, f2, o1, o2, s1, s2, A1, A2, by omega, (by first | rfl | simp), rfl, rfl, rfl, rfl, HX.out, HY.out, HD.out, HB.out⟩
              case measure => show 61 - ((k : Int) + 1).toNat < 61 - (k : Int).toNat; omega
          · have hny : ¬ (k : Int) < (nb : Int) := by omega
            have hTx := take_end (HX.out.sx.choose_spec.choose_spec) px (by omega) hsx
            clear hX okx
            go_wp2_with fail
            refine hTx.mono ?_
            rintro e wx ⟨rfl, hwx⟩
            rw [hwx]
            clear hwx wx hTx
            go_wp2
            go_roundw
            case rel =>
              refine ⟨k + 1, f1, f2, o1, o2, s1, s2, A1, A2, by omega, (by first | rfl | simp), rfl, rfl, rfl, rfl, HX.out, HY.out, HD.out, HB.out⟩
            case measure => show 61 - ((k : Int) + 1).toNat < 61 - (k : Int).toNat; omega
        | false =>
          by_cases hky : k < nb
          · have hny : (k : Int) < (nb : Int) := by omega
            obtain ⟨ady, rfl, hcelly⟩ : ∃ x, a1 = some x ∧ ∀ i, i < nb → ∃ s : By, w.cell? (x.add i) = some (.string (B s)) ∧ s.length ≤ 140737488351232 := by
              rcases HA1.out with h | h
              · omega
              · exact h
            obtain ⟨py, hcy, hly⟩ := hcelly k (by omega)
            have cy := later HB.out hcy
            have zy : (B py).size = py.length := B_size _
            clear hcelly
            have zfy : (B f2).size = f2.length := B_size _
            by_cases hsy2 : f2.length + py.length ≤ 2000
            · have hsy3 : ((f2.length : Int) + (py.length : Int)) ≤ 2000 := by omega
              cases hsy : s2.over with
              | true =>
                have hTx := take_any HX.out.sx (HE.out.later HB.out) okx hsx px (by omega)
                obtain ⟨T1, T2, hTTx⟩ : ∃ a b, takeF s1 px = (a, b) := ⟨_, _, rfl⟩
                rw [hTTx] at hTx
                have htlx := (take_ok okx px).2
                rw [hTTx] at htlx
                simp only at htlx
                have hzx1 : (B o1).size ≤ 100000000 := by rw [B_size]; omega
                have hzx2 : (B T1).size ≤ 100000000 := by rw [B_size]; omega
                have hzx3 : (B f1).size ≤ 100000000 := by rw [B_size]; have := HX.out.len; omega
                have HTX : Hid _ := hTTx
                have hlx2 : f1.length + px.length ≤ 2000 := by omega
                have HLX : Hid _ := hlx2
                clear hX okx hTTx htlx hlx2
                go_wp2_with fail
                refine hTx.mono ?_
                rintro e wx ⟨rfl, A3, h3, t3, g3⟩
                have hbx : Below w.heap.size w wx := HB.out.trans (t3.below HB.out.size (fun k hk e => by have := HX.out.ge k e; omega))
                have HX2 : Hid _ := HX.out.step HB.out.size HLX.out HTX.out h3 g3
                have HD2 : Hid _ := Dj.gr HD.out g3 HY.out.sx.lw
                have HY2 : Hid _ := HY.out.turn t3 HD.out
                have HB2 : Hid (Below w.heap.size w wx) := hbx
                clear h3 t3 g3 hTx
                have cx2 := later HB2.out hcx
                have cy2 := later HB2.out hcy
                have hTy := take_end (HY2.out.sx.choose_spec.choose_spec) py (by omega) hsy
                clear hY oky
                go_wp2_with fail
                refine hTy.mono ?_
                rintro e wy ⟨rfl, hwy⟩
                rw [hwy]
                clear hwy wy hTy
                go_wp2
                go_roundw
                case rel =>
                  have hapx1 := B_app f1 px
                  have hapx2 := B_app o1 T1
                  refine ⟨k + 1, f1 ++ px, f2, o1 ++ T1, o2, T2, s2, A3, A2, by omega, (by first | rfl | simp), (by first | rfl | rw [hapx1]), rfl, (by first | rfl | rw [hapx2]), rfl, HX2.out, HY2.out, HD2.out, HB2.out⟩
                case measure => show 61 - ((k : Int) + 1).toNat < 61 - (k : Int).toNat; omega
              | false =>
                have hTx := take_any HX.out.sx (HE.out.later HB.out) okx hsx px (by omega)
                obtain ⟨T1, T2, hTTx⟩ : ∃ a b, takeF s1 px = (a, b) := ⟨_, _, rfl⟩
                rw [hTTx] at hTx
                have htlx := (take_ok okx px).2
                rw [hTTx] at htlx
                simp only at htlx
                have hzx1 : (B o1).size ≤ 100000000 := by rw [B_size]; omega
                have hzx2 : (B T1).size ≤ 100000000 := by rw [B_size]; omega
                have hzx3 : (B f1).size ≤ 100000000 := by rw [B_size]; have := HX.out.len; omega
                have HTX : Hid _ := hTTx
                have hlx2 : f1.length + px.length ≤ 2000 := by omega
                have HLX : Hid _ := hlx2
                clear hX okx hTTx htlx hlx2
                go_wp2_with fail
                refine hTx.mono ?_
                rintro e wx ⟨rfl, A3, h3, t3, g3⟩
                have hbx : Below w.heap.size w wx := HB.out.trans (t3.below HB.out.size (fun k hk e => by have := HX.out.ge k e; omega))
                have HX2 : Hid _ := HX.out.step HB.out.size HLX.out HTX.out h3 g3
                have HD2 : Hid _ := Dj.gr HD.out g3 HY.out.sx.lw
                have HY2 : Hid _ := HY.out.turn t3 HD.out
                have HB2 : Hid (Below w.heap.size w wx) := hbx
                clear h3 t3 g3 hTx
                have cx2 := later HB2.out hcx
                have cy2 := later HB2.out hcy
                have hTy := take_any HY2.out.sx (HE.out.later HB2.out) oky hsy py (by omega)
                obtain ⟨U1, U2, hTTy⟩ : ∃ a b, takeF s2 py = (a, b) := ⟨_, _, rfl⟩
                rw [hTTy] at hTy
                have htly := (take_ok oky py).2
                rw [hTTy] at htly
                simp only at htly
                have hzy1 : (B o2).size ≤ 100000000 := by rw [B_size]; omega
                have hzy2 : (B U1).size ≤ 100000000 := by rw [B_size]; omega
                have hzy3 : (B f2).size ≤ 100000000 := by rw [B_size]; have := HY.out.len; omega
                have HTY : Hid _ := hTTy
                have hly2 : f2.length + py.length ≤ 2000 := by omega
                have HLY : Hid _ := hly2
                clear hY oky hTTy htly hly2
                go_wp2_with fail
                refine hTy.mono ?_
                rintro e wy ⟨rfl, A4, h4, t4, g4⟩
                have hby : Below w.heap.size w wy := HB2.out.trans (t4.below HB2.out.size (fun k hk e => by have := HY.out.ge k e; omega))
                have HY3 : Hid _ := (HY2.out).step HB2.out.size HLY.out HTY.out h4 g4
                have HX3 : Hid _ := (HX2.out).turn t4 (Dj.symm (HD2.out))
                have HD3 : Hid _ := (Dj.gr (Dj.symm (HD2.out)) g4 (HX2.out).sx.lw).symm
                have HB3 : Hid (Below w.heap.size w wy) := hby
                clear h4 t4 g4 hTy
                have cy3 := later HB3.out hcy
                go_wp2
                go_roundw
                case rel =>
                  have hapx1 := B_app f1 px
                  have hapx2 := B_app o1 T1
                  have hapy1 := B_app f2 py
                  have hapy2 := B_app o2 U1
                  refine ⟨k + 1, f1 ++ px, f2 ++ py, o1 ++ T1, o2 ++ U1, T2, U2, A3, A4, by omega, (by first | rfl | simp), (by first | rfl | rw [hapx1]), (by first | rfl | rw [hapy1]), (by first | rfl | rw [hapx2]), (by first | rfl | rw [hapy2]), HX3.out, HY3.out, HD3.out, HB3.out⟩
                case measure => show 61 - ((k : Int) + 1).toNat < 61 - (k : Int).toNat; omega
            · have hsy3 : ¬ ((f2.length : Int) + (py.length : Int)) ≤ 2000 := by omega
              have hTx := take_any HX.out.sx (HE.out.later HB.out) okx hsx px (by omega)
              obtain ⟨T1, T2, hTTx⟩ : ∃ a b, takeF s1 px = (a, b) := ⟨_, _, rfl⟩
              rw [hTTx] at hTx
              have htlx := (take_ok okx px).2
              rw [hTTx] at htlx
              simp only at htlx
              have hzx1 : (B o1).size ≤ 100000000 := by rw [B_size]; omega
              have hzx2 : (B T1).size ≤ 100000000 := by rw [B_size]; omega
              have hzx3 : (B f1).size ≤ 100000000 := by rw [B_size]; have := HX.out.len; omega
              have HTX : Hid _ := hTTx
              have hlx2 : f1.length + px.length ≤ 2000 := by omega
              have HLX : Hid _ := hlx2
              clear hX okx hTTx htlx hlx2
              go_wp2_with fail
              refine hTx.mono ?_
              rintro e wx ⟨rfl, A3, h3, t3, g3⟩
              have hbx : Below w.heap.size w wx := HB.out.trans (t3.below HB.out.size (fun k hk e => by have := HX.out.ge k e; omega))
              have HX2 : Hid _ := HX.out.step HB.out.size HLX.out HTX.out h3 g3
              have HD2 : Hid _ := Dj.gr HD.out g3 HY.out.sx.lw
              have HY2 : Hid _ := HY.out.turn t3 HD.out
              have HB2 : Hid (Below w.heap.size w wx) := hbx
              clear h3 t3 g3 hTx
              have cx2 := later HB2.out hcx
              have cy2 := later HB2.out hcy
              go_wp2
              go_roundw
              case rel =>
                have hapx1 := B_app f1 px
                have hapx2 := B_app o1 T1
                refine ⟨k + 1, f1 ++ px, f2, o1 ++ T1, o2, T2, s2, A3, A2, by omega, (by first | rfl | simp), (by first | rfl | rw [hapx1]), rfl, (by first | rfl | rw [hapx2]), rfl, HX2.out, HY2.out, HD2.out, HB2.out⟩
              case measure => show 61 - ((k : Int) + 1).toNat < 61 - (k : Int).toNat; omega
          · have hny : ¬ (k : Int) < (nb : Int) := by omega
            have hTx := take_any HX.out.sx (HE.out.later HB.out) okx hsx px (by omega)
            obtain ⟨T1, T2, hTTx⟩ : ∃ a b, takeF s1 px = (a, b) := ⟨_, _, rfl⟩
            rw [hTTx] at hTx
            have htlx := (take_ok okx px).2
            rw [hTTx] at htlx
            simp only at htlx
            have hzx1 : (B o1).size ≤ 100000000 := by rw [B_size]; omega
            have hzx2 : (B T1).size ≤ 100000000 := by rw [B_size]; omega
            have hzx3 : (B f1).size ≤ 100000000 := by rw [B_size]; have := HX.out.len; omega
            have HTX : Hid _ := hTTx
            have hlx2 : f1.length + px.length ≤ 2000 := by omega
            have HLX : Hid _ := hlx2
            clear hX okx hTTx htlx hlx2
            go_wp2_with fail
            refine hTx.mono ?_
            rintro e wx ⟨rfl, A3, h3, t3, g3⟩
            have hbx : Below w.heap.size w wx := HB.out.trans (t3.below HB.out.size (fun k hk e => by have := HX.out.ge k e; omega))
            have HX2 : Hid _ := HX.out.step HB.out.size HLX.out HTX.out h3 g3
            have HD2 : Hid _ := Dj.gr HD.out g3 HY.out.sx.lw
            have HY2 : Hid _ := HY.out.turn t3 HD.out
            have HB2 : Hid (Below w.heap.size w wx) := hbx
            clear h3 t3 g3 hTx
            have cx2 := later HB2.out hcx
            go_wp2
            go_roundw
            case rel =>
              have hapx1 := B_app f1 px
              have hapx2 := B_app o1 T1
              refine ⟨k + 1, f1 ++ px, f2, o1 ++ T1, o2, T2, s2, A3, A2, by omega, (by first | rfl | simp), (by first | rfl | rw [hapx1]), rfl, (by first | rfl | rw [hapx2]), rfl, HX2.out, HY2.out, HD2.out, HB2.out⟩
            case measure => show 61 - ((k : Int) + 1).toNat < 61 - (k : Int).toNat; omega
      · have hsx3 : ¬ ((f1.length : Int) + (px.length : Int)) ≤ 2000 := by omega
        by_cases hky : k < nb
        · have hny : (k : Int) < (nb : Int) := by omega
          obtain ⟨ady, rfl, hcelly⟩ : ∃ x, a1 = some x ∧ ∀ i, i < nb → ∃ s : By, w.cell? (x.add i) = some (.string (B s)) ∧ s.length ≤ 140737488351232 := by
            rcases HA1.out with h | h
            · omega
            · exact h
          obtain ⟨py, hcy, hly⟩ := hcelly k (by omega)
          have cy := later HB.out hcy
          have zy : (B py).size = py.length := B_size _
          clear hcelly
          have zfy : (B f2).size = f2.length := B_size _
          by_cases hsy2 : f2.length + py.length ≤ 2000
          · have hsy3 : ((f2.length : Int) + (py.length : Int)) ≤ 2000 := by omega
            cases hsy : s2.over with
            | true =>
              have hTy := take_end (HY.out.sx.choose_spec.choose_spec) py (by omega) hsy
              clear hY oky
              go_wp2_with fail
              refine hTy.mono ?_
              rintro e wy ⟨rfl, hwy⟩
              rw [hwy]
              clear hwy wy hTy
              go_wp2
              go_roundw
              case rel =>
                refine ⟨k + 1, f1, f2, o1, o2, s1, s2, A1, A2, by omega, (by first | rfl | simp), rfl, rfl, rfl, rfl, HX.out, HY.out, HD.out, HB.out⟩
              case measure => show 61 - ((k : Int) + 1).toNat < 61 - (k : Int).toNat; omega
            | false =>
              have hTy := take_any HY.out.sx (HE.out.later HB.out) oky hsy py (by omega)
              obtain ⟨U1, U2, hTTy⟩ : ∃ a b, takeF s2 py = (a, b) := ⟨_, _, rfl⟩
              rw [hTTy] at hTy
              have htly := (take_ok oky py).2
              rw [hTTy] at htly
              simp only at htly
              have hzy1 : (B o2).size ≤ 100000000 := by rw [B_size]; omega
              have hzy2 : (B U1).size ≤ 100000000 := by rw [B_size]; omega
              have hzy3 : (B f2).size ≤ 100000000 := by rw [B_size]; have := HY.out.len; omega
              have HTY : Hid _ := hTTy
              have hly2 : f2.length + py.length ≤ 2000 := by omega
              have HLY : Hid _ := hly2
              clear hY oky hTTy htly hly2
              go_wp2_with fail
              refine hTy.mono ?_
              rintro e wy ⟨rfl, A4, h4, t4, g4⟩
              have hby : Below w.heap.size w wy := HB.out.trans (t4.below HB.out.size (fun k hk e => by have := HY.out.ge k e; omega))
              have HY3 : Hid _ := (HY.out).step HB.out.size HLY.out HTY.out h4 g4
              have HX3 : Hid _ := (HX.out).turn t4 (Dj.symm (HD.out))
              have HD3 : Hid _ := (Dj.gr (Dj.symm (HD.out)) g4 (HX.out).sx.lw).symm
              have HB3 : Hid (Below w.heap.size w wy) := hby
              clear h4 t4 g4 hTy
              have cy3 := later HB3.out hcy
              go_wp2
              go_roundw
              case rel =>
                have hapy1 := B_app f2 py
                have hapy2 := B_app o2 U1
                refine ⟨k + 1, f1, f2 ++ py, o1, o2 ++ U1, s1, U2, A1, A4, by omega, (by first | rfl | simp), rfl, (by first | rfl | rw [hapy1]), rfl, (by first | rfl | rw [hapy2]), HX3.out, HY3.out, HD3.out, HB3.out⟩
              case measure => show 61 - ((k : Int) + 1).toNat < 61 - (k : Int).toNat; omega
          · have hsy3 : ¬ ((f2.length : Int) + (py.length : Int)) ≤ 2000 := by omega
            go_wp2
            go_roundw
            case rel =>
              refine ⟨k + 1, f1, f2, o1, o2, s1, s2, A1, A2, by omega, (by first | rfl | simp), rfl, rfl, rfl, rfl, HX.out, HY.out, HD.out, HB.out⟩
            case measure => show 61 - ((k : Int) + 1).toNat < 61 - (k : Int).toNat; omega
        · have hny : ¬ (k : Int) < (nb : Int) := by omega
          go_wp2
          go_roundw
          case rel =>
            refine ⟨k + 1, f1, f2, o1, o2, s1, s2, A1, A2, by omega, (by first | rfl | simp), rfl, rfl, rfl, rfl, HX.out, HY.out, HD.out, HB.out⟩
          case measure => show 61 - ((k : Int) + 1).toNat < 61 - (k : Int).toNat; omega
    · have hnx : ¬ (k : Int) < (na : Int) := by omega
      by_cases hky : k < nb
      · have hny : (k : Int) < (nb : Int) := by omega
        obtain ⟨ady, rfl, hcelly⟩ : ∃ x, a1 = some x ∧ ∀ i, i < nb → ∃ s : By, w.cell? (x.add i) = some (.string (B s)) ∧ s.length ≤ 140737488351232 := by
          rcases HA1.out with h | h
          · omega
          · exact h
        obtain ⟨py, hcy, hly⟩ := hcelly k (by omega)
        have cy := later HB.out hcy
        have zy : (B py).size = py.length := B_size _
        clear hcelly
        have zfy : (B f2).size = f2.length := B_size _
        by_cases hsy2 : f2.length + py.length ≤ 2000
        · have hsy3 : ((f2.length : Int) + (py.length : Int)) ≤ 2000 := by omega
          cases hsy : s2.over with
          | true =>
            have hTy := take_end (HY.out.sx.choose_spec.choose_spec) py (by omega) hsy
            clear hY oky
            go_wp2_with fail
            refine hTy.mono ?_
            rintro e wy ⟨rfl, hwy⟩
            rw [hwy]
            clear hwy wy hTy
            go_wp2
            go_roundw
            case rel =>
              refine ⟨k + 1, f1, f2, o1, o2, s1, s2, A1, A2, by omega, (by first | rfl | simp), rfl, rfl, rfl, rfl, HX.out, HY.out, HD.out, HB.out⟩
            case measure => show 61 - ((k : Int) + 1).toNat < 61 - (k : Int).toNat; omega
          | false =>
            have hTy := take_any HY.out.sx (HE.out.later HB.out) oky hsy py (by omega)
            obtain ⟨U1, U2, hTTy⟩ : ∃ a b, takeF s2 py = (a, b) := ⟨_, _, rfl⟩
            rw [hTTy] at hTy
            have htly := (take_ok oky py).2
            rw [hTTy] at htly
            simp only at htly
            have hzy1 : (B o2).size ≤ 100000000 := by rw [B_size]; omega
            have hzy2 : (B U1).size ≤ 100000000 := by rw [B_size]; omega
            have hzy3 : (B f2).size ≤ 100000000 := by rw [B_size]; have := HY.out.len; omega
            have HTY : Hid _ := hTTy
            have hly2 : f2.length + py.length ≤ 2000 := by omega
            have HLY : Hid _ := hly2
            clear hY oky hTTy htly hly2
            go_wp2_with fail
            refine hTy.mono ?_
            rintro e wy ⟨rfl, A4, h4, t4, g4⟩
            have hby : Below w.heap.size w wy := HB.out.trans (t4.below HB.out.size (fun k hk e => by have := HY.out.ge k e; omega))
            have HY3 : Hid _ := (HY.out).step HB.out.size HLY.out HTY.out h4 g4
            have HX3 : Hid _ := (HX.out).turn t4 (Dj.symm (HD.out))
            have HD3 : Hid _ := (Dj.gr (Dj.symm (HD.out)) g4 (HX.out).sx.lw).symm
            have HB3 : Hid (Below w.heap.size w wy) := hby
            clear h4 t4 g4 hTy
            have cy3 := later HB3.out hcy
            go_wp2
            go_roundw
            case rel =>
              have hapy1 := B_app f2 py
              have hapy2 := B_app o2 U1
              refine ⟨k + 1, f1, f2 ++ py, o1, o2 ++ U1, s1, U2, A1, A4, by omega, (by first | rfl | simp), rfl, (by first | rfl | rw [hapy1]), rfl, (by first | rfl | rw [hapy2]), HX3.out, HY3.out, HD3.out, HB3.out⟩
            case measure => show 61 - ((k : Int) + 1).toNat < 61 - (k : Int).toNat; omega
        · have hsy3 : ¬ ((f2.length : Int) + (py.length : Int)) ≤ 2000 := by omega
          go_wp2
          go_roundw
          case rel =>
            refine ⟨k + 1, f1, f2, o1, o2, s1, s2, A1, A2, by omega, (by first | rfl | simp), rfl, rfl, rfl, rfl, HX.out, HY.out, HD.out, HB.out⟩
          case measure => show 61 - ((k : Int) + 1).toNat < 61 - (k : Int).toNat; omega
      · have hny : ¬ (k : Int) < (nb : Int) := by omega
        go_wp2
        go_roundw
        case rel =>
          refine ⟨k + 1, f1, f2, o1, o2, s1, s2, A1, A2, by omega, (by first | rfl | simp), rfl, rfl, rfl, rfl, HX.out, HY.out, HD.out, HB.out⟩
        case measure => show 61 - ((k : Int) + 1).toNat < 61 - (k : Int).toNat; omega
end
end Go.Proofs.YtadmpdeegnppjaaDoor
