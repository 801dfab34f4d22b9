/- The contracts of the document's Encode, Long and Fit of layer 7: each returns just the value named here; nothing that was there turns. -/
import Derived.Test.YtecoknenkjgmjaaDoorRb
import Derived.Test.YtecoknenkjgmjaaDoorOj
import Derived.Deep.LoopGhost
namespace Go.Proofs.YtecoknenkjgmjaaDoor
open Go.RowKit

theorem renc_t (m c t ec : Int) (sd ok sp : Bool) (v : Value) (rs : List (Int × Int)) (w : World) (hv : Rgs w v rs) (hm : mayO m c t ec sd ok sp rs = true) :
    Calls Tryd.prog 11 #[.agg #[.int .i64 m, .int .i64 c, .int .i64 t, .int .i64 ec, .bool sd, .bool ok, .bool sp, v]] w fun e w' => e = .returned (.tuple #[.string (encO m c t ec sd ok sp rs), .int .i64 0]) ∧ Below w.heap.size w w' := by
  have hn4 := mayO_short hm
  obtain ⟨⟨c0, c1, c2, c3, c4, c5, c6, c7⟩, -, -⟩ := (At.box w #[.int .i64 m, .int .i64 c, .int .i64 t, .int .i64 ec, .bool sd, .bool ok, .bool sp, v] 24).eight
  have hl := bel1 w (.cells #[.int .i64 m, .int .i64 c, .int .i64 t, .int .i64 ec, .bool sd, .bool ok, .bool sp, v] 24)
  have HC : Hid (∀ W, Rgs W v rs → Calls Tryd.prog 13 #[.agg #[.int .i64 m, .int .i64 c, .int .i64 t, .int .i64 ec, .bool sd, .bool ok, .bool sp, v]] W fun e w' => e = .returned (.int .i64 0) ∧ Below W.heap.size W w') := fun W h => by
    have := rcheck_o m c t ec sd ok sp v rs W h (by omega)
    rw [hm, codeO_t] at this; exact this
  have hA := At.box w #[.int .i64 m, .int .i64 c, .int .i64 t, .int .i64 ec, .bool sd, .bool ok, .bool sp, v] 24
  clear hm
  go_enter Tryd.func11, Tryd.ntmps11
  go_wp2_with fail
  refine (HC.out _ (hv.later hl)).mono ?_
  rintro e wa ⟨rfl, hb⟩
  replace hl := bt hl hb
  replace hA := hA.later hb
  clear c0 c1 c2 c3 c4 c5 c6 c7 hb
  obtain ⟨⟨c0, c1, c2, c3, c4, c5, c6, c7⟩, -, -⟩ := hA.eight
  go_wp2_with fail
  refine (rbytes_any m c t ec sd ok sp v rs _ (hv.later hl) hn4).mono ?_
  rintro e wb ⟨rfl, hb⟩
  go_wp2
  go_ret2
  exact ⟨rfl, bt hl hb⟩
theorem renc_f (m c t ec : Int) (sd ok sp : Bool) (v : Value) (rs : List (Int × Int)) (w : World) (hv : Rgs w v rs) (hn : rs.length ≤ 17592186044416) (hm : mayO m c t ec sd ok sp rs = false) :
    Calls Tryd.prog 11 #[.agg #[.int .i64 m, .int .i64 c, .int .i64 t, .int .i64 ec, .bool sd, .bool ok, .bool sp, v]] w fun e w' => e = .returned (.tuple #[.string ⟨#[]⟩, .int .i64 70]) ∧ Below w.heap.size w w' := by
  obtain ⟨⟨c0, c1, c2, c3, c4, c5, c6, c7⟩, -, -⟩ := (At.box w #[.int .i64 m, .int .i64 c, .int .i64 t, .int .i64 ec, .bool sd, .bool ok, .bool sp, v] 24).eight
  have hl := bel1 w (.cells #[.int .i64 m, .int .i64 c, .int .i64 t, .int .i64 ec, .bool sd, .bool ok, .bool sp, v] 24)
  have hM := rcheck_o m c t ec sd ok sp v rs _ (hv.later hl) hn
  rw [hm, codeO_f] at hM
  go_enter Tryd.func11, Tryd.ntmps11
  go_wp2_with fail
  refine hM.mono ?_
  rintro e wa ⟨rfl, hb⟩
  go_wp2
  go_ret2
  exact ⟨rfl, bt hl hb⟩
theorem rlong_t (m c t ec : Int) (sd ok sp : Bool) (v : Value) (rs : List (Int × Int)) (w : World) (hv : Rgs w v rs) (hm : mayO m c t ec sd ok sp rs = true) :
    Calls Tryd.prog 15 #[.agg #[.int .i64 m, .int .i64 c, .int .i64 t, .int .i64 ec, .bool sd, .bool ok, .bool sp, v]] w fun e w' => e = .returned (.int .i64 (longN m sd ok sp rs.length : Int)) ∧ Below w.heap.size w w' := by
  obtain ⟨⟨c0, c1, c2, c3, c4, c5, c6, c7⟩, -, -⟩ := (At.box w #[.int .i64 m, .int .i64 c, .int .i64 t, .int .i64 ec, .bool sd, .bool ok, .bool sp, v] 24).eight
  have hl := bel1 w (.cells #[.int .i64 m, .int .i64 c, .int .i64 t, .int .i64 ec, .bool sd, .bool ok, .bool sp, v] 24)
  have hM := renc_t m c t ec sd ok sp v rs _ (hv.later hl) hm
  have hz := encO_size m c t ec sd ok sp rs
  generalize encO m c t ec sd ok sp rs = E at *
  generalize longN m sd ok sp rs.length = LL at *
  subst hz
  clear hm
  go_enter Tryd.func15, Tryd.ntmps15
  go_wp2_with fail
  refine hM.mono ?_
  rintro e wa ⟨rfl, hb⟩
  go_wp2
  go_ret
  exact ⟨rfl, bt hl hb⟩
theorem rlong_f (m c t ec : Int) (sd ok sp : Bool) (v : Value) (rs : List (Int × Int)) (w : World) (hv : Rgs w v rs) (hn : rs.length ≤ 17592186044416) (hm : mayO m c t ec sd ok sp rs = false) :
    Calls Tryd.prog 15 #[.agg #[.int .i64 m, .int .i64 c, .int .i64 t, .int .i64 ec, .bool sd, .bool ok, .bool sp, v]] w fun e w' => e = .returned (.int .i64 0) ∧ Below w.heap.size w w' := by
  obtain ⟨⟨c0, c1, c2, c3, c4, c5, c6, c7⟩, -, -⟩ := (At.box w #[.int .i64 m, .int .i64 c, .int .i64 t, .int .i64 ec, .bool sd, .bool ok, .bool sp, v] 24).eight
  have hl := bel1 w (.cells #[.int .i64 m, .int .i64 c, .int .i64 t, .int .i64 ec, .bool sd, .bool ok, .bool sp, v] 24)
  have hM := renc_f m c t ec sd ok sp v rs _ (hv.later hl) hn hm
  clear hm
  go_enter Tryd.func15, Tryd.ntmps15
  go_wp2_with fail
  refine hM.mono ?_
  rintro e wa ⟨rfl, hb⟩
  go_wp2
  go_ret
  exact ⟨rfl, bt hl hb⟩
/-- A row of ranges that lies above a place. -/
def RgA (base : Nat) (W : World) (v : Value) (rs : List (Int × Int)) : Prop :=
  ∃ (a : Option Addr) (cap : Nat), v = .slice a rs.length cap ∧ (rs.length ≤ cap ∧ (a = none → cap = 0)) ∧ (rs = [] ∨ ∃ b off, base ≤ b ∧ a = some ⟨b, off, none⟩ ∧ ∀ j r, rs[j]? = some r → W.cell? ⟨b, off + j * 2, none⟩ = some (.int .i64 r.1) ∧ W.cell? ⟨b, off + j * 2 + 1, none⟩ = some (.int .i64 r.2))
theorem RgA.rgs {base : Nat} {W : World} {v : Value} {rs : List (Int × Int)} (h : RgA base W v rs) : Rgs W v rs := by
  obtain ⟨a, cap, hv, hc, h⟩ := h
  refine ⟨a, cap, hv, hc, ?_⟩
  rcases h with h | ⟨b, off, -, ha, hx⟩
  · exact .inl h
  · exact .inr ⟨b, off, ha, hx⟩
theorem RgA.later {base : Nat} {w x : World} {v : Value} {rs : List (Int × Int)} (h : RgA base w v rs) (hb : Below w.heap.size w x) : RgA base x v rs := by
  obtain ⟨a, cap, hv, hc, h⟩ := h
  refine ⟨a, cap, hv, hc, ?_⟩
  rcases h with h | ⟨b, off, hbb, ha, hx⟩
  · exact .inl h
  · exact .inr ⟨b, off, hbb, ha, fun j r hr => ⟨YtecoknenkjgmjaaDoor.later hb (hx j r hr).1, YtecoknenkjgmjaaDoor.later hb (hx j r hr).2⟩⟩
theorem RgA.set {base : Nat} {w : World} {v : Value} {rs : List (Int × Int)} (h : RgA base w v rs) (c i : Nat) (u : Value) (hc : c < base) : RgA base (w.setCell ⟨c, i, none⟩ u) v rs := by
  obtain ⟨a, cap, hv, hcc, h⟩ := h
  refine ⟨a, cap, hv, hcc, ?_⟩
  rcases h with h | ⟨b, off, hbb, ha, hx⟩
  · exact .inl h
  · exact .inr ⟨b, off, hbb, ha, fun j r hr => ⟨(World.cell?_setCell_other _ _ _ _ (by intro q; cases q; omega)).trans (hx j r hr).1, (World.cell?_setCell_other _ _ _ _ (by intro q; cases q; omega)).trans (hx j r hr).2⟩⟩
theorem RgA.set8 {base : Nat} {w : World} {v : Value} {rs : List (Int × Int)} (h : RgA base w v rs) (c : Nat) (hc : c < base) (u0 u1 u2 u3 u4 u5 u6 u7 : Value) : RgA base ((((((((w.setCell ⟨c, 0, none⟩ u0).setCell ⟨c, 1, none⟩ u1).setCell ⟨c, 2, none⟩ u2).setCell ⟨c, 3, none⟩ u3).setCell ⟨c, 4, none⟩ u4).setCell ⟨c, 5, none⟩ u5).setCell ⟨c, 6, none⟩ u6).setCell ⟨c, 7, none⟩ u7) v rs :=
  (((((((h.set c 0 u0 hc).set c 1 u1 hc).set c 2 u2 hc).set c 3 u3 hc).set c 4 u4 hc).set c 5 u5 hc).set c 6 u6 hc).set c 7 u7 hc
theorem RgA.take {base : Nat} {w : World} {a : Option Addr} {n cap : Nat} {rs : List (Int × Int)} (h : RgA base w (.slice a n cap) rs) (k : Nat) (hk : k ≤ rs.length) : RgA base w (.slice a k cap) (rs.take k) := by
  obtain ⟨a', cap', hv, hc, h⟩ := h
  cases hv
  have hl : (rs.take k).length = k := by rw [List.length_take]; omega
  refine ⟨a, cap, by rw [hl], ⟨by have := hc.1; omega, hc.2⟩, ?_⟩
  rcases h with rfl | ⟨b, off, hbb, ha, hx⟩
  · exact .inl (by simp)
  · exact .inr ⟨b, off, hbb, ha, fun j r hr => hx j r (by rw [List.getElem?_take] at hr; split at hr <;> simp_all)⟩
theorem RgA.of_own {w : World} {base : Nat} {v : Value} {rs : List (Int × Int)} (h : w.ownsRow base 35 2 v rs.length (flatR rs)) : RgA base w v rs := by
  rcases h.2 with ⟨rfl, h0⟩ | ⟨g, cap, cur, rfl, hg, -, hn, -⟩
  · rw [List.eq_nil_of_length_eq_zero h0]; exact ⟨none, 0, rfl, ⟨Nat.le_refl _, fun _ => rfl⟩, .inl rfl⟩
  · refine ⟨some ⟨g, 0, none⟩, cap, rfl, ⟨hn, fun h => by cases h⟩, .inr ⟨g, 0, hg, rfl, fun j r hr => ?_⟩⟩
    have hj := (List.getElem?_eq_some_iff.1 hr).1
    obtain ⟨r1, r2⟩ := flatR_at rs j r hr
    rw [Nat.zero_add]
    exact ⟨(h.cellAt (j * 2) (by omega)).trans r1, (h.cellAt (j * 2 + 1) (by omega)).trans r2⟩
set_option maxRecDepth 100000 in
set_option maxHeartbeats 4000000 in
theorem rfit_t (m c t ec : Int) (sd ok sp : Bool) (v : Value) (rs : List (Int × Int)) (most : Int) (w : World) (hv : Rgs w v rs) (hm : mayO m c t ec sd ok sp rs = true) :
    Calls Tryd.prog 19 #[.agg #[.int .i64 m, .int .i64 c, .int .i64 t, .int .i64 ec, .bool sd, .bool ok, .bool sp, v], .int .i64 most] w fun en w' => ∃ v', en = .returned (.agg #[.int .i64 m, .int .i64 c, .int .i64 t, .int .i64 ec, .bool sd, .bool ok, .bool sp, v']) ∧ Rgs w' v' (rs.take (fitN m sd ok sp most rs.length)) ∧ Below w.heap.size w w' := by
  obtain ⟨i0, hi, hz0, hz1, hz2⟩ := info_parts Tryd.info35
  have HI : Hid (Tryd.prog.info? 35 = some i0 ∧ i0.zero = some (.agg #[.int .i64 0, .int .i64 0]) ∧ i0.size = 2 ∧ i0.bytes = 16) := ⟨hi, hz0, hz1, hz2⟩
  clear hi hz0 hz1 hz2
  have hn4 := mayO_short hm
  obtain ⟨x, cap, hvx, hc, -⟩ := id hv
  subst hvx
  have hb1 := bel1 w (.cells #[.int .i64 m, .int .i64 c, .int .i64 t, .int .i64 ec, .bool sd, .bool ok, .bool sp, (.slice x rs.length cap)] 24)
  have hb2 := bel1 (w.alloc (.cells #[.int .i64 m, .int .i64 c, .int .i64 t, .int .i64 ec, .bool sd, .bool ok, .bool sp, (.slice x rs.length cap)] 24)) (.cells #[.int .i64 0, .int .i64 0, .int .i64 0, .int .i64 0, .bool false, .bool false, .bool false, .slice none 0 0] 24)
  have hA := (At.box w #[.int .i64 m, .int .i64 c, .int .i64 t, .int .i64 ec, .bool sd, .bool ok, .bool sp, (.slice x rs.length cap)] 24).later hb2
  have hR := At.box2 w (.cells #[.int .i64 m, .int .i64 c, .int .i64 t, .int .i64 ec, .bool sd, .bool ok, .bool sp, (.slice x rs.length cap)] 24) #[.int .i64 0, .int .i64 0, .int .i64 0, .int .i64 0, .bool false, .bool false, .bool false, .slice none 0 0] 24
  have hl := bt hb1 hb2
  have hsz : w.heap.size + 2 ≤ ((w.alloc (.cells #[.int .i64 m, .int .i64 c, .int .i64 t, .int .i64 ec, .bool sd, .bool ok, .bool sp, (.slice x rs.length cap)] 24)).alloc (.cells #[.int .i64 0, .int .i64 0, .int .i64 0, .int .i64 0, .bool false, .bool false, .bool false, .slice none 0 0] 24)).heap.size := by simp
  have HC : Hid (∀ W, Rgs W (.slice x rs.length cap) rs → Calls Tryd.prog 13 #[.agg #[.int .i64 m, .int .i64 c, .int .i64 t, .int .i64 ec, .bool sd, .bool ok, .bool sp, (.slice x rs.length cap)]] W fun e w' => e = .returned (.int .i64 0) ∧ Below W.heap.size W w') := fun W h => by
    have := rcheck_o m c t ec sd ok sp _ rs W h (by omega)
    rw [hm, codeO_t] at this; exact this
  have HBY : Hid (∀ W u k, k ≤ rs.length → Rgs W u (rs.take k) → Calls Tryd.prog 30 #[.agg #[.int .i64 m, .int .i64 c, .int .i64 t, .int .i64 ec, .bool sd, .bool ok, .bool sp, u]] W fun e w' => (∃ E : ByteArray, e = .returned (.string E) ∧ E.size = longN m sd ok sp k) ∧ Below W.heap.size W w') := fun W u k hk h => by
    have hlk : (rs.take k).length = k := by rw [List.length_take]; omega
    refine (rbytes_any m c t ec sd ok sp u (rs.take k) W h (by omega)).mono ?_
    rintro e w' ⟨rfl, hb⟩
    exact ⟨⟨_, rfl, by rw [encO_size, hlk]⟩, hb⟩
  have HV : Hid (Rgs w (.slice x rs.length cap) rs) := hv
  obtain ⟨⟨c0, c1, c2, c3, c4, c5, c6, c7⟩, -, -⟩ := hA.eight
  clear hm
  go_enter Tryd.func19, Tryd.ntmps19
  go_wp2_with fail
  refine (HC.out _ (hv.later hl)).mono ?_
  rintro en w1 ⟨rfl, hb⟩
  have hv1 := (hv.later hl).later hb
  replace hl := bt hl hb
  replace hA := hA.later hb
  replace hR := hR.later hb
  replace hsz := Nat.le_trans hsz hb.size
  clear c0 c1 c2 c3 c4 c5 c6 c7 hb hb1 hb2
  go_upto_region 3 with fail
  go_cut [1] from 9 (fun s W => s = .int .i64 most ∧ ∃ (a : Option Addr) (cap : Nat), At W w.heap.size #[.int .i64 m, .int .i64 c, .int .i64 t, .int .i64 ec, .bool sd, .bool ok, .bool sp, (.slice a rs.length cap)] ∧ At W (w.heap.size + 1) #[.int .i64 0, .int .i64 0, .int .i64 0, .int .i64 0, .bool false, .bool false, .bool false, .slice none 0 0] ∧ RgA (w.heap.size + 2) W (.slice a rs.length cap) rs ∧ Below w.heap.size w W ∧ w.heap.size + 2 ≤ W.heap.size)
  case first =>
    clear HC HBY HV
    have hb3 := bel1 w1 (.cells #[] 35)
    have hA3 := hA.later hb3
    have hR3 := hR.later hb3
    have hB := bt hl hb3
    have hown : (w1.alloc (.cells #[] 35)).ownsRow (w.heap.size + 2) 35 2 (.slice (some ⟨w1.heap.size, 0, none⟩) 0 0) 0 [] := by
      have := World.ownsRow_lit (base := w.heap.size + 2) (e := 35) (size := 2) w1 #[] 0 hsz (Nat.zero_le _) rfl
      simpa using this
    have hsz3 : w.heap.size + 2 ≤ (w1.alloc (.cells #[] 35)).heap.size := by simp; omega
    obtain ⟨hAc, hAf, -⟩ := hA3.eight
    cases x with
    | none =>
      obtain rfl : cap = 0 := hc.2 rfl
      have hr0 : rs = [] := by
        obtain ⟨a', cap', e, -, h⟩ := hv1
        simp only [Value.slice.injEq] at e
        obtain ⟨rfl, -, -⟩ := e
        rcases h with h | ⟨b, off, h, -⟩
        · exact h
        · cases h
      subst hr0
      have HO : Hid ((w1.alloc (.cells #[] 35)).ownsRow (w.heap.size + 2) 35 2 (.slice (some ⟨w1.heap.size, 0, none⟩) 0 0) 0 []) := hown
      go_wp2_with (first | (at_builtin; refine wpList_append_own_none rfl _ _ 22 rfl (w.heap.size + 2) 35 i0 2 Tryd.underlying22 HI.out.1 _ _ _ rfl hown rfl ?_))
      go_wp2
      go_meet
      case rel => exact ⟨rfl, some ⟨w1.heap.size, 0, none⟩, 0, hA3.set 7 _, hR3.keep (by omega) 7 _, RgA.of_own (own_setCell HO.out w.heap.size 7 _ (by omega)), hB.setCell (Nat.le_refl _) _, by rw [World.size_setCell]; exact hsz3⟩
    | some x =>
      have HNW : Hid (∀ j u, (flatR rs)[j]? = some u → (w1.alloc (.cells #[] 35)).cell? (x.add j) = some u) := fun j u hu => by
        obtain ⟨a', cap', e, -, h⟩ := hv1
        simp only [Value.slice.injEq] at e
        obtain ⟨rfl, -, -⟩ := e
        exact later hb3 (news_of rfl h j u hu)
      go_wp2_with (first | (at_builtin; refine wpList_append_own _ rfl _ _ 22 rfl (w.heap.size + 2) 35 i0 (.agg #[.int .i64 0, .int .i64 0]) 2 16 Tryd.underlying22 HI.out.1 HI.out.2.1 HI.out.2.2.1 HI.out.2.2.2 rfl (by decide) _ _ _ rfl hown x rs.length cap (flatR rs) rfl (flatR_len rs) HNW.out (flatR_one rs) ?c3 ?c4 ?c5 ?_))
      case c3 => unfold maxLen; omega
      case c4 => omega
      case c5 => exact hsz3
      intro v' w3 hown2 hgrow hn
      replace hown2 : w3.ownsRow (w.heap.size + 2) 35 2 v' rs.length (flatR rs) := by simpa using hown2
      have hbl : Below (w.heap.size + 2) (w1.alloc (.cells #[] 35)) w3 := (Below.refl _ _).grown hgrow hsz3 (fun k e => by simp [Value.ownBlock] at e; omega)
      have hA1 := hA3.below hbl (by omega)
      have hR1 := hR3.below hbl (by omega)
      have hBw : Below w.heap.size w w3 := hB.trans (hbl.mono (by omega))
      have hsz4 : w.heap.size + 2 ≤ w3.heap.size := Nat.le_trans hsz3 hbl.size
      rcases hown2.2 with ⟨h, _⟩ | ⟨g, cap', cur, rfl, hg, -⟩
      · exact absurd h hn
      clear hgrow hn hown hA hR hAc hAf hA3 hR3 HNW
      obtain ⟨⟨c0, c1, c2, c3, c4, c5, c6, c7⟩, ⟨f0, f1, f2, f3, f4, f5, f6, f7⟩, -⟩ := hA1.eight
      have HO : Hid (w3.ownsRow (w.heap.size + 2) 35 2 (.slice (some ⟨g, 0, none⟩) rs.length cap') rs.length (flatR rs)) := hown2
      clear hown2
      go_wp2
      go_meet
      case rel => exact ⟨rfl, some ⟨g, 0, none⟩, cap', hA1.set 7 _, hR1.keep (by omega) 7 _, RgA.of_own (own_setCell HO.out w.heap.size 7 _ (by omega)), hBw.setCell (Nat.le_refl _) _, by rw [World.size_setCell]; exact hsz4⟩
  case rest =>
  clear hA hR hl hsz hv1 HI
  obtain ⟨rfl, a, cap2, hA, hR, hRg, hl, hsz⟩ := hcut
  clear hc HV hv HC
  obtain ⟨⟨c0, c1, c2, c3, c4, c5, c6, c7⟩, -, -⟩ := hA.eight
  have HST : Hid (At wc w.heap.size #[.int .i64 m, .int .i64 c, .int .i64 t, .int .i64 ec, .bool sd, .bool ok, .bool sp, (.slice a rs.length cap2)] ∧ At wc (w.heap.size + 1) #[.int .i64 0, .int .i64 0, .int .i64 0, .int .i64 0, .bool false, .bool false, .bool false, .slice none 0 0] ∧ RgA (w.heap.size + 2) wc (.slice a rs.length cap2) rs ∧ Below w.heap.size w wc ∧ w.heap.size + 2 ≤ wc.heap.size) := ⟨hA, hR, hRg, hl, hsz⟩
  clear hA hR hRg hl hsz
  go_wp2_with fail
  clear c0 c1 c2 c3 c4 c5 c6 c7
  go_loopg [14] rs.length (fun k s W => k ≤ rs.length ∧ fitN m sd ok sp most k = fitN m sd ok sp most rs.length ∧ Below w.heap.size w W ∧ w.heap.size + 2 ≤ W.heap.size ∧ At W w.heap.size #[.int .i64 m, .int .i64 c, .int .i64 t, .int .i64 ec, .bool sd, .bool ok, .bool sp, (.slice a k cap2)] ∧ At W (w.heap.size + 1) #[.int .i64 0, .int .i64 0, .int .i64 0, .int .i64 0, .bool false, .bool false, .bool false, .slice none 0 0] ∧ RgA (w.heap.size + 2) W (.slice a rs.length cap2) rs)
  case atStart => exact ⟨Nat.le_refl _, rfl, HST.out.2.2.2.1, HST.out.2.2.2.2, HST.out.1, HST.out.2.1, HST.out.2.2.1⟩
  case round =>
    clear HST
    obtain ⟨hk, hfit, hbl, hsz, hA, hR, hRg⟩ := hrel
    generalize gk = k at *
    have HF : Hid (fitN m sd ok sp most k = fitN m sd ok sp most rs.length) := hfit
    clear hfit
    obtain ⟨⟨c0, c1, c2, c3, c4, c5, c6, c7⟩, ⟨f0, f1, f2, f3, f4, f5, f6, f7⟩, -⟩ := hA.eight
    have hk' : (k : Int) ≤ (rs.length : Int) := by omega
    have hk4 : (k : Int) ≤ 4 := by omega
    by_cases hk0 : k = 0
    · subst hk0
      clear hk' hk4 HBY
      obtain ⟨⟨r0, r1, r2, r3, r4, r5, r6, r7⟩, ⟨g0, g1, g2, g3, g4, g5, g6, g7⟩, -⟩ := hR.eight
      go_wp2
      exact bodyPost_ret (v := .agg #[.int .i64 m, .int .i64 c, .int .i64 t, .int .i64 ec, .bool sd, .bool ok, .bool sp, (.slice a 0 cap2)]) (by simp [results, Tryd.results19, go_sem, r0, r1, r2, r3, r4, r5, r6, r7]) rfl ⟨_, rfl, by rw [← HF.out, fitN_stop m sd ok sp most 0 (.inl rfl)]; exact ((hRg.take (0) hk).set8 (w.heap.size + 1) (by omega) _ _ _ _ _ _ _ _).rgs, below8 hbl (by omega) _ _ _ _ _ _ _ _⟩
    · obtain ⟨j, rfl⟩ : ∃ j, k = j + 1 := ⟨k - 1, by omega⟩
      have hj : (0 : Int) ≤ (j : Int) := by omega
      obtain ⟨b, off, hax, hcap⟩ : ∃ b off, a = some ⟨b, off, none⟩ ∧ rs.length ≤ cap2 := by
        obtain ⟨a', cap', e, hcc, h⟩ := hRg
        simp only [Value.slice.injEq] at e
        obtain ⟨rfl, -, rfl⟩ := e
        rcases h with h | ⟨b, off, -, h, -⟩
        · rw [h] at hk; simp at hk
        · exact ⟨b, off, h, hcc.1⟩
      subst hax
      have hcap' : ((j : Int) + 1) ≤ (cap2 : Int) := by omega
      have HBJ : Hid (∀ W, Rgs W (.slice (some ⟨b, off, none⟩) (j + 1) cap2) (rs.take (j + 1)) → Calls Tryd.prog 30 #[.agg #[.int .i64 m, .int .i64 c, .int .i64 t, .int .i64 ec, .bool sd, .bool ok, .bool sp, (.slice (some ⟨b, off, none⟩) (j + 1) cap2)]] W fun e w' => (∃ E : ByteArray, e = .returned (.string E) ∧ E.size = longN m sd ok sp (j + 1)) ∧ Below W.heap.size W w') := fun W h => HBY.out W _ (j + 1) hk h
      clear HBY
      go_wp2_with fail
      refine (HBJ.out _ (hRg.take (j + 1) hk).rgs).mono ?_
      rintro en w2 ⟨⟨E, rfl, hE⟩, hb⟩
      clear HBJ
      replace hbl := bt hbl hb
      replace hsz := Nat.le_trans hsz hb.size
      replace hA := hA.later hb
      replace hR := hR.later hb
      replace hRg := hRg.later hb
      clear c0 c1 c2 c3 c4 c5 c6 c7 f0 f1 f2 f3 f4 f5 f6 f7 hb
      obtain ⟨⟨c0, c1, c2, c3, c4, c5, c6, c7⟩, ⟨f0, f1, f2, f3, f4, f5, f6, f7⟩, -⟩ := hA.eight
      by_cases hlm : (longN m sd ok sp (j + 1) : Int) ≤ most
      · have HST : Hid (fitN m sd ok sp most (j + 1) = j + 1) := fitN_stop m sd ok sp most (j + 1) (.inr hlm)
        have hEm : ¬ most < (E.size : Int) := by omega
        clear hE hlm
        obtain ⟨⟨r0, r1, r2, r3, r4, r5, r6, r7⟩, ⟨g0, g1, g2, g3, g4, g5, g6, g7⟩, -⟩ := hR.eight
        go_wp2
        exact bodyPost_ret (v := .agg #[.int .i64 m, .int .i64 c, .int .i64 t, .int .i64 ec, .bool sd, .bool ok, .bool sp, (.slice (some ⟨b, off, none⟩) (j + 1) cap2)]) (by simp [results, Tryd.results19, go_sem, r0, r1, r2, r3, r4, r5, r6, r7]) rfl ⟨_, rfl, by rw [← HF.out, HST.out]; exact ((hRg.take (j + 1) hk).set8 (w.heap.size + 1) (by omega) _ _ _ _ _ _ _ _).rgs, below8 hbl (by omega) _ _ _ _ _ _ _ _⟩
      · have HST : Hid (fitN m sd ok sp most (j + 1) = fitN m sd ok sp most j) := fitN_on m sd ok sp most j hlm
        have hEm : most < (E.size : Int) := by omega
        clear hE hlm
        go_wp2
        go_roundg j
        case measure => omega
        case rel => exact ⟨by omega, by rw [← HST.out, HF.out], hbl.setCell (Nat.le_refl _) _, by rw [World.size_setCell]; exact hsz, hA.set 7 _, hR.keep (by omega) 7 _, hRg.set _ _ _ (by omega)⟩
theorem rfit_f (m c t ec : Int) (sd ok sp : Bool) (v : Value) (rs : List (Int × Int)) (most : Int) (w : World) (hv : Rgs w v rs) (hn : rs.length ≤ 17592186044416) (hm : mayO m c t ec sd ok sp rs = false) :
    Calls Tryd.prog 19 #[.agg #[.int .i64 m, .int .i64 c, .int .i64 t, .int .i64 ec, .bool sd, .bool ok, .bool sp, v], .int .i64 most] w fun en w' => en = .returned (.agg #[.int .i64 0, .int .i64 0, .int .i64 0, .int .i64 0, .bool false, .bool false, .bool false, .slice none 0 0]) ∧ Below w.heap.size w w' := by
  have hb1 := bel1 w (.cells #[.int .i64 m, .int .i64 c, .int .i64 t, .int .i64 ec, .bool sd, .bool ok, .bool sp, v] 24)
  have hb2 := bel1 (w.alloc (.cells #[.int .i64 m, .int .i64 c, .int .i64 t, .int .i64 ec, .bool sd, .bool ok, .bool sp, v] 24)) (.cells #[.int .i64 0, .int .i64 0, .int .i64 0, .int .i64 0, .bool false, .bool false, .bool false, .slice none 0 0] 24)
  have hA := (At.box w #[.int .i64 m, .int .i64 c, .int .i64 t, .int .i64 ec, .bool sd, .bool ok, .bool sp, v] 24).later hb2
  have hR := At.box2 w (.cells #[.int .i64 m, .int .i64 c, .int .i64 t, .int .i64 ec, .bool sd, .bool ok, .bool sp, v] 24) #[.int .i64 0, .int .i64 0, .int .i64 0, .int .i64 0, .bool false, .bool false, .bool false, .slice none 0 0] 24
  have hl := bt hb1 hb2
  have hM := rcheck_o m c t ec sd ok sp v rs _ (hv.later hl) hn
  rw [hm, codeO_f] at hM
  obtain ⟨⟨c0, c1, c2, c3, c4, c5, c6, c7⟩, -, -⟩ := hA.eight
  go_enter Tryd.func19, Tryd.ntmps19
  go_wp2_with fail
  refine hM.mono ?_
  rintro e w1 ⟨rfl, hb⟩
  replace hR := hR.later hb
  obtain ⟨⟨r0, r1, r2, r3, r4, r5, r6, r7⟩, ⟨g0, g1, g2, g3, g4, g5, g6, g7⟩, -⟩ := hR.eight
  clear c0 c1 c2 c3 c4 c5 c6 c7 hb1 hb2 hA
  go_wp2
  exact bodyPost_ret (v := .agg #[.int .i64 0, .int .i64 0, .int .i64 0, .int .i64 0, .bool false, .bool false, .bool false, .slice none 0 0]) (by simp [results, Tryd.results19, go_sem, r0, r1, r2, r3, r4, r5, r6, r7]) rfl ⟨rfl, below8 (bt hl hb) (by omega) _ _ _ _ _ _ _ _⟩
end Go.Proofs.YtecoknenkjgmjaaDoor
