/- For all options and all bytes: what is encoded is decoded as it was, with a byte 1 ahead of it, too; what is decoded, encoded and decoded again is the same; and what came in reads as it did. Conditions: the card's own alone (the order of the kinds is what the program's text lays). -/
import Derived.Test.YtacokljohbjnjaaDoorOg
import Derived.Test.YtacokljohbjnjaaDoorOh
import Derived.Test.YtacokljohbjnjaaDoorPb
import Derived.Test.YtacokljohbjnjaaDoorFr
import Derived.Test.YtacokljohbjnjaaDoorTie
import Derived.Test.YtacokljohbjnjaaDoorCards
import Derived.SevenTiedAt
import Derived.Stop.Joined
namespace Go.Proofs.YtacokljohbjnjaaDoor.optsBack
open Go.ChangeShapes Go.WideShapes Go.ChangeAt Go.RowKit
open Go.ChangeMaps (open_string)
set_option linter.unusedVariables false

-- WALK
theorem dec_some (s : ByteArray) (w : World) (hG : Ord w) (hs : s.size ≤ 1125899906842624) (o : Op) (h : decO s.data.toList = some o) : Calls Tryd.prog 20 #[.string s] w fun en w' => ∃ v, en = .returned (.tuple #[.agg #[.int .i64 o.m, .int .i64 o.c, .int .i64 o.t, .int .i64 o.ec, .bool o.sd, .bool o.ok, .bool o.sp, v], .int .i64 0]) ∧ w'.ownsRow w.heap.size 35 2 v o.rs.length (flatR o.rs) ∧ Below w.heap.size w w' := by
  have := dec_any s w hG hs
  rw [h] at this
  exact this
theorem dec_none (s : ByteArray) (w : World) (hG : Ord w) (hs : s.size ≤ 1125899906842624) (h : decO s.data.toList = none) : Calls Tryd.prog 20 #[.string s] w fun en w' => en = .returned (.tuple #[.agg #[.int .i64 0, .int .i64 0, .int .i64 0, .int .i64 0, .bool false, .bool false, .bool false, .slice none 0 0], .int .i64 70]) ∧ Below w.heap.size w w' := by
  have := dec_any s w hG hs
  rw [h] at this
  exact this
set_option maxRecDepth 100000 in
set_option maxHeartbeats 8000000 in
theorem walk (m c t ec : Int) (sd ok sp : Bool) (v : Value) (rs : List (Int × Int)) (s : ByteArray) (w : World) (hG : Ord w) (hv : Rgs w v rs) (hz0 : rs.length * 16 ≤ 140737488351232) (hs : s.size ≤ 140737488351232) :
    Calls Tryd.prog 6 #[.agg #[.int .i64 m, .int .i64 c, .int .i64 t, .int .i64 ec, .bool sd, .bool ok, .bool sp, v], .string s] w fun e w' => e = .returned (.bool true) ∧ Below w.heap.size w w' := by
  obtain ⟨a, cap, e1, -⟩ := id hv
  subst e1
  have hs2 : s.size ≤ 1125899906842624 := by omega
  have HN : Hid (rs.length ≤ 17592186044416) := by show _ ≤ _; omega
  have hA := At.box w #[.int .i64 m, .int .i64 c, .int .i64 t, .int .i64 ec, .bool sd, .bool ok, .bool sp, (.slice a rs.length cap)] 24
  have hl := bel1 w (.cells #[.int .i64 m, .int .i64 c, .int .i64 t, .int .i64 ec, .bool sd, .bool ok, .bool sp, (.slice a rs.length cap)] 24)
  obtain ⟨⟨c0, c1, c2, c3, c4, c5, c6, c7⟩, -, -⟩ := hA.eight
  rcases Bool.eq_false_or_eq_true (mayO m c t ec sd ok sp rs) with hm | hm
  · have hlg := fun W h1 h2 => long_o m c t ec sd ok sp (.slice a rs.length cap) rs W h1 HN.out h2
    rw [hm, if_pos rfl] at hlg
    have hz := encO_size m c t ec sd ok sp rs
    have hgt : longN m sd ok sp rs.length % 4 = 0 := by unfold longN; omega
    have h40 := (mayO_t hm).2.2.2.2.2.2.1
    have HE := fun W h1 h2 => enc_t m c t ec sd ok sp (.slice a rs.length cap) rs W h1 hm h2
    have HD1 := fun W h => dec_some (encO m c t ec sd ok sp rs) W h (by omega) _ (dec_enc m c t ec sd ok sp rs hm)
    have HD2 := fun W h hlt => dec_some (⟨#[1]⟩ ++ encO m c t ec sd ok sp rs) W h (by rw [ByteArray.size_append, hz]; show 1 + _ ≤ _; omega) _ (dec_one_enc m c t ec sd ok sp rs hm hlt)
    rw [← hz] at hlg hgt h40
    have HLG : Hid (∀ W, Rgs W (.slice a rs.length cap) rs → Ord W → Calls Tryd.prog 14 #[.agg #[.int .i64 m, .int .i64 c, .int .i64 t, .int .i64 ec, .bool sd, .bool ok, .bool sp, (.slice a rs.length cap)]] W fun e w' => e = .returned (.int .i64 ((encO m c t ec sd ok sp rs).size : Int)) ∧ Below W.heap.size W w') := hlg
    have HEH : Hid (∀ W, Rgs W (.slice a rs.length cap) rs → Ord W → Calls Tryd.prog 10 #[.agg #[.int .i64 m, .int .i64 c, .int .i64 t, .int .i64 ec, .bool sd, .bool ok, .bool sp, (.slice a rs.length cap)]] W fun e w' => e = .returned (.tuple #[.string (encO m c t ec sd ok sp rs), .int .i64 0]) ∧ Below W.heap.size W w') := HE
    have HD1H : Hid (∀ W, Ord W → Calls Tryd.prog 20 #[.string (encO m c t ec sd ok sp rs)] W fun en w' => ∃ v, en = .returned (.tuple #[.agg #[.int .i64 m, .int .i64 c, .int .i64 t, .int .i64 ec, .bool sd, .bool ok, .bool sp, v], .int .i64 0]) ∧ w'.ownsRow W.heap.size 35 2 v rs.length (flatR rs) ∧ Below W.heap.size W w') := HD1
    have HD2H : Hid (∀ W, Ord W → (encO m c t ec sd ok sp rs).size < 40 → Calls Tryd.prog 20 #[.string (⟨#[1]⟩ ++ encO m c t ec sd ok sp rs)] W fun en w' => ∃ v, en = .returned (.tuple #[.agg #[.int .i64 m, .int .i64 c, .int .i64 t, .int .i64 ec, .bool sd, .bool ok, .bool sp, v], .int .i64 0]) ∧ w'.ownsRow W.heap.size 35 2 v rs.length (flatR rs) ∧ Below W.heap.size W w') := HD2
    clear hlg HE HD1 HD2 hz hm
    generalize encO m c t ec sd ok sp rs = B at *
    have hb4 : (B.size : Int) % 4 = 0 := by omega
    have hb40 : (B.size : Int) ≤ 40 := by omega
    have hb0 : (0 : Int) ≤ (B.size : Int) := by omega
    have r1 : ∀ W, (Op.stringOp .add ⟨#[1]⟩ B).run Tryd.prog W = .ok (.string (⟨#[1]⟩ ++ B)) W := fun W => run_string_add_sum W _ _ (by show 1 + _ ≤ _; omega)
    clear hgt
    go_enter Tryd.func6, Tryd.ntmps6
    go_wp2_with fail
    refine (works_any _ (hG.later hl)).mono ?_
    rintro en w1 ⟨rfl, hb⟩
    replace hl := bt hl hb
    replace hA := hA.later hb
    clear hb c0 c1 c2 c3 c4 c5 c6 c7
    obtain ⟨⟨c0, c1, c2, c3, c4, c5, c6, c7⟩, -, -⟩ := hA.eight
    go_wp2_with fail
    refine (HEH.out _ (hv.later hl) (hG.later hl)).mono ?_
    rintro en w2 ⟨rfl, hb⟩
    replace hl := bt hl hb
    replace hA := hA.later hb
    clear hb c0 c1 c2 c3 c4 c5 c6 c7
    obtain ⟨⟨c0, c1, c2, c3, c4, c5, c6, c7⟩, -, -⟩ := hA.eight
    go_wp2_with fail
    refine (HD1H.out _ (hG.later hl)).mono ?_
    rintro en w3 ⟨v3, rfl, ho, hb⟩
    obtain ⟨a3, cap3, hvv, -, -⟩ := own_slice ho
    have hvv' : v3 = .slice a3 rs.length cap3 := hvv
    subst hvv'
    have hrx : Rgs w3 (.slice a3 rs.length cap3) rs := Rgs.of_own ho
    have hbx := bel1 w3 (.cells #[.int .i64 m, .int .i64 c, .int .i64 t, .int .i64 ec, .bool sd, .bool ok, .bool sp, (.slice a3 rs.length cap3)] 24)
    have hX := At.box w3 #[.int .i64 m, .int .i64 c, .int .i64 t, .int .i64 ec, .bool sd, .bool ok, .bool sp, (.slice a3 rs.length cap3)] 24
    obtain ⟨⟨d0, d1, d2, d3, d4, d5, d6, d7⟩, -, -⟩ := hX.eight
    replace hl := bt (bt hl hb) hbx
    replace hA := hA.later (bt hb hbx)
    have hsm := same_any m c t ec sd ok sp (.slice a3 rs.length cap3) rs m c t ec sd ok sp (.slice a rs.length cap) rs _ (hrx.later hbx) (hv.later hl) HN.out HN.out
    rw [sameO_self] at hsm
    clear hb c0 c1 c2 c3 c4 c5 c6 c7 ho hvv hrx hbx hX
    obtain ⟨⟨c0, c1, c2, c3, c4, c5, c6, c7⟩, -, -⟩ := hA.eight
    go_wp2_with fail
    refine hsm.mono ?_
    rintro en w3s ⟨rfl, hb⟩
    clear hsm d0 d1 d2 d3 d4 d5 d6 d7
    replace hl := bt hl hb
    replace hA := hA.later hb
    clear hb c0 c1 c2 c3 c4 c5 c6 c7
    obtain ⟨⟨c0, c1, c2, c3, c4, c5, c6, c7⟩, -, -⟩ := hA.eight
    go_wp2_with fail
    refine (HLG.out _ (hv.later hl) (hG.later hl)).mono ?_
    rintro en w4 ⟨rfl, hb⟩
    replace hl := bt hl hb
    replace hA := hA.later hb
    clear hb c0 c1 c2 c3 c4 c5 c6 c7
    obtain ⟨⟨c0, c1, c2, c3, c4, c5, c6, c7⟩, -, -⟩ := hA.eight
    by_cases hlt : B.size < 40
    · have hlt' : (B.size : Int) < 40 := by omega
      go_wp2_with fail
      refine (HD2H.out _ (hG.later hl) hlt).mono ?_
      rintro en w5 ⟨v5, rfl, ho, hb⟩
      obtain ⟨a5, cap5, hvv, -, -⟩ := own_slice ho
      have hvv' : v5 = .slice a5 rs.length cap5 := hvv
      subst hvv'
      have hrx : Rgs w5 (.slice a5 rs.length cap5) rs := Rgs.of_own ho
      have hbx := bel1 w5 (.cells #[.int .i64 m, .int .i64 c, .int .i64 t, .int .i64 ec, .bool sd, .bool ok, .bool sp, (.slice a5 rs.length cap5)] 24)
      have hX := At.box w5 #[.int .i64 m, .int .i64 c, .int .i64 t, .int .i64 ec, .bool sd, .bool ok, .bool sp, (.slice a5 rs.length cap5)] 24
      obtain ⟨⟨d0, d1, d2, d3, d4, d5, d6, d7⟩, -, -⟩ := hX.eight
      replace hl := bt (bt hl hb) hbx
      replace hA := hA.later (bt hb hbx)
      have hsm := same_any m c t ec sd ok sp (.slice a5 rs.length cap5) rs m c t ec sd ok sp (.slice a rs.length cap) rs _ (hrx.later hbx) (hv.later hl) HN.out HN.out
      rw [sameO_self] at hsm
      clear hb c0 c1 c2 c3 c4 c5 c6 c7 ho hvv hrx hbx hX
      obtain ⟨⟨c0, c1, c2, c3, c4, c5, c6, c7⟩, -, -⟩ := hA.eight
      go_wp2_with fail
      refine hsm.mono ?_
      rintro en w5s ⟨rfl, hb⟩
      clear hsm d0 d1 d2 d3 d4 d5 d6 d7
      replace hl := bt hl hb
      replace hA := hA.later hb
      clear hb c0 c1 c2 c3 c4 c5 c6 c7
      obtain ⟨⟨c0, c1, c2, c3, c4, c5, c6, c7⟩, -, -⟩ := hA.eight
      rcases hdec : decO s.data.toList with _ | X
      · go_wp2_with fail
        refine (dec_none s _ (hG.later hl) hs2 hdec).mono ?_
        rintro en wz ⟨rfl, hb⟩
        have hbx := bel1 wz (.cells #[.int .i64 0, .int .i64 0, .int .i64 0, .int .i64 0, .bool false, .bool false, .bool false, .slice none 0 0] 24)
        obtain ⟨⟨d0, d1, d2, d3, d4, d5, d6, d7⟩, -, -⟩ := (At.box wz #[.int .i64 0, .int .i64 0, .int .i64 0, .int .i64 0, .bool false, .bool false, .bool false, .slice none 0 0] 24).eight
        have hsm := same_any 0 0 0 0 false false false (.slice none 0 0) [] 0 0 0 0 false false false (.slice none 0 0) [] (wz.alloc (.cells #[.int .i64 0, .int .i64 0, .int .i64 0, .int .i64 0, .bool false, .bool false, .bool false, .slice none 0 0] 24)) (Rgs.nil _) (Rgs.nil _) (by decide) (by decide)
        rw [sameO_self] at hsm
        replace hl := bt (bt hl hb) hbx
        clear hb hbx c0 c1 c2 c3 c4 c5 c6 c7 hA
        go_wp2_with fail
        refine hsm.mono ?_
        rintro en wy ⟨rfl, hb⟩
        go_wp2
        go_ret
        exact ⟨rfl, bt hl hb⟩
      · have hmX := decO_may hdec
        obtain ⟨m', c', t', ec', sd', ok', sp', rs'⟩ := X
        have hmX' : mayO m' c' t' ec' sd' ok' sp' rs' = true := hmX
        have hnX := mayO_short hmX'
        go_wp2_with fail
        refine (dec_some s _ (hG.later hl) hs2 _ hdec).mono ?_
        rintro en wx ⟨vx, rfl, ho, hb⟩
        obtain ⟨ax, capx, hvv, -, -⟩ := own_slice ho
        have hvv' : vx = .slice ax rs'.length capx := hvv
        subst hvv'
        have hrx : Rgs wx (.slice ax rs'.length capx) rs' := Rgs.of_own ho
        have hbx := bel1 wx (.cells #[.int .i64 m', .int .i64 c', .int .i64 t', .int .i64 ec', .bool sd', .bool ok', .bool sp', (.slice ax rs'.length capx)] 24)
        have hX := At.box wx #[.int .i64 m', .int .i64 c', .int .i64 t', .int .i64 ec', .bool sd', .bool ok', .bool sp', (.slice ax rs'.length capx)] 24
        obtain ⟨⟨d0, d1, d2, d3, d4, d5, d6, d7⟩, -, -⟩ := hX.eight
        replace hl := bt (bt hl hb) hbx
        replace hrx := hrx.later hbx
        clear hb c0 c1 c2 c3 c4 c5 c6 c7 ho hvv hbx hA hdec
        go_wp2_with fail
        refine (enc_t m' c' t' ec' sd' ok' sp' _ rs' _ hrx hmX' (hG.later hl)).mono ?_
        rintro en wp ⟨rfl, hb⟩
        replace hl := bt hl hb
        replace hX := hX.later hb
        replace hrx := hrx.later hb
        clear hb d0 d1 d2 d3 d4 d5 d6 d7
        obtain ⟨⟨d0, d1, d2, d3, d4, d5, d6, d7⟩, -, -⟩ := hX.eight
        have hz := encO_size m' c' t' ec' sd' ok' sp' rs'
        have h40 := (mayO_t hmX').2.2.2.2.2.2.1
        have hd2 := fun W h => dec_some (encO m' c' t' ec' sd' ok' sp' rs') W h (by omega) _ (dec_enc m' c' t' ec' sd' ok' sp' rs' hmX')
        have HD2 : Hid (∀ W, Ord W → _) := hd2
        clear hd2
        generalize encO m' c' t' ec' sd' ok' sp' rs' = EB at *
        have hzi : (EB.size : Int) ≤ 40 := by omega
        clear hz
        go_wp2_with fail
        refine (HD2.out _ (hG.later hl)).mono ?_
        rintro en wq ⟨vq, rfl, ho, hb⟩
        obtain ⟨aq, capq, hvv, -, -⟩ := own_slice ho
        have hvv' : vq = .slice aq rs'.length capq := hvv
        subst hvv'
        have hrq : Rgs wq (.slice aq rs'.length capq) rs' := Rgs.of_own ho
        have hbq := bel1 wq (.cells #[.int .i64 m', .int .i64 c', .int .i64 t', .int .i64 ec', .bool sd', .bool ok', .bool sp', (.slice aq rs'.length capq)] 24)
        have hY := At.box wq #[.int .i64 m', .int .i64 c', .int .i64 t', .int .i64 ec', .bool sd', .bool ok', .bool sp', (.slice aq rs'.length capq)] 24
        obtain ⟨⟨e0, e1, e2, e3, e4, e5, e6, e7⟩, -, -⟩ := hY.eight
        replace hl := bt (bt hl hb) hbq
        replace hX := hX.later (bt hb hbq)
        have hsm := same_any m' c' t' ec' sd' ok' sp' (.slice ax rs'.length capx) rs' m' c' t' ec' sd' ok' sp' (.slice aq rs'.length capq) rs' _ (hrx.later (bt hb hbq)) (hrq.later hbq) (by omega) (by omega)
        rw [sameO_self] at hsm
        clear hb d0 d1 d2 d3 d4 d5 d6 d7 ho hvv hrq hbq
        obtain ⟨⟨d0, d1, d2, d3, d4, d5, d6, d7⟩, -, -⟩ := hX.eight
        go_wp2_with fail
        refine hsm.mono ?_
        rintro en wr ⟨rfl, hb⟩
        go_wp2
        go_ret
        exact ⟨rfl, bt hl hb⟩
    · have hlt' : ¬ (B.size : Int) < 40 := by omega
      rcases hdec : decO s.data.toList with _ | X
      · go_wp2_with fail
        refine (dec_none s _ (hG.later hl) hs2 hdec).mono ?_
        rintro en wz ⟨rfl, hb⟩
        have hbx := bel1 wz (.cells #[.int .i64 0, .int .i64 0, .int .i64 0, .int .i64 0, .bool false, .bool false, .bool false, .slice none 0 0] 24)
        obtain ⟨⟨d0, d1, d2, d3, d4, d5, d6, d7⟩, -, -⟩ := (At.box wz #[.int .i64 0, .int .i64 0, .int .i64 0, .int .i64 0, .bool false, .bool false, .bool false, .slice none 0 0] 24).eight
        have hsm := same_any 0 0 0 0 false false false (.slice none 0 0) [] 0 0 0 0 false false false (.slice none 0 0) [] (wz.alloc (.cells #[.int .i64 0, .int .i64 0, .int .i64 0, .int .i64 0, .bool false, .bool false, .bool false, .slice none 0 0] 24)) (Rgs.nil _) (Rgs.nil _) (by decide) (by decide)
        rw [sameO_self] at hsm
        replace hl := bt (bt hl hb) hbx
        clear hb hbx c0 c1 c2 c3 c4 c5 c6 c7 hA
        go_wp2_with fail
        refine hsm.mono ?_
        rintro en wy ⟨rfl, hb⟩
        go_wp2
        go_ret
        exact ⟨rfl, bt hl hb⟩
      · have hmX := decO_may hdec
        obtain ⟨m', c', t', ec', sd', ok', sp', rs'⟩ := X
        have hmX' : mayO m' c' t' ec' sd' ok' sp' rs' = true := hmX
        have hnX := mayO_short hmX'
        go_wp2_with fail
        refine (dec_some s _ (hG.later hl) hs2 _ hdec).mono ?_
        rintro en wx ⟨vx, rfl, ho, hb⟩
        obtain ⟨ax, capx, hvv, -, -⟩ := own_slice ho
        have hvv' : vx = .slice ax rs'.length capx := hvv
        subst hvv'
        have hrx : Rgs wx (.slice ax rs'.length capx) rs' := Rgs.of_own ho
        have hbx := bel1 wx (.cells #[.int .i64 m', .int .i64 c', .int .i64 t', .int .i64 ec', .bool sd', .bool ok', .bool sp', (.slice ax rs'.length capx)] 24)
        have hX := At.box wx #[.int .i64 m', .int .i64 c', .int .i64 t', .int .i64 ec', .bool sd', .bool ok', .bool sp', (.slice ax rs'.length capx)] 24
        obtain ⟨⟨d0, d1, d2, d3, d4, d5, d6, d7⟩, -, -⟩ := hX.eight
        replace hl := bt (bt hl hb) hbx
        replace hrx := hrx.later hbx
        clear hb c0 c1 c2 c3 c4 c5 c6 c7 ho hvv hbx hA hdec
        go_wp2_with fail
        refine (enc_t m' c' t' ec' sd' ok' sp' _ rs' _ hrx hmX' (hG.later hl)).mono ?_
        rintro en wp ⟨rfl, hb⟩
        replace hl := bt hl hb
        replace hX := hX.later hb
        replace hrx := hrx.later hb
        clear hb d0 d1 d2 d3 d4 d5 d6 d7
        obtain ⟨⟨d0, d1, d2, d3, d4, d5, d6, d7⟩, -, -⟩ := hX.eight
        have hz := encO_size m' c' t' ec' sd' ok' sp' rs'
        have h40 := (mayO_t hmX').2.2.2.2.2.2.1
        have hd2 := fun W h => dec_some (encO m' c' t' ec' sd' ok' sp' rs') W h (by omega) _ (dec_enc m' c' t' ec' sd' ok' sp' rs' hmX')
        have HD2 : Hid (∀ W, Ord W → _) := hd2
        clear hd2
        generalize encO m' c' t' ec' sd' ok' sp' rs' = EB at *
        have hzi : (EB.size : Int) ≤ 40 := by omega
        clear hz
        go_wp2_with fail
        refine (HD2.out _ (hG.later hl)).mono ?_
        rintro en wq ⟨vq, rfl, ho, hb⟩
        obtain ⟨aq, capq, hvv, -, -⟩ := own_slice ho
        have hvv' : vq = .slice aq rs'.length capq := hvv
        subst hvv'
        have hrq : Rgs wq (.slice aq rs'.length capq) rs' := Rgs.of_own ho
        have hbq := bel1 wq (.cells #[.int .i64 m', .int .i64 c', .int .i64 t', .int .i64 ec', .bool sd', .bool ok', .bool sp', (.slice aq rs'.length capq)] 24)
        have hY := At.box wq #[.int .i64 m', .int .i64 c', .int .i64 t', .int .i64 ec', .bool sd', .bool ok', .bool sp', (.slice aq rs'.length capq)] 24
        obtain ⟨⟨e0, e1, e2, e3, e4, e5, e6, e7⟩, -, -⟩ := hY.eight
        replace hl := bt (bt hl hb) hbq
        replace hX := hX.later (bt hb hbq)
        have hsm := same_any m' c' t' ec' sd' ok' sp' (.slice ax rs'.length capx) rs' m' c' t' ec' sd' ok' sp' (.slice aq rs'.length capq) rs' _ (hrx.later (bt hb hbq)) (hrq.later hbq) (by omega) (by omega)
        rw [sameO_self] at hsm
        clear hb d0 d1 d2 d3 d4 d5 d6 d7 ho hvv hrq hbq
        obtain ⟨⟨d0, d1, d2, d3, d4, d5, d6, d7⟩, -, -⟩ := hX.eight
        go_wp2_with fail
        refine hsm.mono ?_
        rintro en wr ⟨rfl, hb⟩
        go_wp2
        go_ret
        exact ⟨rfl, bt hl hb⟩
  · have HE := fun W h1 h2 => enc_f m c t ec sd ok sp (.slice a rs.length cap) rs W h1 HN.out hm h2
    have HEH : Hid (∀ W, Rgs W (.slice a rs.length cap) rs → Ord W → Calls Tryd.prog 10 #[.agg #[.int .i64 m, .int .i64 c, .int .i64 t, .int .i64 ec, .bool sd, .bool ok, .bool sp, (.slice a rs.length cap)]] W fun e w' => e = .returned (.tuple #[.string ⟨#[]⟩, .int .i64 70]) ∧ Below W.heap.size W w') := HE
    clear HE hm
    go_enter Tryd.func6, Tryd.ntmps6
    go_wp2_with fail
    refine (works_any _ (hG.later hl)).mono ?_
    rintro en w1 ⟨rfl, hb⟩
    replace hl := bt hl hb
    replace hA := hA.later hb
    clear hb c0 c1 c2 c3 c4 c5 c6 c7
    obtain ⟨⟨c0, c1, c2, c3, c4, c5, c6, c7⟩, -, -⟩ := hA.eight
    go_wp2_with fail
    refine (HEH.out _ (hv.later hl) (hG.later hl)).mono ?_
    rintro en w2 ⟨rfl, hb⟩
    replace hl := bt hl hb
    replace hA := hA.later hb
    clear hb c0 c1 c2 c3 c4 c5 c6 c7
    obtain ⟨⟨c0, c1, c2, c3, c4, c5, c6, c7⟩, -, -⟩ := hA.eight
    rcases hdec : decO s.data.toList with _ | X
    · go_wp2_with fail
      refine (dec_none s _ (hG.later hl) hs2 hdec).mono ?_
      rintro en wz ⟨rfl, hb⟩
      have hbx := bel1 wz (.cells #[.int .i64 0, .int .i64 0, .int .i64 0, .int .i64 0, .bool false, .bool false, .bool false, .slice none 0 0] 24)
      obtain ⟨⟨d0, d1, d2, d3, d4, d5, d6, d7⟩, -, -⟩ := (At.box wz #[.int .i64 0, .int .i64 0, .int .i64 0, .int .i64 0, .bool false, .bool false, .bool false, .slice none 0 0] 24).eight
      have hsm := same_any 0 0 0 0 false false false (.slice none 0 0) [] 0 0 0 0 false false false (.slice none 0 0) [] (wz.alloc (.cells #[.int .i64 0, .int .i64 0, .int .i64 0, .int .i64 0, .bool false, .bool false, .bool false, .slice none 0 0] 24)) (Rgs.nil _) (Rgs.nil _) (by decide) (by decide)
      rw [sameO_self] at hsm
      replace hl := bt (bt hl hb) hbx
      clear hb hbx c0 c1 c2 c3 c4 c5 c6 c7 hA
      go_wp2_with fail
      refine hsm.mono ?_
      rintro en wy ⟨rfl, hb⟩
      go_wp2
      go_ret
      exact ⟨rfl, bt hl hb⟩
    · have hmX := decO_may hdec
      obtain ⟨m', c', t', ec', sd', ok', sp', rs'⟩ := X
      have hmX' : mayO m' c' t' ec' sd' ok' sp' rs' = true := hmX
      have hnX := mayO_short hmX'
      go_wp2_with fail
      refine (dec_some s _ (hG.later hl) hs2 _ hdec).mono ?_
      rintro en wx ⟨vx, rfl, ho, hb⟩
      obtain ⟨ax, capx, hvv, -, -⟩ := own_slice ho
      have hvv' : vx = .slice ax rs'.length capx := hvv
      subst hvv'
      have hrx : Rgs wx (.slice ax rs'.length capx) rs' := Rgs.of_own ho
      have hbx := bel1 wx (.cells #[.int .i64 m', .int .i64 c', .int .i64 t', .int .i64 ec', .bool sd', .bool ok', .bool sp', (.slice ax rs'.length capx)] 24)
      have hX := At.box wx #[.int .i64 m', .int .i64 c', .int .i64 t', .int .i64 ec', .bool sd', .bool ok', .bool sp', (.slice ax rs'.length capx)] 24
      obtain ⟨⟨d0, d1, d2, d3, d4, d5, d6, d7⟩, -, -⟩ := hX.eight
      replace hl := bt (bt hl hb) hbx
      replace hrx := hrx.later hbx
      clear hb c0 c1 c2 c3 c4 c5 c6 c7 ho hvv hbx hA hdec
      go_wp2_with fail
      refine (enc_t m' c' t' ec' sd' ok' sp' _ rs' _ hrx hmX' (hG.later hl)).mono ?_
      rintro en wp ⟨rfl, hb⟩
      replace hl := bt hl hb
      replace hX := hX.later hb
      replace hrx := hrx.later hb
      clear hb d0 d1 d2 d3 d4 d5 d6 d7
      obtain ⟨⟨d0, d1, d2, d3, d4, d5, d6, d7⟩, -, -⟩ := hX.eight
      have hz := encO_size m' c' t' ec' sd' ok' sp' rs'
      have h40 := (mayO_t hmX').2.2.2.2.2.2.1
      have hd2 := fun W h => dec_some (encO m' c' t' ec' sd' ok' sp' rs') W h (by omega) _ (dec_enc m' c' t' ec' sd' ok' sp' rs' hmX')
      have HD2 : Hid (∀ W, Ord W → _) := hd2
      clear hd2
      generalize encO m' c' t' ec' sd' ok' sp' rs' = EB at *
      have hzi : (EB.size : Int) ≤ 40 := by omega
      clear hz
      go_wp2_with fail
      refine (HD2.out _ (hG.later hl)).mono ?_
      rintro en wq ⟨vq, rfl, ho, hb⟩
      obtain ⟨aq, capq, hvv, -, -⟩ := own_slice ho
      have hvv' : vq = .slice aq rs'.length capq := hvv
      subst hvv'
      have hrq : Rgs wq (.slice aq rs'.length capq) rs' := Rgs.of_own ho
      have hbq := bel1 wq (.cells #[.int .i64 m', .int .i64 c', .int .i64 t', .int .i64 ec', .bool sd', .bool ok', .bool sp', (.slice aq rs'.length capq)] 24)
      have hY := At.box wq #[.int .i64 m', .int .i64 c', .int .i64 t', .int .i64 ec', .bool sd', .bool ok', .bool sp', (.slice aq rs'.length capq)] 24
      obtain ⟨⟨e0, e1, e2, e3, e4, e5, e6, e7⟩, -, -⟩ := hY.eight
      replace hl := bt (bt hl hb) hbq
      replace hX := hX.later (bt hb hbq)
      have hsm := same_any m' c' t' ec' sd' ok' sp' (.slice ax rs'.length capx) rs' m' c' t' ec' sd' ok' sp' (.slice aq rs'.length capq) rs' _ (hrx.later (bt hb hbq)) (hrq.later hbq) (by omega) (by omega)
      rw [sameO_self] at hsm
      clear hb d0 d1 d2 d3 d4 d5 d6 d7 ho hvv hrq hbq
      obtain ⟨⟨d0, d1, d2, d3, d4, d5, d6, d7⟩, -, -⟩ := hX.eight
      go_wp2_with fail
      refine hsm.mono ?_
      rintro en wr ⟨rfl, hb⟩
      go_wp2
      go_ret
      exact ⟨rfl, bt hl hb⟩

set_option maxRecDepth 100000 in
theorem lifted (os : Os) (started : os.Started) (H : Type) (enc : TypeId × Value → H) :
    ReturnsInHanded {} Tryd.checked os 6 .any (fun w args => (Rows.optsBackSpec.pre enc Tryd.prog Tryd.f6 [] false w args ∧ laidMetH Tryd.prog laidL w) ∧ sizedMet enc Tryd.prog Tryd.f6 (OpenSpec.ofChange Rows.optsBackSpec) false w args)
      (Rows.optsBackSpec.post enc Tryd.prog Tryd.f6 false true false false) := by
  refine returnsInHanded_of_change_and (C := Tryd.checked) (X := fun w _ => laidMetH Tryd.prog laidL w) (fun _ _ _ hh h => h.of_heap hh) ownK started (by kernel_rfl) Tryd.func6
    (ChangeSpec.witness_shaped (enc := enc) (C := Tryd.checked) (os := os) (X := fun w _ => laidMetH Tryd.prog laidL w) false (World.doorLaid Tryd.prog 400 os) #[.agg #[.int .i64 0, .int .i64 0, .int .i64 0, .int .i64 0, .bool false, .bool false, .bool false, .slice none 0 0], .string ByteArray.empty] 8 rfl (World.shaped_of_RefB (by kernel_rfl) (by kernel_rfl)) (by kernel_rfl) (by kernel_rfl) (by kernel_rfl) (door_met os _)) ?_
  intro W base args ds gs before hval0 hW hcnd hsz0 hL _
  have hG := ord_of hL
  have hsz : (DataW.weightsEach Tryd.prog (Tryd.f6.params.toList ++ Rows.optsBackSpec.plain.varTypes Tryd.prog) (ds ++ gs)).all (· ≤ reachBytes) = true := hsz0
  have hval : ∀ (j : Nat) t v, Tryd.f6.params[j]? = some t → args[j]? = some v → Value.okWide Tryd.prog W .any base t v := hval0
  have hW' := hW
  obtain ⟨p, q, hA0, hV, rfl, hfz, hnd⟩ := hW
  have hA : DataW.TrodAll enc Tryd.prog W 0 (fun _ => true) true Tryd.f6.params.toList args.toList ds p := hA0
  rw [Tryd.params6] at hA hval hsz
  obtain ⟨v0, vs0, d0, ds0, p0, q0, hargs, rfl, rfl, h0, r0⟩ := trodAll_cons hA
  obtain ⟨v1, vs1, d1, ds1, p1, q1, rfl, rfl, rfl, h1, r1⟩ := trodAll_cons r0
  obtain ⟨rfl, rfl, rfl⟩ := trodAll_nil r1
  obtain rfl : args = #[v0, v1] := by cases args; simp_all
  obtain ⟨rfl, rfl⟩ := trodVars_none hV
  have k0 := h0
  have lt0 : ∀ x ∈ p0, x.block < W.heap.size := by obtain ⟨m, hm⟩ := k0; exact DataW.trod_lt m _ _ _ hm
  have k1 := h1
  have lt1 : ∀ x ∈ p1, x.block < W.heap.size := by obtain ⟨m, hm⟩ := k1; exact DataW.trod_lt m _ _ _ hm
  obtain ⟨m0, c0, t0, ec0, sd0, ok0, sp0, u0, rs0, parts0, rfl, hdp0, hr0, hw0⟩ := open24 (hval 0 24 v0 rfl rfl) h0
  have z0 : rs0.length * 16 ≤ 140737488351232 := sized_24 hsz (j := 0) rfl (by rw [hdp0]; rfl) hw0
  obtain ⟨a1, rfl, e1, -, w1⟩ := open_string Tryd.underlying9 (hval 1 9 v1 rfl rfl) h1
  have z1 : a1.size ≤ 140737488351232 := by
    have := sized_string hsz (j := 1) (t := 9) rfl (by rw [e1]; rfl)
    simp only [reachBytes] at this
    simpa using this
  clear hA0 hval0
  refine (walk m0 c0 t0 ec0 sd0 ok0 sp0 u0 rs0 a1 W hG hr0 z0 z1).mono fun e W' ⟨he, bel⟩ => ?_
  subst he
  exact ⟨_, rfl, _, _, _, [], _, [], hW', trodAll_mk1 (shut_bool Tryd.underlying4 _), (trodAll_cons_mk (Below.trod laidOutK (by kernel_rfl) (of_decide_eq_true (by kernel_rfl)) k0 bel lt0) (trodAll_cons_mk (Below.trod laidOutK (by kernel_rfl) (of_decide_eq_true (by kernel_rfl)) k1 bel lt1) trodAll_mk0)), rfl, bel.frame _, fun h => by cases h⟩

theorem over : Rows.optsBackRow.holds Tryd.pinned (OpenSpec.ofChange Rows.optsBackSpec) :=
  OpenClaim.holds_of_wide 6 Tryd.f6 rfl rfl rfl rfl rfl rfl rfl ⟨rfl, rfl, rfl, rfl, rfl⟩ rfl rfl rfl rfl rfl (by kernel_rfl) Tryd.func6 (by kernel_rfl)
    (of_decide_eq_true (by kernel_rfl)) (by unfold Func.isWrapper; first | (rw [if_pos (by decide +kernel)]; kernel_rfl) | (rw [if_neg (by decide +kernel)]; exact ⟨rfl, rfl⟩))
    (fun os started H enc _ => lifted os started H enc)

end Go.Proofs.YtacokljohbjnjaaDoor.optsBack
namespace Go.Proofs.YtacokljohbjnjaaDoor
open Go
theorem optsBack_card_holds : Rows.OptsBackCardSaid :=
  Claim7.holds_tied_plain_at .later [] [.data] true (true, "b329e8443bf405fc7ec9c7f296bf5b15ced440c224d2249f857770d22ce70a43") false
    optsBack.over (fun _ h => by cases h) (by kernel_rfl) (fun _ h => by cases h) optsBack_row_tie rfl ⟨rfl, rfl⟩ (by kernel_rfl) rfl
    (fun f fn hf hfn => by
      obtain rfl : f = 6 := Option.some.inj ((show Tryd.prog.funcNamed "sternpost/sternpostlaw07.OptsBack" = some 6 by kernel_rfl).symm.trans hf) |>.symm
      obtain rfl : fn = Tryd.f6 := (Option.some.inj (Tryd.func6.symm.trans hfn)).symm
      exact ⟨by kernel_rfl, fun j t ht => by
        rw [Tryd.params6] at ht
        have hm : t ∈ [24, 9] := by simpa using Array.mem_of_getElem? ht
        have hall : ([24, 9].all fun u => !Tryd.prog.wantsStandIn u) = true := by kernel_rfl
        exact (show Tryd.prog.wantsStandIn t = false by simpa using List.all_eq_true.1 hall t hm)⟩)
    (by kernel_rfl)
end Go.Proofs.YtacokljohbjnjaaDoor
