/- SendqStream: the walk. -/
import Derived.Test.YtlbdecjppgjdiaaQl
import Derived.Test.YtlbdecjppgjdiaaFlat
namespace Go.Proofs.Ytlbdecjppgjdiaa
open Go.RowKit Go.Maps Go.Lib
set_option maxRecDepth 100000
set_option linter.unusedVariables false
set_option linter.unusedSimpArgs false


/-- What the walk keeps: the queue, the strings. -/
structure ST (w : World) (R : Nat) (fi : Int) (W : List UInt8) (S A : Nat) (ws ss : ByteArray) : Prop where
  x : ∃ vb vp, QX w R R (Qs fi W S A) vb vp
  s : SS W S A
  ew : ws = strB W
  es : ss = strB (W.take S)
set_option maxHeartbeats 4000000 in
theorem stream_any (first : Int) (a : Option Addr) (n cap : Nat) (w : World) (hr : Flat.Rows w a n 4 [.s, .i, .i, .i]) (hz : n < 1000000000000000) :
    Calls Try.prog 4 #[.int .i64 first, .slice a n cap] w fun e w' => e = .returned (.bool true) ∧ Below w.heap.size w w' := by
  have HA : Hid (Flat.Rows w a n 4 [.s, .i, .i, .i]) := hr
  clear hr
  have mixed : Try.prog.follows .mixedOrders = true := by kernel_rfl
  go_enter Try.func4, Try.ntmps4
  go_wp2_with fail
  refine (works_any w).mono ?_
  rintro e w1 ⟨rfl, hb1⟩
  go_wp2_with fail
  refine (among_any first 4294967296 w1 (by decide) (by decide)).mono ?_
  rintro e w2 ⟨rfl, rfl⟩
  go_wp2_with fail
  obtain ⟨fi, hfi⟩ : ∃ x, x = first % 4294967296 := ⟨_, rfl⟩
  have hf0 : 0 ≤ fi ∧ fi ≤ 4294967295 := by rw [hfi]; exact mod_rng2 _
  rw [← hfi]
  clear hfi
  refine (new_t fi 1000 w2 hf0.1 hf0.2 (by decide) (by decide)).mono ?_
  rintro e w3 ⟨rfl, hX3, hb3⟩
  have hbw := bt hb1 hb3
  have hR3 : w2.heap.size ≤ w3.heap.size := hb3.size
  have hwR : w.heap.size ≤ w2.heap.size := hb1.size
  generalize hz2 : w2.heap.size = R at *
  have HS3 : Hid (ST w3 R fi [] 0 0 ⟨#[]⟩ ⟨#[]⟩) := ⟨⟨_, _, hX3.eq (by show (⟨1000, fi, 0, [], []⟩ : Qu) = ⟨1000, (fi + ((0 : Nat) : Int)) % 4294967296, 0, [], []⟩; rw [show (fi + ((0 : Nat) : Int)) % 4294967296 = fi by omega])⟩, ⟨Nat.le_refl _, Nat.le_refl _, Nat.zero_le _⟩, rfl, rfl⟩
  have HB3 : Hid (Below w.heap.size w w3) := hbw
  clear hz2 hb3 hX3 hbw hb1
  go_wp2
  go_loopw [7, 8, 9, 10] (fun s7 s8 s9 s10 wr => ∃ (k : Nat) (W : List UInt8) (S A : Nat) (ws ss : ByteArray), s7 = .string ws ∧ s8 = .string ss ∧ s9 = .int .i64 (A : Int) ∧ s10 = .int .i64 (k : Int) ∧ k ≤ n ∧ k ≤ 40 ∧ W.length ≤ k * 500 ∧ Hid (ST wr R fi W S A ws ss) ∧ Hid (Below w.heap.size w wr) ∧ R ≤ wr.heap.size) (fun _ _ _ s10 _ => n - (intOf s10).toNat)
  case atStart => exact ⟨0, [], 0, 0, _, _, rfl, rfl, rfl, rfl, Nat.zero_le _, by decide, Nat.le_refl _, HS3, HB3, hR3⟩
  case round =>
    clear HS3 HB3 hR3
    obtain ⟨k, W, S, A, ws, ss, rfl, rfl, rfl, rfl, hkn, hk40, hWk, HS, HB, hRr⟩ := hrel
    by_cases hlt : k < n ∧ k < 40
    rotate_left
    · -- @2
      by_cases hkn' : (k : Int) < (n : Int)
      · have hk40' : ¬ (k : Int) < 40 := by omega
        go_wp2
        go_ret
        exact ⟨rfl, HB.out⟩
      · go_wp2
        go_ret
        exact ⟨rfl, HB.out⟩
      -- @/2
    obtain ⟨ab, off, rfl, hrow⟩ : ∃ b off, a = some ⟨b, off, none⟩ ∧ ∀ k, k < n → ∃ cs : List Value, Flat.Ok [.s, .i, .i, .i] cs ∧ ∀ j v, cs[j]? = some v → w.cell? ⟨b, off + k * 4 + j, none⟩ = some v := by
      rcases HA.out with h | h
      · omega
      · exact h
    obtain ⟨cs, ⟨hcl, hck⟩, hcc⟩ := hrow k hlt.1
    clear hrow
    match cs, hcl with
    | [v0, v1, v2, v3], _ =>
    obtain ⟨t, rfl, wt⟩ := hck 0 _ _ rfl rfl
    obtain ⟨xw, rfl, wxw⟩ := hck 1 _ _ rfl rfl
    obtain ⟨xm, rfl, wxm⟩ := hck 2 _ _ rfl rfl
    obtain ⟨xa, rfl, wxa⟩ := hck 3 _ _ rfl rfl
    have x0 := later HB.out (hcc 0 _ rfl)
    have x1 := later HB.out (hcc 1 _ rfl)
    have x2 := later HB.out (hcc 2 _ rfl)
    have x3 := later HB.out (hcc 3 _ rfl)
    rw [Nat.add_zero] at x0
    clear hcc hck
    have hk1 : (k : Int) < (n : Int) := by omega
    have hk2 : (k : Int) < 40 := by omega
    have hk3 : (0 : Int) ≤ (k : Int) := by omega
    have q1 := bel1 wr (.cells #[.string t, .int .i64 xw, .int .i64 xm, .int .i64 xa] 51)
    have hGo := At.box wr #[.string t, .int .i64 xw, .int .i64 xm, .int .i64 xa] 51
    have hGk := Kd.box wr #[.string t, .int .i64 xw, .int .i64 xm, .int .i64 xa] 51
    by_cases hbig : 500 < t.size
    · -- @3
      have hbI : (500 : Int) < (t.size : Int) := by omega
      obtain ⟨⟨vb, vp, hX⟩, hs, ew, es⟩ := HS.out
      go_wp2
      go_roundw
      case rel => exact ⟨k + 1, W, S, A, ws, ss, rfl, rfl, rfl, by first | rfl | simp, by omega, by omega, by omega, ⟨⟨vb, vp, hX.later q1⟩, hs, ew, es⟩, bt HB.out q1, Nat.le_trans hRr q1.size⟩
      case measure => simp [intOf]; omega
      -- @/3
    have hbI : ¬ (500 : Int) < (t.size : Int) := by omega
    go_upto_region 13 with fail
    obtain ⟨Ab, hAb⟩ : ∃ x, x = wr.heap.size := ⟨_, rfl⟩
    rw [← hAb] at hGo hGk ⊢
    have hbA : R ≤ Ab := by omega
    obtain ⟨⟨vb, vp, hX⟩, hs, ew, es⟩ := HS.out
    have hX1 := hX.later q1
    have HB1 : Hid (Below w.heap.size w (wr.alloc (.cells #[.string t, .int .i64 xw, .int .i64 xm, .int .i64 xa] 51))) := bt HB.out q1
    have hR1 : R ≤ (wr.alloc (.cells #[.string t, .int .i64 xw, .int .i64 xm, .int .i64 xa] 51)).heap.size := Nat.le_trans hRr q1.size
    clear hX x0 x1 x2 x3 q1 HS HB hRr
    generalize wr.alloc (.cells #[.string t, .int .i64 xw, .int .i64 xm, .int .i64 xa] 51) = wb at *
    clear hAb
    have g0 := (hGo.2 0 _ rfl).1
    have EW : Hid (ws = strB W) := ew
    have ES : Hid (ss = strB (W.take S)) := es
    have HSS : Hid (SS W S A) := hs
    have hsz1 : ws.size = W.length := by rw [EW.out, strB_size]
    have hsz2 : ss.size = S := by rw [ES.out, strB_size, List.length_take]; have := HSS.out.s; omega
    clear ew es
    go_wp2_with fail
    refine (st_write hX1 hs hR1 t (by omega)).mono ?_
    rintro e w4 ⟨m, c, rfl, ⟨vb4, hX4⟩, ht4, hs4, hm4, hcase⟩
    have hGo4 := ht4.at hGo hGk (by decide)
    have hGk4 := hGk.turn ht4 (Or.inl (by decide))
    have HT4 : Hid (TK R wb w4) := ht4
    have hWA : ((ws.size : Int) - (A : Int)) = ((W.length - A : Nat) : Int) := by have := HSS.out.a; have := HSS.out.s; omega
    have HWA : Hid (((ws.size : Int) - (A : Int)) = ((W.length - A : Nat) : Int)) := hWA
    have HZ1 : Hid (ws.size = W.length) := hsz1
    have HZ2 : Hid (ss.size = S) := hsz2
    clear hWA hsz1 hsz2 ht4 g0 hX1 hGo hGk
    have g0 := (hGo4.2 0 _ rfl).1
    go_upto_region 14 with fail
    have hwb : (ws.size : Int) ≤ 20000 := by have := HZ1.out; omega
    have hAw : (A : Int) ≤ (ws.size : Int) := by have := HZ1.out; have := HSS.out.a; have := HSS.out.s; omega
    have hmt : (m : Int) ≤ 500 := by omega
    go_cut [98] from 70 to 97 (fun s98 W => s98 = .bool false ∧ W = w4)
    case first =>
      as_aux_lemma =>
      -- @1
      rcases hcase with ⟨rfl, rfl⟩ | ⟨rfl, h5, h6⟩ | ⟨rfl, rfl, h5, h6⟩
      · go_wp2
        go_meet
        case rel => exact ⟨rfl, rfl⟩
      · have y1 : ¬ (t.size : Int) < (m : Int) := by omega
        have y2 : (m : Int) < (t.size : Int) := by omega
        have y3 : ((ws.size : Int) - (A : Int) + (m : Int) != 1000) = false := by rw [bne_eq_false_iff_eq]; have := HWA.out; omega
        go_wp2
        go_meet
        case rel => exact ⟨rfl, rfl⟩
      · have y1 : ¬ (t.size : Int) < 0 := by omega
        have y2 : (0 : Int) < (t.size : Int) := by omega
        have y3 : ((ws.size : Int) - (A : Int) != 1000) = false := by rw [bne_eq_false_iff_eq]; have := HWA.out; omega
        have y4 : ((ws.size : Int) - (A : Int) + 0 != 1000) = false := by rw [Int.add_zero]; exact y3
        go_wp2
        go_meet
        case rel => exact ⟨rfl, rfl⟩
      -- @/1
    case rest =>
    obtain ⟨rfl, hw4⟩ := hcut
    subst hw4
    clear hcase
    obtain ⟨w4, hw4⟩ : ∃ x, x = wc := ⟨wc, rfl⟩
    subst hw4
    have hcat : ws ++ t.extract 0 m = strB (W ++ t.data.toList.take m) := by
      rw [EW.out, strB_extract, List.drop_zero, Nat.sub_zero]
      apply ByteArray.ext
      simp [strB, ByteArray.data_append]
    obtain ⟨W', hW'⟩ : ∃ x, x = W ++ t.data.toList.take m := ⟨_, rfl⟩
    have hWl : W'.length ≤ (k + 1) * 500 := by rw [hW', List.length_append, List.length_take]; omega
    have HPre : Hid (W'.take S = W.take S) := by show _ = _; rw [hW', List.take_append_of_le_length HSS.out.s]
    rw [← hW'] at hX4 hs4 hcat
    have g1 := (hGo4.2 1 _ rfl).1
    have g2 := (hGo4.2 2 _ rfl).1
    have hm0 : (0 : Int) ≤ (m : Int) := by omega
    have hmt2 : m ≤ t.size := hm4
    have hmt3 : (m : Int) ≤ (t.size : Int) := by omega
    have hcc9 : ¬ 9223372036854775807 < ws.size + m := by have := HZ1.out; omega
    have HSS4 : Hid (SS W' S A) := hs4
    clear hW' HWA hwb HSS EW
    go_upto_region 17 with fail
    have hc5 := among_any xw 600 w4 (by decide) (by decide)
    have hwi0 := Int.emod_nonneg xw (show (600 : Int) ≠ 0 by decide)
    have hwi1 := Int.emod_lt_of_pos xw (show (0 : Int) < 600 by decide)
    generalize xw % 600 = wi at hc5 hwi0 hwi1
    have hc6 := among_any xm 100 w4 (by decide) (by decide)
    have hmo0 := Int.emod_nonneg xm (show (100 : Int) ≠ 0 by decide)
    have hmo1 := Int.emod_lt_of_pos xm (show (0 : Int) < 100 by decide)
    generalize xm % 100 = mo at hc6 hmo0 hmo1
    go_wp2_with fail
    refine hc5.mono ?_
    rintro e w5 ⟨rfl, rfl⟩
    go_wp2_with fail
    refine hc6.mono ?_
    rintro e w6 ⟨rfl, rfl⟩
    go_wp2_with fail
    refine (st_next hX4 HSS4.out wi (1 + mo) hwi0 hwi1 (by omega) (by omega)).mono ?_
    rintro e w7 ⟨kk, rfl, hX7, ht7, hk7, hk7'⟩
    have hcA := adds2 hf0 (n := (S : Int)) ⟨by omega, by have := HSS4.out.s; omega⟩ w7
    have hss : (ss.size : Int) = (S : Int) := by have := HZ2.out; omega
    rw [← hss] at hcA
    rw [show (fi + (ss.size : Int)) % 4294967296 = (fi + (S : Int)) % 4294967296 by rw [hss]] at hcA
    generalize (fi + (S : Int)) % 4294967296 = wt at *
    have hGo7 := ht7.at hGo4 hGk4 (by decide)
    have hGk7 := hGk4.turn ht7 (Or.inl (by decide))
    obtain ⟨sx, hsx⟩ : ∃ x, x = strB ((W'.drop S).take kk) := ⟨_, rfl⟩
    have hsxs : sx.size = kk := by rw [hsx, strB_size, List.length_take, List.length_drop]; omega
    have hex : (strB W').extract S (S + kk) = sx := by rw [hsx, strB_extract, Nat.add_sub_cancel_left]; rfl
    have hcs : ss ++ sx = strB (W'.take (S + kk)) := by
      rw [ES.out, hsx, ← HPre.out]
      apply ByteArray.ext
      simp [strB, ByteArray.data_append, List.take_add]
    rw [← hsx]
    clear hsx
    have HX7 : Hid (QX w7 R R (Qs fi W' (S + kk) A) vb4 vp) := hX7
    have HT7 : Hid (TK R wb w7) := HT4.out.trans ht7
    have HZ3 : Hid (sx.size = kk) := hsxs
    have HEX : Hid ((strB W').extract S (S + kk) = sx) := hex
    have HCS : Hid (ss ++ sx = strB (W'.take (S + kk))) := hcs
    clear hX7 ht7 hsxs hex hcs HT4 hX4 hGo4 hGk4 g0 g1 g2 hc5 hc6 hss hcat
    have g3 := (hGo7.2 3 _ rfl).1
    go_wp2_with fail
    refine hcA.mono ?_
    rintro e w8 ⟨rfl, rfl⟩
    clear hcA
    go_upto_region 20 with fail
    obtain ⟨ws2, hws2⟩ : ∃ x, x = strB W' := ⟨_, rfl⟩
    rw [← hws2]
    have EW2 : Hid (ws2 = strB W') := hws2
    clear hws2
    have hw2s : ws2.size = W'.length := by rw [EW2.out, strB_size]
    have hEx : ws2.extract ss.size (ss.size + sx.size) = sx := by rw [EW2.out, HZ2.out, HZ3.out]; exact HEX.out
    have hb1 : (ws2.size : Int) ≤ 20500 := by omega
    have hb2 : ss.size + sx.size ≤ ws2.size := by have := HZ2.out; have := HZ3.out; omega
    have hb3 : ¬ (ws2.size : Int) < (ss.size : Int) + (sx.size : Int) := by omega
    have hb4 : (ss.size : Int) + (sx.size : Int) ≤ (ws2.size : Int) := by omega
    have hb5 : (A : Int) ≤ (ss.size : Int) := by have := HZ2.out; have := HSS4.out.a; omega
    have HW2S : Hid (ws2.size = W'.length) := hw2s
    clear hw2s
    go_cut [169] from 125 to 168 (fun s169 W => s169 = .bool false ∧ W = w8)
    case first =>
      as_aux_lemma =>
      -- @4
      cases he : sx.toList.isEmpty with
      | true =>
        go_wp2
        go_meet
        case rel => exact ⟨rfl, rfl⟩
      | false =>
        have hpos : 0 < kk := by
          rw [em_any, decide_eq_false_iff_not] at he
          have := HZ3.out
          omega
        have hwi : ¬ wi < (ss.size : Int) - (A : Int) + (sx.size : Int) := by
          have := hk7' hpos
          have := HZ2.out
          have := HZ3.out
          have := HSS4.out.a
          omega
        go_wp2
        go_meet
        case rel => exact ⟨rfl, rfl⟩
      -- @/4
    case rest =>
    obtain ⟨rfl, hw9⟩ := hcut
    subst hw9
    obtain ⟨w9, hw9⟩ : ∃ x, x = wc := ⟨wc, rfl⟩
    subst hw9
    have hcc8 : ¬ 9223372036854775807 < ss.size + sx.size := by omega
    clear hEx
    go_upto_region 24 with fail
    obtain ⟨s2, hs2⟩ : ∃ x, x = ss ++ sx := ⟨_, rfl⟩
    rw [← hs2]
    have ES2 : Hid (s2 = strB (W'.take (S + kk))) := by show _ = _; rw [hs2]; exact HCS.out
    obtain ⟨S2, hS2⟩ : ∃ x, x = S + kk := ⟨_, rfl⟩
    have HS2 : Hid (s2.size = S2) := by show _ = _; rw [ES2.out, strB_size, List.length_take, hS2]; omega
    have HSS9 : Hid (SS W' S2 A) := ⟨by have := HSS4.out.a; omega, by omega, HSS4.out.w⟩
    rw [← hS2] at HX7 ES2
    clear hs2 HCS hS2 HEX hk7' hk7 hb2 hb3 hb4 hb5 hcc8 HZ3 HZ2 HPre
    have hA2 : (A : Int) ≤ (s2.size : Int) := by have := HS2.out; have := HSS9.out.a; omega
    have hs20 : (s2.size : Int) ≤ 20500 := by have := HS2.out; have := HSS9.out.s; omega
    go_upto_if 176 with fail
    go_cut [19] from 173 to 184 (fun s19 W => ∃ k2 : Nat, s19 = .int .i64 (k2 : Int) ∧ W = w9 ∧ A + k2 ≤ S2)
    case first =>
      as_aux_lemma =>
      -- @5
      by_cases hgt : (A : Int) < (s2.size : Int)
      · have hc9 := among_any xa ((s2.size : Int) - (A : Int) + 1) w9 (by omega) (by omega)
        have hq0 := Int.emod_nonneg xa (show ((s2.size : Int) - (A : Int) + 1) ≠ 0 by omega)
        have hq1 := Int.emod_lt_of_pos xa (show (0 : Int) < (s2.size : Int) - (A : Int) + 1 by omega)
        generalize xa % ((s2.size : Int) - (A : Int) + 1) = k2 at hc9 hq0 hq1
        go_wp2_with fail
        refine hc9.mono ?_
        rintro e wz ⟨rfl, rfl⟩
        go_wp2
        go_meet
        case rel => exact ⟨k2.toNat, by rw [Int.toNat_of_nonneg hq0], rfl, by have := HS2.out; omega⟩
      · go_wp2
        go_meet
        case rel => exact ⟨0, rfl, rfl, by have := HSS9.out.a; omega⟩
      -- @/5
    case rest =>
    obtain ⟨k2, rfl, hw10, hk2⟩ := hcut
    subst hw10
    obtain ⟨wA, hwA⟩ : ∃ x, x = wc := ⟨wc, rfl⟩
    subst hwA
    have hcA := adds2 hf0 (n := (A : Int) + (k2 : Int)) ⟨by omega, by have := HSS9.out.s; omega⟩ wA
    have hcB := st_ack HX7.out HSS9.out k2 hk2
    rw [show (fi + ((A : Int) + (k2 : Int))) % 4294967296 = (fi + ((A + k2 : Nat) : Int)) % 4294967296 by omega] at hcA
    have hkb : (k2 : Int) ≤ 20500 := by have := HSS9.out.s; omega
    have hAb : (A : Int) ≤ 20500 := by omega
    generalize hto : (fi + ((A + k2 : Nat) : Int)) % 4294967296 = to_ at hcA hcB
    have HTO : Hid ((fi + ((A + k2 : Nat) : Int)) % 4294967296 = to_) := hto
    clear hto
    go_wp2_with fail
    refine hcA.mono ?_
    rintro e wB ⟨rfl, rfl⟩
    clear hcA
    go_wp2_with fail
    refine hcB.mono ?_
    rintro e wC ⟨rfl, ⟨vbC, vpC, hXC⟩, htC, hsC⟩
    have HTC : Hid (TK R wb wC) := HT7.out.trans htC
    have hAk : (A : Int) + (k2 : Int) = ((A + k2 : Nat) : Int) := by omega
    have hcD := st_hole hXC hsC
    rw [HTO.out] at hcD
    obtain ⟨A2, hA2e⟩ : ∃ x, x = A + k2 := ⟨_, rfl⟩
    have HAK : Hid ((A : Int) + (k2 : Int) = (A2 : Int)) := by show _ = _; rw [hA2e]; omega
    rw [← hA2e] at hcD hXC hsC HTO
    have HSC : Hid (SS W' S2 A2) := hsC
    have HXC : Hid (QX wC R R (Qs fi W' S2 A2) vbC vpC) := hXC
    clear hcB htC hAk hXC hsC HT7 HX7 hA2e
    obtain ⟨tx, htx⟩ : ∃ x, x = strB ((W'.drop A2).take (S2 - A2)) := ⟨_, rfl⟩
    rw [← htx] at hcD
    have HTXE : Hid (tx = strB ((W'.drop A2).take (S2 - A2))) := htx
    clear htx
    go_upto_region 31 with fail
    rw [HAK.out]
    go_wp2_with fail
    refine hcD.mono ?_
    rintro e wD ⟨rfl, hbD⟩
    have hXD := HXC.out.later hbD
    have hcE := st_state hXD HSC.out
    rw [HTO.out] at hcE
    have HTX : Hid (s2.extract A2 s2.size = tx) := by
      show _ = _
      rw [HTXE.out, ES2.out, strB_extract, strB_size, List.length_take, Nat.min_eq_left HSC.out.s]
      show strB ((List.drop A2 (W'.take S2)).take (S2 - A2)) = _
      rw [List.drop_take, List.take_take, Nat.min_self]
    have hcF : ∀ W, Calls Try.prog 22 #[.int .i64 ((fi + (A2 : Int)) % 4294967296), .int .i64 ((fi + (S2 : Int)) % 4294967296)] W fun e w' => e = .returned (.tuple #[.int .i64 ((S2 - A2 : Nat) : Int), .int .i64 0]) ∧ w' = W := fun W => st_dist HSC.out (by have := HSC.out.s; omega) W
    rw [HTO.out] at hcF
    generalize (fi + (S2 : Int)) % 4294967296 = nx at hcE hcF
    have y1 : (((W'.length - A2 : Nat) : Int) != (ws2.size : Int) - (A2 : Int)) = false := by rw [bne_eq_false_iff_eq]; have := HW2S.out; have := HSC.out.a; have := HSC.out.s; omega
    have y2 : (((S2 - A2 : Nat) : Int) != (s2.size : Int) - (A2 : Int)) = false := by rw [bne_eq_false_iff_eq]; have := HS2.out; have := HSC.out.a; omega
    have y3 : (A2 : Int) ≤ (s2.size : Int) := by have := HS2.out; have := HSC.out.a; omega
    have y4 : A2 ≤ s2.size := by omega
    have y6 : (ws2.size : Int) ≤ 20500 := by have := HW2S.out; omega
    generalize ((W'.length - A2 : Nat) : Int) = lg at hcE y1
    generalize ((S2 - A2 : Nat) : Int) = ds at hcF y2
    go_wp2_with fail
    refine hcE.mono ?_
    rintro e wE ⟨rfl, hbE⟩
    have HSE : Hid (ST wE R fi W' S2 A2 ws2 s2) := ⟨⟨vbC, vpC, hXD.later hbE⟩, HSC.out, EW2.out, ES2.out⟩
    have HBE : Hid (Below w.heap.size w wE) := HB1.out.trans ((((HTC.out.later hbD).later hbE).below hR1).mono hwR)
    have hRE : R ≤ wE.heap.size := Nat.le_trans hR1 ((HTC.out.later hbD).later hbE).size
    have y5 : s2.extract A2 s2.size = tx := HTX.out
    clear hcE hcD hXD hbD hbE
    go_wp2_with fail
    refine (hcF _).mono ?_
    rintro e wF ⟨rfl, rfl⟩
    clear hcF y5
    go_wp2
    go_roundw
    case rel => exact ⟨k + 1, W', S2, A2, ws2, s2, rfl, rfl, rfl, by first | rfl | simp, by omega, by omega, hWl, HSE, HBE, hRE⟩
    case measure => simp [intOf]; omega
end Go.Proofs.Ytlbdecjppgjdiaa
