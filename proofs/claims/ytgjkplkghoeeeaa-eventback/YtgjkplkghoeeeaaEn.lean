/- EventBack, walked. -/
import Derived.Test.YtgjkplkghoeeeaaEm
import Derived.Test.YtgjkplkghoeeeaaFlat
namespace Go.Proofs.Ytgjkplkghoeeeaa
open Go.RowKit Go.Maps
set_option maxRecDepth 100000
set_option linter.unusedVariables false
set_option linter.unusedSimpArgs false

set_option maxHeartbeats 8000000 in
theorem back_any (a : Option Addr) (n cap : Nat) (s : ByteArray) (z : Int) (w : World) (hr : Flat.Rows w a n 3 [.i, .i, .s]) (hz : n ≤ 140737488351232) (hs : s.size ≤ maxLen) :
    Calls Try.prog 5 #[.slice a n cap, .string s, .int .i64 z] w fun e w' => e = .returned (.bool true) ∧ Below w.heap.size w w' := by
  have HA : Hid (ArgE w a n) := argE_of hr
  clear hr
  have hde := dec_any s
  go_enter Try.func5, Try.ntmps5
  go_wp2_with fail
  refine (works_any _).mono ?_
  rintro e w1 ⟨rfl, hb1⟩
  have hl := hb1
  clear hb1
  rcases Bool.eq_false_or_eq_true (decB s) with hB | hB
  · obtain ⟨hm, hq⟩ := enc_dec hB
    rw [show decV s = evS s from if_pos hB, show decC s = 0 from if_pos hB] at hde
    obtain ⟨X, hX⟩ : ∃ X, evS s = X := ⟨_, rfl⟩
    rw [hX] at hm hq hde
    obtain ⟨K, T, D⟩ := X
    clear hX hB
    have hD : D.size ≤ maxLen := by have := mayE_size hm; unfold maxLen; simp only at this; omega
    have hen := fun W => enc_any K T D W hD
    rw [encV_t hm, codeE_t hm, hq] at hen
    clear hm hq
    go_wp2_with fail
    refine (hde _ hs).mono ?_
    rintro e w2 ⟨rfl, hb⟩
    have hl := bt hl hb
    clear hb hde
    have hY := At.box w2 #[.int .i64 K, .int .i64 T, .string D] 23
    have hl := bt hl (bel1 w2 (.cells #[.int .i64 K, .int .i64 T, .string D] 23))
    obtain ⟨⟨y0, y1, y2⟩, -, -⟩ := hY.three
    go_wp2_with fail
    refine (hen _).mono ?_
    rintro e w3 ⟨rfl, hb⟩
    have hl := bt hl hb
    clear hb hen y0 y1 y2 hY
    go_wp2_with fail
    refine (new_any _).mono ?_
    rintro e w4 ⟨b, rfl, hb4, hL, hb⟩
    have hT : TW w w4 b (.slice none 0 0) (.slice none 0 0) [] := ⟨hL, EO.nil _ _, Nat.le_trans hl.size hb4, (fun k hk => by cases hk), (fun x hx => by cases hx), bt hl hb⟩
    have HT : Hid _ := hT
    clear hL hT hb hb4 hl
    go_wp2
    go_loopw [12, 13, 14] (fun c12 c13 c14 wr => ∃ (i : Nat) (now : Int) (v : Value) (ws : List Ev), i ≤ n ∧ i ≤ 40 ∧ c14 = .int .i64 (i : Int) ∧ c13 = .int .i64 now ∧ 0 ≤ now ∧ now ≤ 2 * i ∧ TW w wr b v c12 ws ∧ ws.length ≤ i ∧ nowE ws ≤ now) (fun _ _ c _ => n - (intOf c).toNat)
    case atStart => exact ⟨0, 0, _, _, Nat.zero_le _, Nat.zero_le _, rfl, rfl, Int.le_refl _, by decide, HT, Nat.le_refl _, by decide⟩
    case round =>
      clear HT
      obtain ⟨i, now, v, ws, hin, hi, rfl, rfl, hn0, hn1, hT, hln, hno⟩ := hrel
      by_cases hlt : i < n ∧ i < 40
      · obtain ⟨hin1, hi1⟩ := hlt
        have hT0 := hT
        obtain ⟨ab, off, rfl, hcell⟩ : ∃ ab off, a = some ⟨ab, off, none⟩ ∧ ∀ i, i < n → ∃ (k t : Int) (d : ByteArray), w.cell? ⟨ab, off + i * 3, none⟩ = some (.int .i64 k) ∧ w.cell? ⟨ab, off + i * 3 + 1, none⟩ = some (.int .i64 t) ∧ w.cell? ⟨ab, off + i * 3 + 2, none⟩ = some (.string d) ∧ d.size ≤ 140737488351232 := by
          rcases HA.out with h | h
          · omega
          · exact h
        obtain ⟨k, t, d, hc0, hc1, hc2, hd⟩ := hcell i hin1
        have hdm : d.size ≤ maxLen := by unfold maxLen; omega
        have hni : (i : Int) < (n : Int) := by omega
        have hi40 : (i : Int) < 40 := by omega
        have q0 := later hT.bel hc0
        have q1 := later hT.bel hc1
        have q2 := later hT.bel hc2
        clear hcell hc0 hc1 hc2
        have hT1 := hT.later (bel1 wr (.cells #[.int .i64 k, .int .i64 now, .string d] 23))
        have hX := At.box wr #[.int .i64 k, .int .i64 now, .string d] 23
        obtain ⟨⟨x0, x1, x2⟩, -, -⟩ := hX.three
        have hen := fun W => enc_any k now d W hdm
        rcases Bool.eq_false_or_eq_true (mayE ⟨k, now, d⟩) with hm | hm
        · rw [encV_t hm, codeE_t hm] at hen
          have hde := dec_any (encE ⟨k, now, d⟩)
          obtain ⟨g1, g2⟩ := dec_enc hm
          rw [show decV (encE ⟨k, now, d⟩) = (⟨k, now, d⟩ : Ev) from (if_pos g1).trans g2, show decC (encE ⟨k, now, d⟩) = 0 from if_pos g1] at hde
          have hes : (encE ⟨k, now, d⟩).size ≤ maxLen := by have := mayE_size hm; rw [encE_size]; unfold maxLen; simp only at this ⊢; omega
          generalize encE ⟨k, now, d⟩ = E at *
          clear g1 g2
          go_wp2_with fail
          refine (hen _).mono ?_
          rintro e w5 ⟨rfl, hb⟩
          have hT := hT1.later hb
          have hX := hX.later hb
          have hs5 : wr.heap.size ≤ w5.heap.size := Nat.le_trans (bel1 wr _).size hb.size
          clear hen hb hT1 x0 x1 x2 q0 q1 q2
          go_wp2_with fail
          refine (hde _ hes).mono ?_
          rintro e w6 ⟨rfl, hb⟩
          have hT := hT.later hb
          have hX := hX.later hb
          have hs6 := Nat.le_trans hs5 hb.size
          clear hde hb hes hs5
          have hY := At.box w6 #[.int .i64 k, .int .i64 now, .string d] 23
          have hT := hT.later (bel1 w6 (.cells #[.int .i64 k, .int .i64 now, .string d] 23))
          have hX := hX.later (bel1 w6 (.cells #[.int .i64 k, .int .i64 now, .string d] 23))
          obtain ⟨⟨x0, x1, x2⟩, -, -⟩ := hX.three
          go_wp2_with fail
          refine (add_ok hT.h hdm (by omega) hm (by omega) (by omega)).mono ?_
          rintro e w7 ⟨v', rfl, hL7, ht7, hp7⟩
          have hV := hT.add hL7 ht7 hp7
          clear x0 x1 x2
          have hS7 : ∀ j, wr.heap.size ≤ j → j < w7.heap.size → True := fun _ _ _ => trivial
          have hbw : ∀ j, (j = b ∨ v.ownBlock = some j) → j < wr.heap.size := by
            rintro j (e | e)
            · exact e ▸ hT0.h.at_.1
            · exact (hT0.h.lt e).2
          have hX := hX.turn ht7 (fun e => Nat.lt_irrefl _ (hbw _ e))
          have hY := hY.turn ht7 (fun e => by have := hbw _ e; omega)
          clear hT0 hL7 ht7 hp7 hS7
          obtain ⟨⟨x0, x1, x2⟩, -, -⟩ := hX.three
          obtain ⟨⟨y0, y1, y2⟩, -, -⟩ := hY.three
          obtain ⟨wa, wc, hsh⟩ := hV.hw.shape
          subst hsh
          have hV1 := hV.later (bel1 w7 (.cells #[.int .i64 k, .int .i64 now, .string d] 23))
          have hG := At.box w7 #[.int .i64 k, .int .i64 now, .string d] 23
          obtain ⟨wv', w8, hrun, hE8, ht8, hp8⟩ := hV1.hw.push (c := 1) hG hV1.bel.size (by omega) 29
          have hT8 := TV.push hT hm hV1 hE8 ht8 hp8
          have hno8 : nowE (ws ++ [Ev.mk k now d]) = now := nowE_snoc _ _
          have hl8 : (ws ++ [Ev.mk k now d]).length = ws.length + 1 := by simp
          have HT8 : Hid _ := hT8
          have HN8 : Hid _ := hno8
          have HL8 : Hid _ := hl8
          clear hX hY hV1 hG hE8 ht8 hp8 hT8 hno8 hl8 hV hT hm
          obtain ⟨r3, hr3, hr30, hr31⟩ : ∃ r3, Int.tmod (i : Int) 3 = r3 ∧ 0 ≤ r3 ∧ r3 ≤ 2 := ⟨_, rfl, by rw [Int.tmod_eq_emod_of_nonneg (by omega)]; omega, by rw [Int.tmod_eq_emod_of_nonneg (by omega)]; omega⟩
          go_wp2_with (first
            | (at_builtin; refine wpList_app rfl _ _ rfl rfl rfl hrun ?_)
            | go_in)
          go_roundw
          case rel => exact ⟨i + 1, _, _, _, by omega, by omega, rel_int (by omega), rfl, by omega, by omega, HT8, by rw [show (ws ++ [Ev.mk k now d]).length = ws.length + 1 from HL8]; omega, by rw [show nowE (ws ++ [Ev.mk k now d]) = now from HN8]; omega⟩
          case measure => simp [intOf]; omega
        · rw [encV_f hm, codeE_f hm] at hen
          go_wp2_with fail
          refine (hen _).mono ?_
          rintro e w5 ⟨rfl, hb⟩
          have hT := hT1.later hb
          clear hen hb hT1 x0 x1 x2 hX q0 q1 q2
          go_wp2
          go_roundw
          case rel => exact ⟨i + 1, _, _, _, by omega, by omega, rel_int (by omega), rfl, hn0, by omega, hT, by omega, hno⟩
          case measure => simp [intOf]; omega
      · have hend : i = n ∨ (i = 40 ∧ (40 : Int) < (n : Int)) := by omega
        have hl40 : ws.length ≤ 40 := Nat.le_trans hln hi
        obtain ⟨M, hM, hM0, hM1⟩ : ∃ M, 1 + z % 3000 = M ∧ 1 ≤ M ∧ M ≤ 3000 := ⟨_, rfl, by omega, by omega⟩
        have ham := among_any z 3000
        have HTT : Hid (TW w wr b v u12 ws) := hT
        clear hlt hin hln hn0 hn1 hno hT hi
        rcases hend with rfl | ⟨rfl, hend⟩
        · go_wp2_with fail
          refine (ham _ (by decide) (by decide)).mono ?_
          rintro e w3 ⟨rfl, hw3⟩
          subst hw3
          go_wp2
          try rw [hM]
          go_loopw [22, 23] (fun c22 c23 wr => ∃ (k : Nat), c23 = .int .i64 ((k : Int) + 1) ∧ k ≤ ws.length ∧ TG w wr b v u12 c22 ws (ws.take k)) (fun _ c _ => ws.length + 1 - (intOf c).toNat)
          case atStart => exact ⟨0, rfl, Nat.zero_le _, ⟨HTT, EO.nil _ _, fun k hk => by cases hk⟩⟩
          case round =>
            clear HTT ham
            obtain ⟨k, rfl, hk, hG⟩ := hrel
            by_cases hkl : k < ws.length
            · obtain ⟨P, p1, p2, p3, p4, p5, p6, p7, p8⟩ := piece_of (most := M) hkl hG.t.may hl40
              have hby := bytes_any ((k : Int) + 1) M hG.t.h (by omega) hG.t.may (WalkArith.wf_i64 (by omega))
              rw [p1, p2] at hby
              have hpa := parts_any (catE P)
              obtain ⟨e1, e2⟩ := parts_of_cat p6 p7
              rw [e1, e2] at hpa
              have hc : (catE P).size ≤ maxLen := by unfold maxLen; omega
              have hP3 : Hid (ws.take k ++ P = ws.take (k + P.length)) := p3
              have hkl' : (k : Int) + 1 ≤ (ws.length : Int) := by omega
              have hln := len_any hG.t.h
              clear p1 p2 p3 p6 e1 e2
              generalize catE P = S at *
              go_wp2_with fail
              refine hln.mono ?_
              rintro e w5 ⟨rfl, hw5⟩
              subst hw5
              go_wp2_with fail
              refine hby.mono ?_
              rintro e w6 ⟨rfl, hb6⟩
              have hG := hG.later hb6
              clear hby hln hb6
              go_wp2_with fail
              refine (hpa _ hc).mono ?_
              rintro e w7 ⟨pv, rfl, hPE, hb7⟩
              have hG := hG.later hb7
              clear hpa hb7 hc
              obtain ⟨pa, pc, hsh⟩ := hPE.shape
              subst hsh
              obtain ⟨ga, gc, hsh⟩ := hG.hg.shape
              obtain ⟨gv', w8, hrun, hE8, ht8, hp8⟩ := hG.hg.apps hPE hG.t.bel.size (by rw [List.length_take]; omega) 29
              have hG8 := hG.push hE8 ht8 hp8
              have HG8 : Hid _ := hG8
              clear hE8 ht8 hp8 hG8 hG hPE hsh
              obtain ⟨X, hX⟩ : ∃ X : Int, (k : Int) + 1 + (P.length : Int) = X := ⟨_, rfl⟩
              have hX1 : X - ((k : Int) + 1) = (P.length : Int) := by omega
              have hX2 : decide (X ≤ (k : Int) + 1) = false := decide_eq_false (by omega)
              have hX3 : IntKind.i64.wrap (P.length : Int) = (P.length : Int) := by rw [IntKind.wrap_i64]; omega
              rw [hX]
              have HX : Hid ((k : Int) + 1 + (P.length : Int) = X) := hX
              clear hX
              by_cases h8 : M < (S.size : Int)
              · have h9 : decide (M < (S.size : Int)) = true := decide_eq_true h8
                have h10 : (((P.length : Nat) : Int) != 1) = false := by
                  have : P.length = 1 := by omega
                  rw [this]
                  rfl
                clear h8 p8
                go_wp2_with (first
                  | (at_builtin; refine wpList_app rfl _ _ rfl rfl rfl hrun ?_)
                  | go_in)
                go_roundw
                case rel =>
                  have hx : (k : Int) + 1 + (P.length : Int) = X := HX
                  exact ⟨k + P.length, rel_int (by omega), by omega, by rw [← show ws.take k ++ P = ws.take (k + P.length) from hP3]; exact HG8⟩
                case measure => have hx : (k : Int) + 1 + (P.length : Int) = X := HX; simp [intOf]; omega
              · have h9 : decide (M < (S.size : Int)) = false := decide_eq_false h8
                clear h8 p8
                go_wp2_with (first
                  | (at_builtin; refine wpList_app rfl _ _ rfl rfl rfl hrun ?_)
                  | go_in)
                go_roundw
                case rel =>
                  have hx : (k : Int) + 1 + (P.length : Int) = X := HX
                  exact ⟨k + P.length, rel_int (by omega), by omega, by rw [← show ws.take k ++ P = ws.take (k + P.length) from hP3]; exact HG8⟩
                case measure => have hx : (k : Int) + 1 + (P.length : Int) = X := HX; simp [intOf]; omega
            · have hkl' : k = ws.length := by omega
              subst hkl'
              rw [List.take_length] at hG
              have hbel := hG.t.bel
              have hsa := same_any ws wr hG.hg hG.t.hw (by omega)
              have hln := len_any hG.t.h
              have HB : Hid _ := hbel
              clear hG hbel
              go_wp2_with fail
              refine hln.mono ?_
              rintro e w5 ⟨rfl, hw5⟩
              subst hw5
              go_wp2_with fail
              refine hsa.mono ?_
              rintro e w6 ⟨rfl, hb6⟩
              go_wp2
              go_ret
              exact ⟨rfl, Below.trans HB (Below.mono hb6 (Below.size HB))⟩
        · go_wp2_with fail
          refine (ham _ (by decide) (by decide)).mono ?_
          rintro e w3 ⟨rfl, hw3⟩
          subst hw3
          go_wp2
          try rw [hM]
          go_loopw [22, 23] (fun c22 c23 wr => ∃ (k : Nat), c23 = .int .i64 ((k : Int) + 1) ∧ k ≤ ws.length ∧ TG w wr b v u12 c22 ws (ws.take k)) (fun _ c _ => ws.length + 1 - (intOf c).toNat)
          case atStart => exact ⟨0, rfl, Nat.zero_le _, ⟨HTT, EO.nil _ _, fun k hk => by cases hk⟩⟩
          case round =>
            clear HTT ham
            obtain ⟨k, rfl, hk, hG⟩ := hrel
            by_cases hkl : k < ws.length
            · obtain ⟨P, p1, p2, p3, p4, p5, p6, p7, p8⟩ := piece_of (most := M) hkl hG.t.may hl40
              have hby := bytes_any ((k : Int) + 1) M hG.t.h (by omega) hG.t.may (WalkArith.wf_i64 (by omega))
              rw [p1, p2] at hby
              have hpa := parts_any (catE P)
              obtain ⟨e1, e2⟩ := parts_of_cat p6 p7
              rw [e1, e2] at hpa
              have hc : (catE P).size ≤ maxLen := by unfold maxLen; omega
              have hP3 : Hid (ws.take k ++ P = ws.take (k + P.length)) := p3
              have hkl' : (k : Int) + 1 ≤ (ws.length : Int) := by omega
              have hln := len_any hG.t.h
              clear p1 p2 p3 p6 e1 e2
              generalize catE P = S at *
              go_wp2_with fail
              refine hln.mono ?_
              rintro e w5 ⟨rfl, hw5⟩
              subst hw5
              go_wp2_with fail
              refine hby.mono ?_
              rintro e w6 ⟨rfl, hb6⟩
              have hG := hG.later hb6
              clear hby hln hb6
              go_wp2_with fail
              refine (hpa _ hc).mono ?_
              rintro e w7 ⟨pv, rfl, hPE, hb7⟩
              have hG := hG.later hb7
              clear hpa hb7 hc
              obtain ⟨pa, pc, hsh⟩ := hPE.shape
              subst hsh
              obtain ⟨ga, gc, hsh⟩ := hG.hg.shape
              obtain ⟨gv', w8, hrun, hE8, ht8, hp8⟩ := hG.hg.apps hPE hG.t.bel.size (by rw [List.length_take]; omega) 29
              have hG8 := hG.push hE8 ht8 hp8
              have HG8 : Hid _ := hG8
              clear hE8 ht8 hp8 hG8 hG hPE hsh
              obtain ⟨X, hX⟩ : ∃ X : Int, (k : Int) + 1 + (P.length : Int) = X := ⟨_, rfl⟩
              have hX1 : X - ((k : Int) + 1) = (P.length : Int) := by omega
              have hX2 : decide (X ≤ (k : Int) + 1) = false := decide_eq_false (by omega)
              have hX3 : IntKind.i64.wrap (P.length : Int) = (P.length : Int) := by rw [IntKind.wrap_i64]; omega
              rw [hX]
              have HX : Hid ((k : Int) + 1 + (P.length : Int) = X) := hX
              clear hX
              by_cases h8 : M < (S.size : Int)
              · have h9 : decide (M < (S.size : Int)) = true := decide_eq_true h8
                have h10 : (((P.length : Nat) : Int) != 1) = false := by
                  have : P.length = 1 := by omega
                  rw [this]
                  rfl
                clear h8 p8
                go_wp2_with (first
                  | (at_builtin; refine wpList_app rfl _ _ rfl rfl rfl hrun ?_)
                  | go_in)
                go_roundw
                case rel =>
                  have hx : (k : Int) + 1 + (P.length : Int) = X := HX
                  exact ⟨k + P.length, rel_int (by omega), by omega, by rw [← show ws.take k ++ P = ws.take (k + P.length) from hP3]; exact HG8⟩
                case measure => have hx : (k : Int) + 1 + (P.length : Int) = X := HX; simp [intOf]; omega
              · have h9 : decide (M < (S.size : Int)) = false := decide_eq_false h8
                clear h8 p8
                go_wp2_with (first
                  | (at_builtin; refine wpList_app rfl _ _ rfl rfl rfl hrun ?_)
                  | go_in)
                go_roundw
                case rel =>
                  have hx : (k : Int) + 1 + (P.length : Int) = X := HX
                  exact ⟨k + P.length, rel_int (by omega), by omega, by rw [← show ws.take k ++ P = ws.take (k + P.length) from hP3]; exact HG8⟩
                case measure => have hx : (k : Int) + 1 + (P.length : Int) = X := HX; simp [intOf]; omega
            · have hkl' : k = ws.length := by omega
              subst hkl'
              rw [List.take_length] at hG
              have hbel := hG.t.bel
              have hsa := same_any ws wr hG.hg hG.t.hw (by omega)
              have hln := len_any hG.t.h
              have HB : Hid _ := hbel
              clear hG hbel
              go_wp2_with fail
              refine hln.mono ?_
              rintro e w5 ⟨rfl, hw5⟩
              subst hw5
              go_wp2_with fail
              refine hsa.mono ?_
              rintro e w6 ⟨rfl, hb6⟩
              go_wp2
              go_ret
              exact ⟨rfl, Below.trans HB (Below.mono hb6 (Below.size HB))⟩
  · have hC : decC s = 230 := if_neg (by rw [hB]; decide)
    rw [hC] at hde
    generalize decV s = X at hde
    obtain ⟨K, T, D⟩ := X
    clear hB hC
    go_wp2_with fail
    refine (hde _ hs).mono ?_
    rintro e w2 ⟨rfl, hb⟩
    have hl := bt hl hb
    clear hb hde
    have hl := bt hl (bel1 w2 (.cells #[.int .i64 K, .int .i64 T, .string D] 23))
    go_wp2_with fail
    refine (new_any _).mono ?_
    rintro e w4 ⟨b, rfl, hb4, hL, hb⟩
    have hT : TW w w4 b (.slice none 0 0) (.slice none 0 0) [] := ⟨hL, EO.nil _ _, Nat.le_trans hl.size hb4, (fun k hk => by cases hk), (fun x hx => by cases hx), bt hl hb⟩
    have HT : Hid _ := hT
    clear hL hT hb hb4 hl
    go_wp2
    go_loopw [12, 13, 14] (fun c12 c13 c14 wr => ∃ (i : Nat) (now : Int) (v : Value) (ws : List Ev), i ≤ n ∧ i ≤ 40 ∧ c14 = .int .i64 (i : Int) ∧ c13 = .int .i64 now ∧ 0 ≤ now ∧ now ≤ 2 * i ∧ TW w wr b v c12 ws ∧ ws.length ≤ i ∧ nowE ws ≤ now) (fun _ _ c _ => n - (intOf c).toNat)
    case atStart => exact ⟨0, 0, _, _, Nat.zero_le _, Nat.zero_le _, rfl, rfl, Int.le_refl _, by decide, HT, Nat.le_refl _, by decide⟩
    case round =>
      clear HT
      obtain ⟨i, now, v, ws, hin, hi, rfl, rfl, hn0, hn1, hT, hln, hno⟩ := hrel
      by_cases hlt : i < n ∧ i < 40
      · obtain ⟨hin1, hi1⟩ := hlt
        have hT0 := hT
        obtain ⟨ab, off, rfl, hcell⟩ : ∃ ab off, a = some ⟨ab, off, none⟩ ∧ ∀ i, i < n → ∃ (k t : Int) (d : ByteArray), w.cell? ⟨ab, off + i * 3, none⟩ = some (.int .i64 k) ∧ w.cell? ⟨ab, off + i * 3 + 1, none⟩ = some (.int .i64 t) ∧ w.cell? ⟨ab, off + i * 3 + 2, none⟩ = some (.string d) ∧ d.size ≤ 140737488351232 := by
          rcases HA.out with h | h
          · omega
          · exact h
        obtain ⟨k, t, d, hc0, hc1, hc2, hd⟩ := hcell i hin1
        have hdm : d.size ≤ maxLen := by unfold maxLen; omega
        have hni : (i : Int) < (n : Int) := by omega
        have hi40 : (i : Int) < 40 := by omega
        have q0 := later hT.bel hc0
        have q1 := later hT.bel hc1
        have q2 := later hT.bel hc2
        clear hcell hc0 hc1 hc2
        have hT1 := hT.later (bel1 wr (.cells #[.int .i64 k, .int .i64 now, .string d] 23))
        have hX := At.box wr #[.int .i64 k, .int .i64 now, .string d] 23
        obtain ⟨⟨x0, x1, x2⟩, -, -⟩ := hX.three
        have hen := fun W => enc_any k now d W hdm
        rcases Bool.eq_false_or_eq_true (mayE ⟨k, now, d⟩) with hm | hm
        · rw [encV_t hm, codeE_t hm] at hen
          have hde := dec_any (encE ⟨k, now, d⟩)
          obtain ⟨g1, g2⟩ := dec_enc hm
          rw [show decV (encE ⟨k, now, d⟩) = (⟨k, now, d⟩ : Ev) from (if_pos g1).trans g2, show decC (encE ⟨k, now, d⟩) = 0 from if_pos g1] at hde
          have hes : (encE ⟨k, now, d⟩).size ≤ maxLen := by have := mayE_size hm; rw [encE_size]; unfold maxLen; simp only at this ⊢; omega
          generalize encE ⟨k, now, d⟩ = E at *
          clear g1 g2
          go_wp2_with fail
          refine (hen _).mono ?_
          rintro e w5 ⟨rfl, hb⟩
          have hT := hT1.later hb
          have hX := hX.later hb
          have hs5 : wr.heap.size ≤ w5.heap.size := Nat.le_trans (bel1 wr _).size hb.size
          clear hen hb hT1 x0 x1 x2 q0 q1 q2
          go_wp2_with fail
          refine (hde _ hes).mono ?_
          rintro e w6 ⟨rfl, hb⟩
          have hT := hT.later hb
          have hX := hX.later hb
          have hs6 := Nat.le_trans hs5 hb.size
          clear hde hb hes hs5
          have hY := At.box w6 #[.int .i64 k, .int .i64 now, .string d] 23
          have hT := hT.later (bel1 w6 (.cells #[.int .i64 k, .int .i64 now, .string d] 23))
          have hX := hX.later (bel1 w6 (.cells #[.int .i64 k, .int .i64 now, .string d] 23))
          obtain ⟨⟨x0, x1, x2⟩, -, -⟩ := hX.three
          go_wp2_with fail
          refine (add_ok hT.h hdm (by omega) hm (by omega) (by omega)).mono ?_
          rintro e w7 ⟨v', rfl, hL7, ht7, hp7⟩
          have hV := hT.add hL7 ht7 hp7
          clear x0 x1 x2
          have hS7 : ∀ j, wr.heap.size ≤ j → j < w7.heap.size → True := fun _ _ _ => trivial
          have hbw : ∀ j, (j = b ∨ v.ownBlock = some j) → j < wr.heap.size := by
            rintro j (e | e)
            · exact e ▸ hT0.h.at_.1
            · exact (hT0.h.lt e).2
          have hX := hX.turn ht7 (fun e => Nat.lt_irrefl _ (hbw _ e))
          have hY := hY.turn ht7 (fun e => by have := hbw _ e; omega)
          clear hT0 hL7 ht7 hp7 hS7
          obtain ⟨⟨x0, x1, x2⟩, -, -⟩ := hX.three
          obtain ⟨⟨y0, y1, y2⟩, -, -⟩ := hY.three
          obtain ⟨wa, wc, hsh⟩ := hV.hw.shape
          subst hsh
          have hV1 := hV.later (bel1 w7 (.cells #[.int .i64 k, .int .i64 now, .string d] 23))
          have hG := At.box w7 #[.int .i64 k, .int .i64 now, .string d] 23
          obtain ⟨wv', w8, hrun, hE8, ht8, hp8⟩ := hV1.hw.push (c := 1) hG hV1.bel.size (by omega) 29
          have hT8 := TV.push hT hm hV1 hE8 ht8 hp8
          have hno8 : nowE (ws ++ [Ev.mk k now d]) = now := nowE_snoc _ _
          have hl8 : (ws ++ [Ev.mk k now d]).length = ws.length + 1 := by simp
          have HT8 : Hid _ := hT8
          have HN8 : Hid _ := hno8
          have HL8 : Hid _ := hl8
          clear hX hY hV1 hG hE8 ht8 hp8 hT8 hno8 hl8 hV hT hm
          obtain ⟨r3, hr3, hr30, hr31⟩ : ∃ r3, Int.tmod (i : Int) 3 = r3 ∧ 0 ≤ r3 ∧ r3 ≤ 2 := ⟨_, rfl, by rw [Int.tmod_eq_emod_of_nonneg (by omega)]; omega, by rw [Int.tmod_eq_emod_of_nonneg (by omega)]; omega⟩
          go_wp2_with (first
            | (at_builtin; refine wpList_app rfl _ _ rfl rfl rfl hrun ?_)
            | go_in)
          go_roundw
          case rel => exact ⟨i + 1, _, _, _, by omega, by omega, rel_int (by omega), rfl, by omega, by omega, HT8, by rw [show (ws ++ [Ev.mk k now d]).length = ws.length + 1 from HL8]; omega, by rw [show nowE (ws ++ [Ev.mk k now d]) = now from HN8]; omega⟩
          case measure => simp [intOf]; omega
        · rw [encV_f hm, codeE_f hm] at hen
          go_wp2_with fail
          refine (hen _).mono ?_
          rintro e w5 ⟨rfl, hb⟩
          have hT := hT1.later hb
          clear hen hb hT1 x0 x1 x2 hX q0 q1 q2
          go_wp2
          go_roundw
          case rel => exact ⟨i + 1, _, _, _, by omega, by omega, rel_int (by omega), rfl, hn0, by omega, hT, by omega, hno⟩
          case measure => simp [intOf]; omega
      · have hend : i = n ∨ (i = 40 ∧ (40 : Int) < (n : Int)) := by omega
        have hl40 : ws.length ≤ 40 := Nat.le_trans hln hi
        obtain ⟨M, hM, hM0, hM1⟩ : ∃ M, 1 + z % 3000 = M ∧ 1 ≤ M ∧ M ≤ 3000 := ⟨_, rfl, by omega, by omega⟩
        have ham := among_any z 3000
        have HTT : Hid (TW w wr b v u12 ws) := hT
        clear hlt hin hln hn0 hn1 hno hT hi
        rcases hend with rfl | ⟨rfl, hend⟩
        · go_wp2_with fail
          refine (ham _ (by decide) (by decide)).mono ?_
          rintro e w3 ⟨rfl, hw3⟩
          subst hw3
          go_wp2
          try rw [hM]
          go_loopw [22, 23] (fun c22 c23 wr => ∃ (k : Nat), c23 = .int .i64 ((k : Int) + 1) ∧ k ≤ ws.length ∧ TG w wr b v u12 c22 ws (ws.take k)) (fun _ c _ => ws.length + 1 - (intOf c).toNat)
          case atStart => exact ⟨0, rfl, Nat.zero_le _, ⟨HTT, EO.nil _ _, fun k hk => by cases hk⟩⟩
          case round =>
            clear HTT ham
            obtain ⟨k, rfl, hk, hG⟩ := hrel
            by_cases hkl : k < ws.length
            · obtain ⟨P, p1, p2, p3, p4, p5, p6, p7, p8⟩ := piece_of (most := M) hkl hG.t.may hl40
              have hby := bytes_any ((k : Int) + 1) M hG.t.h (by omega) hG.t.may (WalkArith.wf_i64 (by omega))
              rw [p1, p2] at hby
              have hpa := parts_any (catE P)
              obtain ⟨e1, e2⟩ := parts_of_cat p6 p7
              rw [e1, e2] at hpa
              have hc : (catE P).size ≤ maxLen := by unfold maxLen; omega
              have hP3 : Hid (ws.take k ++ P = ws.take (k + P.length)) := p3
              have hkl' : (k : Int) + 1 ≤ (ws.length : Int) := by omega
              have hln := len_any hG.t.h
              clear p1 p2 p3 p6 e1 e2
              generalize catE P = S at *
              go_wp2_with fail
              refine hln.mono ?_
              rintro e w5 ⟨rfl, hw5⟩
              subst hw5
              go_wp2_with fail
              refine hby.mono ?_
              rintro e w6 ⟨rfl, hb6⟩
              have hG := hG.later hb6
              clear hby hln hb6
              go_wp2_with fail
              refine (hpa _ hc).mono ?_
              rintro e w7 ⟨pv, rfl, hPE, hb7⟩
              have hG := hG.later hb7
              clear hpa hb7 hc
              obtain ⟨pa, pc, hsh⟩ := hPE.shape
              subst hsh
              obtain ⟨ga, gc, hsh⟩ := hG.hg.shape
              obtain ⟨gv', w8, hrun, hE8, ht8, hp8⟩ := hG.hg.apps hPE hG.t.bel.size (by rw [List.length_take]; omega) 29
              have hG8 := hG.push hE8 ht8 hp8
              have HG8 : Hid _ := hG8
              clear hE8 ht8 hp8 hG8 hG hPE hsh
              obtain ⟨X, hX⟩ : ∃ X : Int, (k : Int) + 1 + (P.length : Int) = X := ⟨_, rfl⟩
              have hX1 : X - ((k : Int) + 1) = (P.length : Int) := by omega
              have hX2 : decide (X ≤ (k : Int) + 1) = false := decide_eq_false (by omega)
              have hX3 : IntKind.i64.wrap (P.length : Int) = (P.length : Int) := by rw [IntKind.wrap_i64]; omega
              rw [hX]
              have HX : Hid ((k : Int) + 1 + (P.length : Int) = X) := hX
              clear hX
              by_cases h8 : M < (S.size : Int)
              · have h9 : decide (M < (S.size : Int)) = true := decide_eq_true h8
                have h10 : (((P.length : Nat) : Int) != 1) = false := by
                  have : P.length = 1 := by omega
                  rw [this]
                  rfl
                clear h8 p8
                go_wp2_with (first
                  | (at_builtin; refine wpList_app rfl _ _ rfl rfl rfl hrun ?_)
                  | go_in)
                go_roundw
                case rel =>
                  have hx : (k : Int) + 1 + (P.length : Int) = X := HX
                  exact ⟨k + P.length, rel_int (by omega), by omega, by rw [← show ws.take k ++ P = ws.take (k + P.length) from hP3]; exact HG8⟩
                case measure => have hx : (k : Int) + 1 + (P.length : Int) = X := HX; simp [intOf]; omega
              · have h9 : decide (M < (S.size : Int)) = false := decide_eq_false h8
                clear h8 p8
                go_wp2_with (first
                  | (at_builtin; refine wpList_app rfl _ _ rfl rfl rfl hrun ?_)
                  | go_in)
                go_roundw
                case rel =>
                  have hx : (k : Int) + 1 + (P.length : Int) = X := HX
                  exact ⟨k + P.length, rel_int (by omega), by omega, by rw [← show ws.take k ++ P = ws.take (k + P.length) from hP3]; exact HG8⟩
                case measure => have hx : (k : Int) + 1 + (P.length : Int) = X := HX; simp [intOf]; omega
            · have hkl' : k = ws.length := by omega
              subst hkl'
              rw [List.take_length] at hG
              have hbel := hG.t.bel
              have hsa := same_any ws wr hG.hg hG.t.hw (by omega)
              have hln := len_any hG.t.h
              have HB : Hid _ := hbel
              clear hG hbel
              go_wp2_with fail
              refine hln.mono ?_
              rintro e w5 ⟨rfl, hw5⟩
              subst hw5
              go_wp2_with fail
              refine hsa.mono ?_
              rintro e w6 ⟨rfl, hb6⟩
              go_wp2
              go_ret
              exact ⟨rfl, Below.trans HB (Below.mono hb6 (Below.size HB))⟩
        · go_wp2_with fail
          refine (ham _ (by decide) (by decide)).mono ?_
          rintro e w3 ⟨rfl, hw3⟩
          subst hw3
          go_wp2
          try rw [hM]
          go_loopw [22, 23] (fun c22 c23 wr => ∃ (k : Nat), c23 = .int .i64 ((k : Int) + 1) ∧ k ≤ ws.length ∧ TG w wr b v u12 c22 ws (ws.take k)) (fun _ c _ => ws.length + 1 - (intOf c).toNat)
          case atStart => exact ⟨0, rfl, Nat.zero_le _, ⟨HTT, EO.nil _ _, fun k hk => by cases hk⟩⟩
          case round =>
            clear HTT ham
            obtain ⟨k, rfl, hk, hG⟩ := hrel
            by_cases hkl : k < ws.length
            · obtain ⟨P, p1, p2, p3, p4, p5, p6, p7, p8⟩ := piece_of (most := M) hkl hG.t.may hl40
              have hby := bytes_any ((k : Int) + 1) M hG.t.h (by omega) hG.t.may (WalkArith.wf_i64 (by omega))
              rw [p1, p2] at hby
              have hpa := parts_any (catE P)
              obtain ⟨e1, e2⟩ := parts_of_cat p6 p7
              rw [e1, e2] at hpa
              have hc : (catE P).size ≤ maxLen := by unfold maxLen; omega
              have hP3 : Hid (ws.take k ++ P = ws.take (k + P.length)) := p3
              have hkl' : (k : Int) + 1 ≤ (ws.length : Int) := by omega
              have hln := len_any hG.t.h
              clear p1 p2 p3 p6 e1 e2
              generalize catE P = S at *
              go_wp2_with fail
              refine hln.mono ?_
              rintro e w5 ⟨rfl, hw5⟩
              subst hw5
              go_wp2_with fail
              refine hby.mono ?_
              rintro e w6 ⟨rfl, hb6⟩
              have hG := hG.later hb6
              clear hby hln hb6
              go_wp2_with fail
              refine (hpa _ hc).mono ?_
              rintro e w7 ⟨pv, rfl, hPE, hb7⟩
              have hG := hG.later hb7
              clear hpa hb7 hc
              obtain ⟨pa, pc, hsh⟩ := hPE.shape
              subst hsh
              obtain ⟨ga, gc, hsh⟩ := hG.hg.shape
              obtain ⟨gv', w8, hrun, hE8, ht8, hp8⟩ := hG.hg.apps hPE hG.t.bel.size (by rw [List.length_take]; omega) 29
              have hG8 := hG.push hE8 ht8 hp8
              have HG8 : Hid _ := hG8
              clear hE8 ht8 hp8 hG8 hG hPE hsh
              obtain ⟨X, hX⟩ : ∃ X : Int, (k : Int) + 1 + (P.length : Int) = X := ⟨_, rfl⟩
              have hX1 : X - ((k : Int) + 1) = (P.length : Int) := by omega
              have hX2 : decide (X ≤ (k : Int) + 1) = false := decide_eq_false (by omega)
              have hX3 : IntKind.i64.wrap (P.length : Int) = (P.length : Int) := by rw [IntKind.wrap_i64]; omega
              rw [hX]
              have HX : Hid ((k : Int) + 1 + (P.length : Int) = X) := hX
              clear hX
              by_cases h8 : M < (S.size : Int)
              · have h9 : decide (M < (S.size : Int)) = true := decide_eq_true h8
                have h10 : (((P.length : Nat) : Int) != 1) = false := by
                  have : P.length = 1 := by omega
                  rw [this]
                  rfl
                clear h8 p8
                go_wp2_with (first
                  | (at_builtin; refine wpList_app rfl _ _ rfl rfl rfl hrun ?_)
                  | go_in)
                go_roundw
                case rel =>
                  have hx : (k : Int) + 1 + (P.length : Int) = X := HX
                  exact ⟨k + P.length, rel_int (by omega), by omega, by rw [← show ws.take k ++ P = ws.take (k + P.length) from hP3]; exact HG8⟩
                case measure => have hx : (k : Int) + 1 + (P.length : Int) = X := HX; simp [intOf]; omega
              · have h9 : decide (M < (S.size : Int)) = false := decide_eq_false h8
                clear h8 p8
                go_wp2_with (first
                  | (at_builtin; refine wpList_app rfl _ _ rfl rfl rfl hrun ?_)
                  | go_in)
                go_roundw
                case rel =>
                  have hx : (k : Int) + 1 + (P.length : Int) = X := HX
                  exact ⟨k + P.length, rel_int (by omega), by omega, by rw [← show ws.take k ++ P = ws.take (k + P.length) from hP3]; exact HG8⟩
                case measure => have hx : (k : Int) + 1 + (P.length : Int) = X := HX; simp [intOf]; omega
            · have hkl' : k = ws.length := by omega
              subst hkl'
              rw [List.take_length] at hG
              have hbel := hG.t.bel
              have hsa := same_any ws wr hG.hg hG.t.hw (by omega)
              have hln := len_any hG.t.h
              have HB : Hid _ := hbel
              clear hG hbel
              go_wp2_with fail
              refine hln.mono ?_
              rintro e w5 ⟨rfl, hw5⟩
              subst hw5
              go_wp2_with fail
              refine hsa.mono ?_
              rintro e w6 ⟨rfl, hb6⟩
              go_wp2
              go_ret
              exact ⟨rfl, Below.trans HB (Below.mono hb6 (Below.size HB))⟩
end Go.Proofs.Ytgjkplkghoeeeaa
