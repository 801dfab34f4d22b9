/- The document's side: add, app. -/
import Derived.Test.YtadmpdeegnppjaaGreatDoorRh
namespace Go.Proofs.YtadmpdeegnppjaaGreatDoor
open Go.RowKit Go.Maps Go.Shelf Go.Lib
set_option maxRecDepth 100000
set_option linter.unusedVariables false
set_option linter.unusedSimpArgs false


theorem num_nil : numF [] = none := num_nopos (fun h => h.ne rfl) (by simp)
theorem numV_lt (t : By) : -1000000000 < numV t ∧ numV t < 1000000000 := by
  unfold numV
  cases hq : numF t with
  | none => simp
  | some x => have := num_is hq; simp; omega
theorem Lies.le {v v' : Value} {n n' : Nat} (h : Lies v v' n) (hn : n' ≤ n) : Lies v v' n' := fun q hq => (h q hq).imp id (Nat.le_trans hn)
section
variable {w : World} {b : Nat} {v : Value} {s : St}
set_option maxHeartbeats 4000000 in
theorem radd_any (h : RY w b v s) (hO : OkM s.m) (k t : By) (ht : t.length ≤ 1000000) : Calls Tryz.prog 37 #[PB b, .string (B k), .string (B t)] w fun e w' => e = .returned (.string (B (addF s.m k t).1)) ∧ ∃ v', RY w' b v' ⟨(addF s.m k t).2, s.line, s.long, s.over⟩ ∧ Turn (fun j => j = b) w w' ∧ Lies v v' w.heap.size := by
  have hfind := fun (W : World) (v' : Value) (hW : RY W b v' s) => rfind_any hW hO k
  have hnu := rwhole_any t w ht
  have HR : Hid _ := h
  have HO : Hid (OkM s.m) := hO
  obtain ⟨hlt, ⟨c0, -⟩, -⟩ := h.at_.four
  obtain ⟨a, c, rfl, h0, hc0, hg⟩ := h.pr.shape
  clear h hO
  obtain ⟨R, hR⟩ : ∃ R, R = addF s.m k t := ⟨_, rfl⟩
  rw [← hR]
  have HG : Hid _ := hR
  clear hR
  unfold wh at hnu
  cases hn : numF t with
  | none =>
    have hadd : R = (bBAD, s.m) := by rw [HG.out]; unfold addF; rw [hn]
    rw [hn] at hnu
    clear HG
    subst hadd
    go_enter Tryz.func37, Tryz.ntmps37
    go_wp2_with fail
    refine hnu.mono ?_
    rintro e w1 ⟨rfl, hb⟩
    go_wp2
    go_ret
    exact ⟨rfl, _, HR.out.later hb, Turn.of_below hb, Lies.refl _ _⟩
  | some n =>
    obtain ⟨n0, n1, -⟩ := num_is hn
    have hnv : numV t = n := by unfold numV; rw [hn]; rfl
    rw [hn, hnv] at hnu
    go_enter Tryz.func37, Tryz.ntmps37
    go_wp2_with fail
    refine hnu.mono ?_
    rintro e w1 ⟨rfl, hb1⟩
    have hf := hfind w1 _ (HR.out.later hb1)
    clear hfind
    go_wp2_with fail
    refine hf.mono ?_
    rintro e w2 ⟨⟨j, rfl, hj⟩, hb2⟩
    clear hf
    have hbw := bt hb1 hb2
    have hsz := hbw.size
    rcases hj with ⟨rfl, hm⟩ | ⟨i, x, rfl, he, hm⟩
    · have hz : numV (valF s.m k) = 0 := by unfold valF numV; rw [hm]; show (numF []).getD 0 = 0; rw [num_nil]; rfl
      have hz0 : (0 : Int) + n = n := by omega
      by_cases hc : -999999999 ≤ n ∧ n ≤ 999999999
      · have hadd : R = keepF s.m k (Go.Lib.itoa (n)) (bVALUE ++ Go.Lib.itoa (n)) := by
          rw [HG.out]; unfold addF; rw [hn]; simp only; rw [hz, hz0]; exact if_pos hc
        have hn1 : ¬ (n ≤ -1000000000) := by omega
        have hn2 : ¬ (1000000000 ≤ n) := by omega
        have hdg := fun W => rdigits_any (n) W (by omega) (by omega)
        have hlen := itoa_len (v := n) (by omega) (by omega)
        generalize Go.Lib.itoa (n) = x9 at hdg hlen hadd
        have hsz9 : (B x9).size ≤ 10 := by rw [B_size]; exact hlen
        have hap : Hid (B bVALUE ++ B x9 = B (bVALUE ++ x9)) := B_app _ _
        rw [keep_set] at hadd
        have HAD : Hid _ := hadd
        clear HG hadd hz hn hnu
        go_wp2_with fail
        refine (hdg _).mono ?_
        rintro e w3 ⟨rfl, hb3⟩
        have hbw3 := bt hbw hb3
        have hset := rset_any (HR.out.later hbw3) HO.out k x9
        have hs3 := hbw3.size
        go_wp2_with fail
        refine hset.mono ?_
        rintro e w4 ⟨rfl, v4, r4, t4, l4⟩
        have HT : Hid _ := And.intro r4 (And.intro ((Turn.of_below (S := fun j => j = b) hbw3).trans t4) (l4.le hs3))
        clear r4 t4 l4 hset
        obtain ⟨q, hq⟩ : ∃ q, q = setF s.m k x9 := ⟨_, rfl⟩
        rw [← hq] at HAD HT ⊢
        clear hq
        obtain ⟨f, m9⟩ := q
        cases f
        · have hadd : R = (bFULL, m9) := HAD.out
          clear HAD
          subst hadd
          go_wp2
          go_ret
          exact ⟨rfl, v4, HT.out⟩
        · have hadd : R = (bVALUE ++ x9, m9) := HAD.out
          clear HAD
          subst hadd
          go_wp2_with fail
          refine (hdg _).mono ?_
          rintro e w5 ⟨rfl, hb5⟩
          go_wp2
          go_ret
          exact ⟨congrArg (fun x => Ending.returned (.string x)) hap.out, v4, HT.out.1.later hb5, HT.out.2.1.later hb5, HT.out.2.2⟩
      · have hadd : R = (bBAD, s.m) := by
          rw [HG.out]; unfold addF; rw [hn]; simp only; rw [hz, hz0]; exact if_neg hc
        have HT : Hid _ := And.intro (HR.out.later hbw) (And.intro (Turn.of_below (S := fun j => j = b) hbw) (Lies.refl (.slice a s.m.length c) w.heap.size))
        clear HG hz hn hnu
        subst hadd
        by_cases hn1 : n ≤ -1000000000
        · go_wp2
          go_ret
          exact ⟨rfl, _, HT.out⟩
        · have hn2 : 1000000000 ≤ n := by omega
          go_wp2
          go_ret
          exact ⟨rfl, _, HT.out⟩
    · have hz : numV (valF s.m k) = numV x := by unfold valF; rw [hm]; rfl
      have hx := (HO.out.keys _ (mget_mem hm)).2
      have hwx := fun W => rwhole_any x W (by simp only at hx; omega)
      unfold wh at hwx
      have hxb := numV_lt x
      obtain ⟨hx0, hx1⟩ := hxb
      have hil : i < s.m.length := (List.getElem?_eq_some_iff.1 he).1
      have c0' := later hbw c0
      have hlt2 : b < w2.heap.size := by omega
      have hi0 : (0 : Int) ≤ (i : Int) := by omega
      have hil' : (i : Int) < (s.m.length : Int) := by omega
      cases a with
      | none => rw [(h0 rfl).1] at hil; simp at hil
      | some ad =>
        obtain ⟨g, rfl, hgl⟩ := hg ad rfl
        obtain ⟨k0, k1⟩ := (HR.out.pr.later hbw).cell he
        clear he hg h0
        go_wp2_with fail
        refine (hwx _).mono ?_
        rintro e w2b ⟨rfl, hb2b⟩
        clear k0 k1 hwx c0'
        have hbw' := bt hbw hb2b
        clear hbw
        have hbw := hbw'
        clear hbw'
        generalize hzz : numV x = z9 at hz hx0 hx1
        clear hzz
        by_cases hc : -999999999 ≤ z9 + n ∧ z9 + n ≤ 999999999
        · have hadd : R = keepF s.m k (Go.Lib.itoa (z9 + n)) (bVALUE ++ Go.Lib.itoa (z9 + n)) := by
            rw [HG.out]; unfold addF; rw [hn]; simp only; rw [hz]; exact if_pos hc
          have hn1 : ¬ (z9 + n ≤ -1000000000) := by omega
          have hn2 : ¬ (1000000000 ≤ z9 + n) := by omega
          have hdg := fun W => rdigits_any (z9 + n) W (by omega) (by omega)
          have hlen := itoa_len (v := z9 + n) (by omega) (by omega)
          generalize Go.Lib.itoa (z9 + n) = x9 at hdg hlen hadd
          have hsz9 : (B x9).size ≤ 10 := by rw [B_size]; exact hlen
          have hap : Hid (B bVALUE ++ B x9 = B (bVALUE ++ x9)) := B_app _ _
          rw [keep_set] at hadd
          have HAD : Hid _ := hadd
          clear HG hadd hz hn hnu
          go_wp2_with fail
          refine (hdg _).mono ?_
          rintro e w3 ⟨rfl, hb3⟩
          have hbw3 := bt hbw hb3
          have hset := rset_any (HR.out.later hbw3) HO.out k x9
          have hs3 := hbw3.size
          go_wp2_with fail
          refine hset.mono ?_
          rintro e w4 ⟨rfl, v4, r4, t4, l4⟩
          have HT : Hid _ := And.intro r4 (And.intro ((Turn.of_below (S := fun j => j = b) hbw3).trans t4) (l4.le hs3))
          clear r4 t4 l4 hset
          obtain ⟨q, hq⟩ : ∃ q, q = setF s.m k x9 := ⟨_, rfl⟩
          rw [← hq] at HAD HT ⊢
          clear hq
          obtain ⟨f, m9⟩ := q
          cases f
          · have hadd : R = (bFULL, m9) := HAD.out
            clear HAD
            subst hadd
            go_wp2
            go_ret
            exact ⟨rfl, v4, HT.out⟩
          · have hadd : R = (bVALUE ++ x9, m9) := HAD.out
            clear HAD
            subst hadd
            go_wp2_with fail
            refine (hdg _).mono ?_
            rintro e w5 ⟨rfl, hb5⟩
            go_wp2
            go_ret
            exact ⟨congrArg (fun x => Ending.returned (.string x)) hap.out, v4, HT.out.1.later hb5, HT.out.2.1.later hb5, HT.out.2.2⟩
        · have hadd : R = (bBAD, s.m) := by
            rw [HG.out]; unfold addF; rw [hn]; simp only; rw [hz]; exact if_neg hc
          have HT : Hid _ := And.intro (HR.out.later hbw) (And.intro (Turn.of_below (S := fun j => j = b) hbw) (Lies.refl (.slice (some ⟨g, 0, none⟩) s.m.length c) w.heap.size))
          clear HG hz hn hnu
          subst hadd
          by_cases hn1 : z9 + n ≤ -1000000000
          · go_wp2
            go_ret
            exact ⟨rfl, _, HT.out⟩
          · have hn2 : 1000000000 ≤ z9 + n := by omega
            go_wp2
            go_ret
            exact ⟨rfl, _, HT.out⟩
set_option maxHeartbeats 4000000 in
theorem rapp_any (h : RY w b v s) (hO : OkM s.m) (k t : By) (ht : t.length ≤ 1000000) : Calls Tryz.prog 38 #[PB b, .string (B k), .string (B t)] w fun e w' => e = .returned (.string (B (growF s.m k t).1)) ∧ ∃ v', RY w' b v' ⟨(growF s.m k t).2, s.line, s.long, s.over⟩ ∧ Turn (fun j => j = b) w w' ∧ Lies v v' w.heap.size := by
  have hf := rfind_any h hO k
  have HR : Hid _ := h
  have HO : Hid (OkM s.m) := hO
  have htz : (B t).size ≤ 1000000 := by rw [B_size]; exact ht
  obtain ⟨hlt, ⟨c0, -⟩, -⟩ := h.at_.four
  obtain ⟨a, c, rfl, h0, hc0, hg⟩ := h.pr.shape
  clear h hO
  obtain ⟨R, hR⟩ : ∃ R, R = growF s.m k t := ⟨_, rfl⟩
  rw [← hR]
  have HG : Hid _ := hR
  clear hR
  go_enter Tryz.func38, Tryz.ntmps38
  go_wp2_with fail
  refine hf.mono ?_
  rintro e w2 ⟨⟨j, rfl, hj⟩, hbw⟩
  clear hf
  have hsz := hbw.size
  rcases hj with ⟨rfl, hm⟩ | ⟨i, x, rfl, he, hm⟩
  · have hz : valF s.m k = [] := by unfold valF; rw [hm]; rfl
    by_cases hl : 200 < ([] ++ t).length
    · have hadd : R = (bFULL, s.m) := by
        rw [HG.out]; unfold growF; rw [hz]; exact if_pos hl
      have hl' : (200 : Int) < ((B t).size : Int) := by rw [B_size]; rw [List.nil_append] at hl; omega
      have HT : Hid _ := And.intro (HR.out.later hbw) (And.intro (Turn.of_below (S := fun j => j = b) hbw) (Lies.refl (.slice a s.m.length c) w.heap.size))
      clear HG hz hl
      subst hadd
      go_wp2
      go_ret
      exact ⟨rfl, _, HT.out⟩
    · have hadd : R = keepF s.m k ([] ++ t) (bCOUNT ++ Go.Lib.itoa (([] ++ t).length : Int)) := by
        rw [HG.out]; unfold growF; rw [hz]; exact if_neg hl
      have hl' : ¬ (200 : Int) < ((B t).size : Int) := by rw [B_size]; rw [List.nil_append] at hl; omega
      have hsum : ((B t).size : Int) = (([] ++ t : By).length : Int) := by rw [B_size]; rfl
      have hz1 : (B []).size ≤ 300 := by rw [B_size]; simp
      have hz2 : (B t).size ≤ 300 := by rw [B_size]; rw [List.nil_append] at hl; omega
      have hap := B_app [] t
      generalize [] ++ t = x9 at hadd hsum hl hap
      have hdg := fun W => rdigits_any (x9.length : Int) W (by omega) (by omega)
      have hlen := itoa_len (v := (x9.length : Int)) (by omega) (by omega)
      generalize Go.Lib.itoa (x9.length : Int) = y9 at hdg hlen hadd
      have hsz9 : (B y9).size ≤ 10 := by rw [B_size]; exact hlen
      have hap9 : Hid (B bCOUNT ++ B y9 = B (bCOUNT ++ y9)) := B_app _ _
      rw [keep_set] at hadd
      have hset := rset_any (HR.out.later hbw) HO.out k x9
      rw [← hap] at hset
      have HAD : Hid _ := hadd
      have HSM : Hid _ := hsum
      clear HG hadd hz hap hl hsum
      go_wp2_with fail
      refine hset.mono ?_
      rintro e w4 ⟨rfl, v4, r4, t4, l4⟩
      have HT : Hid _ := And.intro r4 (And.intro ((Turn.of_below (S := fun j => j = b) hbw).trans t4) (l4.le hsz))
      clear r4 t4 l4 hset
      obtain ⟨q, hq⟩ : ∃ q, q = setF s.m k x9 := ⟨_, rfl⟩
      rw [← hq] at HAD HT ⊢
      clear hq
      obtain ⟨f, m9⟩ := q
      cases f
      · have hadd : R = (bFULL, m9) := HAD.out
        clear HAD
        subst hadd
        go_wp2
        go_ret
        exact ⟨rfl, v4, HT.out⟩
      · have hadd : R = (bCOUNT ++ y9, m9) := HAD.out
        clear HAD
        subst hadd
        go_wp2_with fail
        rw [show (Value.int IntKind.i64 ((B t).size : Int)) = Value.int IntKind.i64 (x9.length : Int) from congrArg _ HSM.out]
        refine (hdg _).mono ?_
        rintro e w5 ⟨rfl, hb5⟩
        go_wp2
        go_ret
        exact ⟨congrArg (fun x => Ending.returned (.string x)) hap9.out, v4, HT.out.1.later hb5, HT.out.2.1.later hb5, HT.out.2.2⟩
  · have hz : valF s.m k = x := by unfold valF; rw [hm]; rfl
    have hx := (HO.out.keys _ (mget_mem hm)).2
    have hxz : (B x).size ≤ 300 := by rw [B_size]; exact hx
    have hil : i < s.m.length := (List.getElem?_eq_some_iff.1 he).1
    have c0' := later hbw c0
    have hlt2 : b < w2.heap.size := by omega
    have hi0 : (0 : Int) ≤ (i : Int) := by omega
    have hil' : (i : Int) < (s.m.length : Int) := by omega
    cases a with
    | none => rw [(h0 rfl).1] at hil; simp at hil
    | some ad =>
      obtain ⟨g, rfl, hgl⟩ := hg ad rfl
      obtain ⟨k0, k1⟩ := (HR.out.pr.later hbw).cell he
      clear he hg h0
      by_cases hl : 200 < (x ++ t).length
      · have hadd : R = (bFULL, s.m) := by
          rw [HG.out]; unfold growF; rw [hz]; exact if_pos hl
        have hl' : (200 : Int) < ((B x).size : Int) + ((B t).size : Int) := by rw [B_size, B_size]; rw [List.length_append] at hl; omega
        have HT : Hid _ := And.intro (HR.out.later hbw) (And.intro (Turn.of_below (S := fun j => j = b) hbw) (Lies.refl (.slice (some ⟨g, 0, none⟩) s.m.length c) w.heap.size))
        clear HG hz hl
        subst hadd
        go_wp2
        go_ret
        exact ⟨rfl, _, HT.out⟩
      · have hadd : R = keepF s.m k (x ++ t) (bCOUNT ++ Go.Lib.itoa ((x ++ t).length : Int)) := by
          rw [HG.out]; unfold growF; rw [hz]; exact if_neg hl
        have hl' : ¬ (200 : Int) < ((B x).size : Int) + ((B t).size : Int) := by rw [B_size, B_size]; rw [List.length_append] at hl; omega
        have hsum : ((B x).size : Int) + ((B t).size : Int) = ((x ++ t).length : Int) := by rw [B_size, B_size, List.length_append]; omega
        have hz1 : (B x).size ≤ 300 := by rw [B_size]; rw [List.length_append] at hl; omega
        have hz2 : (B t).size ≤ 300 := by rw [B_size]; rw [List.length_append] at hl; omega
        have hap := B_app x t
        generalize x ++ t = x9 at hadd hsum hl hap
        have hdg := fun W => rdigits_any (x9.length : Int) W (by omega) (by omega)
        have hlen := itoa_len (v := (x9.length : Int)) (by omega) (by omega)
        generalize Go.Lib.itoa (x9.length : Int) = y9 at hdg hlen hadd
        have hsz9 : (B y9).size ≤ 10 := by rw [B_size]; exact hlen
        have hap9 : Hid (B bCOUNT ++ B y9 = B (bCOUNT ++ y9)) := B_app _ _
        rw [keep_set] at hadd
        have hset := rset_any (HR.out.later hbw) HO.out k x9
        rw [← hap] at hset
        have HAD : Hid _ := hadd
        have HSM : Hid _ := hsum
        clear HG hadd hz hap hl hsum
        go_wp2_with fail
        refine hset.mono ?_
        rintro e w4 ⟨rfl, v4, r4, t4, l4⟩
        have HT : Hid _ := And.intro r4 (And.intro ((Turn.of_below (S := fun j => j = b) hbw).trans t4) (l4.le hsz))
        clear r4 t4 l4 hset
        obtain ⟨q, hq⟩ : ∃ q, q = setF s.m k x9 := ⟨_, rfl⟩
        rw [← hq] at HAD HT ⊢
        clear hq
        obtain ⟨f, m9⟩ := q
        cases f
        · have hadd : R = (bFULL, m9) := HAD.out
          clear HAD
          subst hadd
          go_wp2
          go_ret
          exact ⟨rfl, v4, HT.out⟩
        · have hadd : R = (bCOUNT ++ y9, m9) := HAD.out
          clear HAD
          subst hadd
          go_wp2_with fail
          rw [show (Value.int IntKind.i64 (((B x).size : Int) + ((B t).size : Int))) = Value.int IntKind.i64 (x9.length : Int) from congrArg _ HSM.out]
          refine (hdg _).mono ?_
          rintro e w5 ⟨rfl, hb5⟩
          go_wp2
          go_ret
          exact ⟨congrArg (fun x => Ending.returned (.string x)) hap9.out, v4, HT.out.1.later hb5, HT.out.2.1.later hb5, HT.out.2.2⟩
end
end Go.Proofs.YtadmpdeegnppjaaGreatDoor
