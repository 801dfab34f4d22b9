/- Take; Answer; the chapter's example. -/
import Derived.Test.YtadmpdeegnppjaaGreatDoorAk
import Derived.Deep.LoopGhost
namespace Go.Proofs.YtadmpdeegnppjaaGreatDoor
open Go.RowKit Go.Maps Go.Shelf Go.Lib
set_option maxRecDepth 100000
set_option linter.unusedVariables false
set_option linter.unusedSimpArgs false


section
variable {w : World} {A : Bk} {b : Nat} {s : St}
theorem BU.lw {w : World} {c : Nat} {v : Value} {bs : By} (h : BU w c v bs) : Lw w (SB c v) := fun k hk => by
  rcases hk with hk | hk
  · rw [hk]; exact h.lt
  · exact h.bo.lt hk
theorem sb_gr {c n : Nat} {v v' : Value} (h : Lies v v' n) : Gr n (SB c v) (SB c v') := fun k hk => by
  rcases hk with hk | hk
  · exact Or.inl (Or.inl hk)
  · rcases h k hk with h | h
    · exact Or.inl (Or.inr h)
    · exact Or.inr h
theorem BU.dj {w w' : World} {c : Nat} {v : Value} {bs : By} {S : Bk} (h : BU w c v bs) (ht : Turn S w w') (hd : Dj S (SB c v)) : BU w' c v bs :=
  h.turn ht (fun e => hd _ e (Or.inl rfl)) (fun k hk e => hd _ e (Or.inr hk))
/-- What the loop of Take keeps. -/
structure TL (w : World) (A : Bk) (b : Nat) (s : St) (d : By) (wr : World) (A' : Bk) (st : St) (rest acc : By) (bv : Value) : Prop where
  sx : SX wr A' b st
  bu : BU wr w.heap.size bv acc
  env : Env wr
  ok : Ok st
  turn : Turn A w wr
  gr : Gr w.heap.size A A'
  dj : Dj A' (SB w.heap.size bv)
  ge : ∀ k, SB w.heap.size bv k → w.heap.size ≤ k
  eq : takeF s d = (acc ++ (takeF st rest).1, (takeF st rest).2)
  len : rest.length ≤ d.length
  acl : acc.length + 2201 * rest.length ≤ 2201 * d.length
def lenV : Value → Nat
  | .string s => s.size
  | _ => 0
theorem lenV_B (l : By) : lenV (.string (B l)) = l.length := B_size l
theorem take_long (d : By) (hd : 65536 < d.length) : Calls Tryz.prog 8 #[PB b, .string (B d)] w fun e w' => e = .returned (.tuple #[.string (B []), .int .i64 2]) ∧ w' = w := by
  have hz : (65536 : Int) < ((B d).size : Int) := by rw [B_size]; omega
  go_enter Tryz.func8, Tryz.ntmps8
  go_wp2
  go_ret2
  exact ⟨rfl, rfl⟩
theorem take_end {M : Nat} {v : Value} (h : SY w A b M v s) (d : By) (hd : d.length ≤ 65536) (ho : s.over = true) : Calls Tryz.prog 8 #[PB b, .string (B d)] w fun e w' => e = .returned (.tuple #[.string (B []), .int .i64 183]) ∧ w' = w := by
  have hz : ¬ (65536 : Int) < ((B d).size : Int) := by rw [B_size]; omega
  obtain ⟨hlt, ⟨c0, c1, c2, c3⟩, -⟩ := h.at_.four
  rw [ho] at c3
  clear h ho
  go_enter Tryz.func8, Tryz.ntmps8
  go_wp2
  go_ret2
  exact ⟨rfl, rfl⟩
theorem TL.start (h : SX w A b s) (hE : Env w) (hO : Ok s) (d : By) : TL w A b s d (w.alloc (.cells #[.pointer none, .slice none 0 0] 50)) A s d [] (.slice none 0 0) :=
  ⟨h.later (bel1 w _), BU.made w, hE.later (bel1 w _), hO, Turn.of_below (bel1 w _), Gr.refl _ _, (fun k hk hs => by
    have := h.lw k hk
    rcases hs with hs | hs
    · omega
    · cases hs), (fun k hs => by
    rcases hs with hs | hs
    · omega
    · cases hs), rfl, Nat.le_refl _, by simp⟩
set_option maxHeartbeats 4000000 in
theorem take_any (h : SX w A b s) (hE : Env w) (hO : Ok s) (ho : s.over = false) (d : By) (hd : d.length ≤ 65536) :
    Calls Tryz.prog 8 #[PB b, .string (B d)] w fun e w' => e = .returned (.tuple #[.string (B (takeF s d).1), .int .i64 0]) ∧ ∃ A', SX w' A' b (takeF s d).2 ∧ Turn A w w' ∧ Gr w.heap.size A A' := by
  have hz : ¬ (65536 : Int) < ((B d).size : Int) := by rw [B_size]; omega
  have hT0 := TL.start h hE hO d
  obtain ⟨M, v, hY⟩ := h
  obtain ⟨hlt, ⟨c0, c1, c2, c3⟩, -⟩ := hY.at_.four
  rw [ho] at c3
  have HT0 : Hid _ := hT0
  have HBG : Hid _ := hE.big
  obtain ⟨R, hR⟩ : ∃ R, R = takeF s d := ⟨_, rfl⟩
  rw [← hR]
  have HR : Hid _ := hR
  clear hT0 hY hE hO ho hR
  go_enter Tryz.func8, Tryz.ntmps8
  go_wp2
  clear c0 c1 c2 c3
  go_loopw [1] (fun x wr => ∃ (A' : Bk) (st : St) (rest acc : By) (bv : Value), TL w A b s d wr A' st rest acc bv ∧ x = .string (B rest)) (fun x wr => lenV x)
  case atStart => exact ⟨A, s, d, [], .slice none 0 0, HT0.out, rfl⟩
  case round =>
    obtain ⟨A', st, rest, acc, bv, hT, rfl⟩ := hrel
    have HT : Hid _ := hT
    obtain ⟨M', v', hY⟩ := hT.sx
    obtain ⟨hltr, ⟨c0, c1, c2, c3⟩, -⟩ := hY.at_.four
    have hrl : rest.length ≤ 65536 := by have := hT.len; omega
    have hcut := cut_any hT.env rest 10 (by omega)
    have haccl : acc.length ≤ 2201 * 65536 := by have := hT.acl; omega
    have HY : Hid (SY wr A' b M' v' st) := hY
    clear hY hT
    cases hov : st.over with
    | true =>
      rw [hov] at c3
      have hst := str_any HT.out.bu (by omega)
      have hfin : R = (acc, st) := by rw [HR.out, HT.out.eq, take_over _ _ hov]; simp
      clear hov HR
      subst hfin
      go_wp2_with fail
      refine hst.mono ?_
      rintro e w5 ⟨rfl, t5⟩
      go_wp2
      go_ret2
      refine ⟨rfl, A', HT.out.sx.turn t5 (HT.out.dj.symm), ?_, HT.out.gr⟩
      exact HT.out.turn.step t5 (fun k hk => Or.inr (HT.out.ge k hk))
    | false =>
      rw [hov] at c3
      have HO : Hid (st.over = false) := hov
      clear hov
      obtain ⟨p, r, m, hc⟩ : ∃ p r m, cutC 10 rest = (p, r, m) := ⟨_, _, _, rfl⟩
      have hpl : p.length ≤ 65536 := by have := cut_len 10 rest; rw [hc] at this; simp only at this; omega
      rw [hc] at hcut
      have HC : Hid _ := hc
      clear hc
      go_wp2_with fail
      refine hcut.mono ?_
      rintro e w1 ⟨rfl, hb1⟩
      clear hcut
      go_wp2_with fail
      refine (gather_any (HY.out.later hb1) (HT.out.env.later hb1) HT.out.ok.line p (by omega)).mono ?_
      rintro e w2 ⟨rfl, A2, v2, h2, t2, g2⟩
      have hE2 : Env w2 := (HT.out.env.later hb1).turn t2 HY.out.lo
      have hB2 : BU w2 w.heap.size bv acc := (HT.out.bu.later hb1).dj t2 HT.out.dj
      have hD2 : Dj A2 (SB w.heap.size bv) := HT.out.dj.gr g2 (HT.out.bu.later hb1).lw
      have hT2 : Turn A w w2 := (HT.out.turn.later hb1).step t2 HT.out.gr
      have hG2 : Gr w.heap.size A A2 := HT.out.gr.trans g2 (Nat.le_trans HT.out.turn.size hb1.size)
      have hO2 := gath_ok HT.out.ok p
      have K2 : Hid _ := And.intro h2 (And.intro hE2 (And.intro hB2 (And.intro hD2 (And.intro hT2 (And.intro hG2 hO2)))))
      clear h2 hE2 hB2 hD2 hT2 hG2 hO2 t2 g2
      cases m with
      | false =>
        have hst := str_any K2.out.2.2.1 (by omega)
        have hfin : R = (acc, gath st p) := by
          obtain ⟨q1, q2, q3⟩ := cut_none 10 rest (by rw [HC.out])
          rw [HC.out] at q1 q2
          simp only at q1 q2
          rw [HR.out, HT.out.eq, take_piece rest st HO.out HT.out.ok.line q3, q1]
          simp
        clear HR
        subst hfin
        go_wp2_with fail
        refine hst.mono ?_
        rintro e w5 ⟨rfl, t5⟩
        go_wp2
        go_ret2
        refine ⟨rfl, A2, SX.turn ⟨M', v2, K2.out.1⟩ t5 K2.out.2.2.2.1.symm, ?_, K2.out.2.2.2.2.2.1⟩
        exact K2.out.2.2.2.2.1.step t5 (fun k hk => Or.inr (HT.out.ge k hk))
      | true =>
        have hsh := cut_short 10 rest (by rw [HC.out])
        rw [HC.out] at hsh
        obtain ⟨hsh1, hsh2⟩ := hsh
        simp only at hsh1 hsh2
        have hnp : ∀ x ∈ p, x ≠ 10 := by have := cut_head 10 rest; rw [HC.out] at this; exact this
        have heq := take_line st p r HO.out HT.out.ok.line hnp
        rw [← hsh2] at heq
        have hal := (end_ok K2.out.2.2.2.2.2.2).2
        have hre : rest.length = p.length + 1 + r.length := by rw [hsh2]; simp; omega
        have HRE : Hid _ := hre
        have HEQ : Hid _ := heq
        have HP : Hid _ := hsh2
        have haccl2 : acc.length + (endF (gath st p)).1.length ≤ 1000000000 := by omega
        have haccl3 := haccl2
        have HAC : Hid _ := haccl2
        clear heq hsh2 hnp hre haccl2
        go_wp2_with fail
        refine (end_any K2.out.1 K2.out.2.1 K2.out.2.2.2.2.2.2 (by show (gath st p).over = false; exact HO.out)).mono ?_
        rintro e w3 ⟨rfl, v3, h3, t3⟩
        have hB3 := K2.out.2.2.1.dj t3 K2.out.2.2.2.1
        have hE3 := K2.out.2.1.turn t3 K2.out.1.lo
        generalize han : (endF (gath st p)).1 = an at hal haccl3 ⊢
        go_wp2_with fail
        refine (wstr_any hB3 an (by omega)).mono ?_
        rintro e w4 ⟨⟨x4, rfl⟩, v4, h4, t4, l4⟩
        go_wp2_with fail
        refine (wbyte_any h4 10 (by rw [List.length_append]; omega)).mono ?_
        rintro e w5 ⟨rfl, v5, h5, t5, l5⟩
        have hlw3 : Lw w3 A2 := h3.lw
        have hd4 : Dj A2 (SB w.heap.size v4) := (K2.out.2.2.2.1.symm.gr (sb_gr l4) hlw3).symm
        have hlw4 : Lw w4 A2 := hlw3.size t4.size
        have hd5 : Dj A2 (SB w.heap.size v5) := (hd4.symm.gr (sb_gr l5) hlw4).symm
        have hs3 : w.heap.size ≤ w3.heap.size := Nat.le_trans K2.out.2.2.2.2.1.size t3.size
        have hge4 : ∀ k, SB w.heap.size v4 k → w.heap.size ≤ k := fun k hk => by
          rcases sb_gr (c := w.heap.size) l4 k hk with e | e
          · exact HT.out.ge k e
          · omega
        have hge5 : ∀ k, SB w.heap.size v5 k → w.heap.size ≤ k := fun k hk => by
          rcases sb_gr (c := w.heap.size) l5 k hk with e | e
          · exact hge4 k e
          · have := t4.size; omega
        have hfin : TL w A b s d w5 A2 (endF (gath st p)).2 r (acc ++ an ++ [10]) v5 := by
          refine ⟨SX.turn (SX.turn ⟨M', v3, h3⟩ t4 (K2.out.2.2.2.1.symm)) t5 hd4.symm, h5, ?_, (end_ok K2.out.2.2.2.2.2.2).1, ?_, K2.out.2.2.2.2.2.1, hd5, hge5, ?_, ?_, ?_⟩
          · exact (hE3.turn t4 (fun k hk => Nat.le_trans HBG.out (HT.out.ge k hk))).turn t5 (fun k hk => Nat.le_trans HBG.out (hge4 k hk))
          · exact ((K2.out.2.2.2.2.1.step t3 K2.out.2.2.2.2.2.1).step t4 (fun k hk => Or.inr (HT.out.ge k hk))).step t5 (fun k hk => Or.inr (hge4 k hk))
          · rw [HT.out.eq, HEQ.out, han]; simp [List.append_assoc]
          · have := HT.out.len; omega
          · have := HT.out.acl; have := HRE.out; rw [List.length_append, List.length_append]; simp only [List.length_cons, List.length_nil]; omega
        have HFIN : Hid _ := hfin
        clear hfin hge4 hge5 hd4 hd5 h5 t5 l5 h4 t4 l4 h3 t3 hB3 hE3
        go_wp2
        go_roundw
        case rel => exact ⟨A2, _, r, _, v5, HFIN.out, rfl⟩
        case measure => rw [lenV_B, lenV_B]; exact hsh1
end
end Go.Proofs.YtadmpdeegnppjaaGreatDoor
