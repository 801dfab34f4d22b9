/- The document's side: Take. -/
import Derived.Test.YtadmpdeegnppjaaGreatDoorRj
import Derived.Deep.LoopGhost
namespace Go.Proofs.YtadmpdeegnppjaaGreatDoor
open Go.RowKit Go.Maps Go.Shelf Go.Lib
set_option maxRecDepth 100000
set_option linter.unusedVariables false
set_option linter.unusedSimpArgs false


theorem bo_pr {w : World} {ov vv : Value} {bs : By} {m : Mp} (h : BO w 0 ov bs) (k : PR w vv m) : ∀ j, ov.ownBlock = some j → vv.ownBlock = some j → False := by
  intro j e1 e2
  rcases h.2 with ⟨rfl, -⟩ | ⟨g, cap, cur, rfl, -, hb, -⟩
  · cases e1
  · cases e1
    rcases k.2 with ⟨rfl, -⟩ | ⟨g', cap', cur', rfl, -, hb', -⟩
    · cases e2
    · cases e2
      rw [hb] at hb'
      injection hb' with hb'
      injection hb' with _ ht
      exact absurd ht (by decide)
/-- What the loop of Take keeps. -/
structure TK (w : World) (b : Nat) (v : Value) (s : St) (d : By) (wr : World) (i : Nat) (st : St) (acc : By) (ov vv : Value) : Prop where
  ry : RY wr b vv st
  bo : BO wr 0 ov acc
  ok : Ok st
  eq : takeF s d = (acc ++ (takeF st (d.drop i)).1, (takeF st (d.drop i)).2)
  le : i ≤ d.length
  turn : Turn (fun j => j = b) w wr
  lies : Lies v vv w.heap.size
  ge : ∀ k, ov.ownBlock = some k → w.heap.size ≤ k
  len : acc.length ≤ 2201 * i
section
variable {w wr w' : World} {b i : Nat} {v ov vv ov' vv' : Value} {s st st' : St} {d acc p : By}
theorem TK.next (h : TK w b v s d wr i st acc ov vv) {x : UInt8} (hx : d[i]? = some x) (hb : byteF st x = (p, st')) (ry' : RY w' b vv' st') (bo' : BO w' 0 ov' (acc ++ p)) (t : Turn (fun j => j = b ∨ ov.ownBlock = some j) wr w') (l : Lies vv vv' wr.heap.size) (lo : Lies ov ov' wr.heap.size) :
    TK w b v s d w' (i + 1) st' (acc ++ p) ov' vv' := by
  obtain ⟨hi, e⟩ := List.getElem?_eq_some_iff.1 hx
  have hk := byte_ok h.ok x
  rw [hb] at hk
  simp only at hk
  have hd : d.drop i = x :: d.drop (i + 1) := by rw [← e]; exact List.drop_eq_getElem_cons hi
  refine ⟨ry', bo', hk.1, ?_, hi, h.turn.step t (fun j hj => ?_), h.lies.trans l h.turn.size, fun k hk => ?_, ?_⟩
  · rw [h.eq, hd]
    simp only [takeF]
    rw [hb, List.append_assoc]
  · rcases hj with hj | hj
    · exact Or.inl hj
    · exact Or.inr (h.ge j hj)
  · rcases lo k hk with e | e
    · exact h.ge k e
    · exact Nat.le_trans h.turn.size e
  · have := h.len
    rw [List.length_append]
    omega
theorem TK.start (h : RY w b v s) (hO : Ok s) (d : By) : TK w b v s d w 0 s [] (.slice none 0 0) v :=
  ⟨h, BO.nil _ _, hO, rfl, Nat.zero_le _, Turn.refl _, Lies.refl _ _, (fun k hk => by cases hk), by simp⟩
theorem TK.fin (h : TK w b v s d wr i st acc ov vv) (he : st.over = true ∨ i = d.length) : takeF s d = (acc, st) := by
  rw [h.eq]
  rcases he with he | he
  · rw [take_over _ _ he]; simp
  · rw [he, List.drop_length]; simp [takeF]
theorem TK.nb (h : TK w b v s d wr i st acc ov vv) (hb : b < w.heap.size) : ov.ownBlock ≠ some b := fun e => by have := h.ge b e; omega
theorem gath_small {st : St} {x : UInt8} (h : st.line.length < 256) : gath st [x] = ⟨st.m, st.line ++ [x], st.long, st.over⟩ := by
  unfold gath
  have h1 : ([x] : By).take (256 - st.line.length) = [x] := List.take_of_length_le (by simp; omega)
  have h2 : decide (256 - st.line.length < ([x] : By).length) = false := decide_eq_false (by simp; omega)
  rw [h1, h2, Bool.or_false]
theorem gath_big {st : St} {x : UInt8} (h : st.line.length = 256) : gath st [x] = ⟨st.m, st.line, true, st.over⟩ := by
  unfold gath
  rw [h]
  simp
theorem rtake_long (d : By) (hd : 65536 < d.length) : Calls Tryz.prog 9 #[PB b, .string (B d)] w fun e w' => e = .returned (.tuple #[.string (B []), .int .i64 2]) ∧ w' = w := by
  have hz : (65536 : Int) < ((B d).size : Int) := by rw [B_size]; omega
  go_enter Tryz.func9, Tryz.ntmps9
  go_wp2
  go_ret2
  exact ⟨rfl, rfl⟩
theorem rtake_end (h : RY w b v s) (d : By) (hd : d.length ≤ 65536) (ho : s.over = true) : Calls Tryz.prog 9 #[PB b, .string (B d)] w fun e w' => e = .returned (.tuple #[.string (B []), .int .i64 183]) ∧ w' = w := by
  have hz : ¬ (65536 : Int) < ((B d).size : Int) := by rw [B_size]; omega
  obtain ⟨hlt, ⟨c0, c1, c2, c3⟩, -⟩ := h.at_.four
  rw [ho] at c3
  clear h ho
  go_enter Tryz.func9, Tryz.ntmps9
  go_wp2
  go_ret2
  exact ⟨rfl, rfl⟩
theorem app10 {w : World} {v : Value} {bs : By} (h : BO w 0 v bs) (hl : bs.length ≤ 1000000000) : ∃ v' w', (Builtin.append_ #[41, 41] 41 #[v, .slice (some ⟨w.heap.size, 0, none⟩) 1 1]).run Tryz.prog (w.alloc (.cells #[.int .u8 10] 5)) = .ok v' w' ∧ BO w' 0 v' (bs ++ [10]) ∧ Turn (fun k => v.ownBlock = some k) w w' ∧ Lies v v' w.heap.size := by
  obtain ⟨v', w', hr, hbo, ht, hown⟩ := app1 h 10 (by omega) 41
  refine ⟨v', w', hr, hbo, ht, fun k hk => ?_⟩
  rcases hown with e | e
  · exact Or.inl (by rw [← e]; exact hk)
  · rw [e] at hk; injection hk with hk; right; omega
theorem appS {w : World} {v : Value} {bs : By} (h : BO w 0 v bs) (l : By) (hl : bs.length + l.length ≤ 1000000000) : ∃ v' w', (Builtin.append_ #[41, 9] 41 #[v, .string (B l)]).run Tryz.prog w = .ok v' w' ∧ BO w' 0 v' (bs ++ l) ∧ Turn (fun k => v.ownBlock = some k) w w' ∧ Lies v v' w.heap.size := by
  obtain ⟨v', w', hr, hbo, hg, hown⟩ := apps h (B l) (by rw [B_size]; omega) 41
  rw [B_list] at hbo
  refine ⟨v', w', hr, hbo, Turn.of_grown hg (fun j hj => Or.inl hj), fun k hk => ?_⟩
  rcases hown with e | e
  · exact Or.inl (by rw [← e]; exact hk)
  · rw [e] at hk; injection hk with hk; right; omega
/-- The line is laid down: it is answered, and an empty one stands there. -/
theorem TK.line (h : TK w b v s d wr i st acc ov vv) (hbw : b < w.heap.size) (hi : i < 65536) (l : By) (hl : l.length ≤ 2200) {w4 : World} {v4 : Value} {lg : Bool} {m : Mp} {ln : By} {oo : Bool} (r4 : RY w4 b v4 ⟨m, ln, lg, oo⟩) (t4 : Turn (fun j => j = b) wr w4) (l4 : Lies vv v4 wr.heap.size) :
    ∃ v5 w5 v6 w6, (Builtin.append_ #[41, 9] 41 #[ov, .string (B l)]).run Tryz.prog w4 = .ok v5 w5 ∧ (Builtin.append_ #[41, 41] 41 #[v5, .slice (some ⟨w5.heap.size, 0, none⟩) 1 1]).run Tryz.prog (w5.alloc (.cells #[.int .u8 10] 5)) = .ok v6 w6 ∧
      RY ((w6.setCell ⟨b, 1, none⟩ (.string (B []))).setCell ⟨b, 2, none⟩ (.bool false)) b v4 ⟨m, [], false, oo⟩ ∧ BO ((w6.setCell ⟨b, 1, none⟩ (.string (B []))).setCell ⟨b, 2, none⟩ (.bool false)) 0 v6 (acc ++ (l ++ [10])) ∧
      Turn (fun j => j = b ∨ ov.ownBlock = some j) wr ((w6.setCell ⟨b, 1, none⟩ (.string (B []))).setCell ⟨b, 2, none⟩ (.bool false)) ∧ Lies ov v6 wr.heap.size ∧ RY w6 b v4 ⟨m, ln, lg, oo⟩ := by
  have hnb := h.nb hbw
  have hacc := h.len
  have hbo4 : BO w4 0 ov acc := h.bo.turn t4 (fun k hk e => hnb (by rw [hk, e]))
  have s4 := t4.size
  obtain ⟨v5, w5, e5, p5, t5, l5⟩ := appS hbo4 l (by omega)
  have s5 := t5.size
  have hnp := bo_pr hbo4 r4.pr
  have r5 : RY w5 b v4 ⟨m, ln, lg, oo⟩ := r4.turn t5 hnb (fun k hk e => hnp k e hk)
  obtain ⟨v6, w6, e6, p6, t6, l6⟩ := app10 p5 (by rw [List.length_append]; omega)
  have hnb5 : v5.ownBlock ≠ some b := fun e => by
    rcases l5 b e with q | q
    · exact hnb q
    · have := h.ry.at_.1; omega
  have hnp5 := bo_pr p5 r5.pr
  have r6 : RY w6 b v4 ⟨m, ln, lg, oo⟩ := r5.turn t6 hnb5 (fun k hk e => hnp5 k e hk)
  have hnb6 : v6.ownBlock ≠ some b := fun e => by
    rcases l6 b e with q | q
    · exact hnb5 q
    · have := h.ry.at_.1; omega
  have ta := turn_set w6 b 1 (.string (B []))
  have tb := turn_set (w6.setCell ⟨b, 1, none⟩ (.string (B []))) b 2 (.bool false)
  have r7 : RY (w6.setCell ⟨b, 1, none⟩ (.string (B []))) b v4 ⟨m, [], lg, oo⟩ := r6.same rfl rfl rfl
  have r8 : RY ((w6.setCell ⟨b, 1, none⟩ (.string (B []))).setCell ⟨b, 2, none⟩ (.bool false)) b v4 ⟨m, [], false, oo⟩ := r7.same rfl rfl rfl
  have p8 := p6.turn (ta.trans tb) (fun k hk e => hnb6 (by rw [hk, e]))
  rw [List.append_assoc] at p8
  refine ⟨v5, w5, v6, w6, e5, e6, r8, p8, ?_, (l5.trans l6 s5).le s4, r6⟩
  have tA : Turn (fun j => j = b ∨ ov.ownBlock = some j) wr w5 := (t4.mono (fun k hk => Or.inl hk)).trans (t5.mono (fun k hk => Or.inr hk))
  have tB := tA.step t6 (fun j hj => by
    rcases l5 j hj with q | q
    · exact Or.inl (Or.inr q)
    · exact Or.inr (Nat.le_trans s4 q))
  exact tB.trans ((ta.trans tb).mono (fun k hk => Or.inl hk))
set_option maxHeartbeats 8000000 in
theorem rtake_any (h : RY w b v s) (hO : Ok s) (ho : s.over = false) (d : By) (hd : d.length ≤ 65536) :
    Calls Tryz.prog 9 #[PB b, .string (B d)] w fun e w' => e = .returned (.tuple #[.string (B (takeF s d).1), .int .i64 0]) ∧ ∃ v', RY w' b v' (takeF s d).2 ∧ Turn (fun j => j = b) w w' ∧ Lies v v' w.heap.size := by
  have hz : ¬ (65536 : Int) < ((B d).size : Int) := by rw [B_size]; omega
  have HT0 : Hid _ := TK.start h hO d
  have HBW : Hid (b < w.heap.size) := h.at_.1
  obtain ⟨hlt, ⟨c0, c1, c2, c3⟩, -⟩ := h.at_.four
  rw [ho] at c3
  obtain ⟨R, hR⟩ : ∃ R, R = takeF s d := ⟨_, rfl⟩
  rw [← hR]
  have HR : Hid _ := hR
  clear h hO ho hR
  go_enter Tryz.func9, Tryz.ntmps9
  go_wp2
  clear c0 c1 c2 c3
  go_loopw [6, 7] (fun x y wr => ∃ (i : Nat) (st : St) (acc : By) (ov vv : Value), TK w b v s d wr i st acc ov vv ∧ x = ov ∧ y = .int .i64 (i : Int)) (fun x y wr => d.length - natOf y)
  case atStart => exact ⟨0, s, [], _, v, HT0.out, rfl, rfl⟩
  case round =>
    obtain ⟨i, st, acc, ov, vv, hT, hx0, rfl⟩ := hrel
    obtain ⟨a9, n9, c9, hov⟩ : ∃ a n c, ov = .slice a n c := by obtain ⟨a, k, e, -⟩ := hT.bo.shape; exact ⟨a, _, k, e⟩
    subst hov
    subst hx0
    have HT : Hid _ := hT
    obtain ⟨hltr, ⟨c0, c1, c2, c3⟩, ⟨f0, f1, f2, f3⟩⟩ := hT.ry.at_.four
    have hle := hT.le
    have hll := hT.ok.line
    have hi1 : ((i + 1 : Nat) : Int) = (i : Int) + 1 := by omega
    have hbt := hT.bo.text
    clear hT
    by_cases hp : i < d.length
    · obtain ⟨x, hx⟩ : ∃ x, d[i]? = some x := ⟨_, List.getElem?_eq_getElem hp⟩
      have hp' : (i : Int) < ((B d).size : Int) := by rw [B_size]; omega
      have hix := ixB d i x hx
      obtain ⟨m, l, lg, oo⟩ := st
      simp only at c1 c2 c3 hll
      cases oo
      · have HX : Hid (d[i]? = some x) := hx
        have hlz : (B l).size ≤ 256 := by rw [B_size]; exact hll
        clear hx
        by_cases h10 : x = 10
        · have h10' : (x.toNat : Int) = 10 := by rw [h10]; rfl
          cases lg
          · have hln := rline_any HT.out.ry HT.out.ok.toM l hll
            have hbF : byteF ⟨m, l, false, false⟩ x = ((ansF m l).1 ++ [10], ⟨(ansF m l).2.1, [], false, (ansF m l).2.2⟩) := by rw [h10]; rfl
            have hal := (ans_ok (m := m) HT.out.ok.toM hll).2
            generalize ansF m l = q at hln hbF hal
            have HB : Hid _ := hbF
            clear hbF h10 hbt
            go_wp2_with fail
            refine hln.mono ?_
            rintro e w4 ⟨rfl, v4, r4, t4, l4⟩
            obtain ⟨v5, w5, v6, w6, e5, e6, r8, p8, t8, l6, r6⟩ := HT.out.line HBW.out (by omega) q.1 hal r4 t4 l4
            obtain ⟨hlt6, ⟨d0, d1, d2, d3⟩, ⟨g0, g1, g2, g3⟩⟩ := r6.at_.four
            have HN : Hid _ := HT.out.next HX.out HB.out r8 p8 t8 l4 l6
            have hsh : ∃ a n c, v6 = .slice a n c := by obtain ⟨a, k, e, -⟩ := p8.shape; exact ⟨a, _, k, e⟩
            have hsh5 : ∃ a n c, v5 = .slice a n c := by
              cases v5 <;> first | exact ⟨_, _, _, rfl⟩ | (exfalso; simp [Builtin.append_, run_underlying Tryz.underlying41] at e6)
            clear r8 p8 t8 l6 r6 r4 t4 l4 c0 c1 c2 c3 f0 f1 f2 f3 hln
            obtain ⟨_, _, _, rfl⟩ := hsh
            obtain ⟨_, _, _, rfl⟩ := hsh5
            go_wp2_with (first
              | (at_builtin; refine wpList_appE rfl _ _ rfl rfl rfl e5 ?_)
              | (at_builtin; refine wpList_appE rfl _ _ rfl rfl rfl e6 ?_))
            go_roundw
            case rel => exact ⟨i + 1, _, _, _, _, HN.out, rfl, by rw [hi1]⟩
            case measure => simp only [natOf]; omega
          · have hbF : byteF ⟨m, l, true, false⟩ x = (bBAD ++ [10], ⟨m, [], false, false⟩) := by rw [h10]; rfl
            have HB : Hid _ := hbF
            obtain ⟨v5, w5, v6, w6, e5, e6, r8, p8, t8, l6, r6⟩ := HT.out.line HBW.out (by omega) bBAD (by simp) HT.out.ry (Turn.refl _) (Lies.refl _ _)
            obtain ⟨hlt6, ⟨d0, d1, d2, d3⟩, ⟨g0, g1, g2, g3⟩⟩ := r6.at_.four
            have HN : Hid _ := HT.out.next HX.out HB.out r8 p8 t8 (Lies.refl _ _) l6
            have hsh : ∃ a n c, v6 = .slice a n c := by obtain ⟨a, k, e, -⟩ := p8.shape; exact ⟨a, _, k, e⟩
            clear r8 p8 t8 l6 r6 hbF h10 hbt f0 f1 f2 f3
            obtain ⟨_, _, _, rfl⟩ := hsh
            go_wp2_with (first
              | (at_builtin; refine wpList_appE rfl _ _ rfl rfl rfl e5 ?_)
              | (at_builtin; refine wpList_appE rfl _ _ rfl rfl rfl e6 ?_))
            go_roundw
            case rel => exact ⟨i + 1, _, _, _, _, HN.out, rfl, by rw [hi1]⟩
            case measure => simp only [natOf]; omega
        · have h10' : ¬ (x.toNat : Int) = 10 := fun e => h10 (by
            apply UInt8.toNat_inj.1
            have : x.toNat = 10 := by omega
            rw [this]; rfl)
          have hb0 : byteF ⟨m, l, lg, false⟩ x = ([], gath ⟨m, l, lg, false⟩ [x]) := by
            unfold byteF
            rw [if_neg (by simp), if_neg h10]
          by_cases hl256 : l.length < 256
          · rw [gath_small hl256] at hb0
            have hl' : ¬ (256 : Int) ≤ ((B l).size : Int) := by rw [B_size]; omega
            have HB : Hid _ := hb0
            have hcv : (convert 41 9 (.slice (some ⟨wr.heap.size, 0, none⟩) 1 1)).run Tryz.prog (wr.alloc (.cells #[.int .u8 (x.toNat : Int)] 5)).drew = .ok (.string (B [x])) (wr.alloc (.cells #[.int .u8 (x.toNat : Int)] 5)).drew := run_one _ _ _ _ rfl (by show (wr.alloc (.cells #[.int .u8 (x.toNat : Int)] 5)).cell? _ = _; simp [World.cell?_alloc_new])
            have hd0 : Below wr.heap.size wr (wr.alloc (.cells #[.int .u8 (x.toNat : Int)] 5)).drew := Below.drew (bel1 _ _)
            have hr1 : RY ((wr.alloc (.cells #[.int .u8 (x.toNat : Int)] 5)).drew.setCell ⟨b, 1, none⟩ (.string (B l ++ B [x]))) b vv ⟨m, l ++ [x], lg, false⟩ := (HT.out.ry.later hd0).same rfl rfl (by rw [B_app]; rfl)
            have ts := turn_set (wr.alloc (.cells #[.int .u8 (x.toNat : Int)] 5)).drew b 1 (.string (B l ++ B [x]))
            have hnb := HT.out.nb HBW.out
            have hbo1 : BO ((wr.alloc (.cells #[.int .u8 (x.toNat : Int)] 5)).drew.setCell ⟨b, 1, none⟩ (.string (B l ++ B [x]))) 0 (.slice a9 n9 c9) (acc ++ []) := by
              rw [List.append_nil]
              exact (HT.out.bo.later hd0).turn ts (fun k hk e => hnb (by rw [hk, e]))
            have HN0 := HT.out.next HX.out HB.out hr1 hbo1 (((Turn.of_below hd0).trans ts).mono (fun k hk => Or.inl hk)) (Lies.refl _ _) (Lies.refl _ _)
            rw [World.setCell_drew, World.setCell_alloc_past (hn := hltr)] at HN0
            have HN : Hid _ := HN0
            clear HN0
            obtain ⟨hlt6, ⟨d0, d1, d2, d3⟩, ⟨g0, g1, g2, g3⟩⟩ := (HT.out.ry.later hd0).at_.four
            have hbz : (B [x]).size ≤ 1 := by rw [B_size]; simp
            have k1 : wr.drew.cell? ⟨b, 1, none⟩ = some (.string (B l)) := c1
            clear hr1 ts hbo1 hb0 hbt h10 hl256 f0 f2 f3
            go_wp2
            go_region
            all_goals
              go_wp2
              go_roundw
              case rel => exact ⟨i + 1, _, _, _, _, HN.out, rfl, by rw [hi1]⟩
              case measure => simp only [natOf]; omega
          · rw [gath_big (by simp only; omega)] at hb0
            have hl' : (256 : Int) ≤ ((B l).size : Int) := by rw [B_size]; omega
            have HB : Hid _ := hb0
            have ts := turn_set wr b 2 (.bool true)
            have hnb := HT.out.nb HBW.out
            have hr1 : RY (wr.setCell ⟨b, 2, none⟩ (.bool true)) b vv ⟨m, l, true, false⟩ := HT.out.ry.same rfl rfl rfl
            have hbo1 : BO (wr.setCell ⟨b, 2, none⟩ (.bool true)) 0 (.slice a9 n9 c9) (acc ++ []) := by
              rw [List.append_nil]
              exact HT.out.bo.turn ts (fun k hk e => hnb (by rw [hk, e]))
            have HN : Hid _ := HT.out.next HX.out HB.out hr1 hbo1 (ts.mono (fun k hk => Or.inl hk)) (Lies.refl _ _) (Lies.refl _ _)
            clear hr1 ts hbo1 hb0 hbt h10 hl256
            go_wp2
            go_roundw
            case rel => exact ⟨i + 1, _, _, _, _, HN.out, rfl, by rw [hi1]⟩
            case measure => simp only [natOf]; omega
      · have hfin : R = (acc, ⟨m, l, lg, true⟩) := HR.out.trans (HT.out.fin (Or.inl rfl))
        have HF : Hid _ := And.intro HT.out.ry (And.intro HT.out.turn HT.out.lies)
        clear HR
        subst hfin
        go_wp2
        go_ret2
        exact ⟨rfl, _, HF.out⟩
    · have hp' : ¬ (i : Int) < ((B d).size : Int) := by rw [B_size]; omega
      have hfin : R = (acc, st) := HR.out.trans (HT.out.fin (Or.inr (by omega)))
      have HF : Hid _ := And.intro HT.out.ry (And.intro HT.out.turn HT.out.lies)
      clear HR
      subst hfin
      go_wp2
      go_ret2
      exact ⟨rfl, _, HF.out⟩
end
end Go.Proofs.YtadmpdeegnppjaaGreatDoor
