/- The document's side: whole. -/
import Derived.Test.YtadmpdeegnppjaaGreatDoorRc
namespace Go.Proofs.YtadmpdeegnppjaaGreatDoor
open Go.RowKit Go.Maps Go.Shelf Go.Lib
set_option maxRecDepth 100000
set_option linter.unusedVariables false
set_option linter.unusedSimpArgs false


def wh (s : By) : Int × Bool := (numV s, (numF s).isSome)
theorem wh_pos {u : By} (h : Canon u) : wh u = ((dval 0 u : Int), true) := by
  unfold wh numV
  rw [num_pos h]
  rfl
theorem wh_neg {u : By} (h : Canon u) : wh (45 :: u) = (-(dval 0 u : Int), decide (dval 0 u ≠ 0)) := by
  unfold wh numV
  by_cases h0 : dval 0 u = 0
  · rw [num_zero h h0, h0]
    rfl
  · rw [num_neg h h0, decide_eq_true h0]
    rfl
theorem wh_nopos {u : By} (h : ¬ Canon u) (h0 : u.head? ≠ some 45) : wh u = (0, false) := by
  unfold wh numV
  rw [num_nopos h h0]
  rfl
theorem wh_noneg {u : By} (h : ¬ Canon u) : wh (45 :: u) = (0, false) := by
  unfold wh numV
  rw [num_noneg h]
  rfl
theorem dval_take {u : By} {i : Nat} {x : UInt8} (h : u[i]? = some x) : dval 0 (u.take (i + 1)) = dval 0 (u.take i) * 10 + (x.toNat - 48) := by
  rw [take_snoc h, dval_app]
theorem dval_bound {u : By} (hl : u.length ≤ 9) (i : Nat) (ha : (u.take i).all dig = true) : dval 0 (u.take i) < 1000000000 := by
  have h1 := dval_lt (u.take i) 0 ha
  have h2 : 10 ^ (u.take i).length ≤ 10 ^ 9 := Nat.pow_le_pow_right (by decide) (by rw [List.length_take]; omega)
  omega
theorem u8_is {x : UInt8} {n : Nat} (hn : n < 256) : (x.toNat : Int) = (n : Int) ↔ x = UInt8.ofNat n := by
  constructor
  · intro e
    apply UInt8.toNat_inj.1
    rw [UInt8.toNat_ofNat']
    omega
  · intro e
    rw [e, UInt8.toNat_ofNat']
    omega

set_option maxHeartbeats 4000000 in
theorem rwhole_neg (u : By) (w : World) (hs : u.length ≤ 1000000) : Calls Tryz.prog 53 #[.string (B (45 :: u))] w fun e w' => e = .returned (.tuple #[.int .i64 (wh (45 :: u)).1, .bool (wh (45 :: u)).2]) ∧ Below w.heap.size w w' := by
  obtain ⟨R, hR⟩ : ∃ R, R = wh (45 :: u) := ⟨_, rfl⟩
  rw [← hR]
  have HR : Hid _ := hR
  clear hR
  have q0 : ((B (45 :: u)).toList == ([] : By)) = false := by rw [B_tl]; rfl
  have hy0 : ∀ W, (Instr.index 9 (.string (B (45 :: u))) (.int .i64 0)).run Tryz.prog W = .ok (.int .u8 45) W := ixB (45 :: u) 0 45 rfl
  have hy1 : ∀ W, (Instr.slice 9 (.string (B (45 :: u))) (some (.int .i64 1)) none none).run Tryz.prog W = .ok (.string (B u)) W := slF (45 :: u) 1 (by simp)
  go_enter Tryz.func53, Tryz.ntmps53
  go_upto_region 4 with fail
  cases hu : u with
  | nil =>
    subst hu
    have HBAD : R = (0, false) := HR.out.trans (wh_noneg (fun q => q.ne rfl))
    have qu : ((B []).toList == ([] : By)) = true := by rw [B_tl]; rfl
    clear HR
    subst HBAD
    go_wp2
    go_ret2
    exact ⟨rfl, Below.refl _ _⟩
  | cons z r =>
    rw [← hu]
    have hune : u ≠ [] := by rw [hu]; simp
    have qu : ((B u).toList == ([] : By)) = false := by rw [B_tl]; exact beq_eq_false_iff_ne.2 hune
    have hz0 : ∀ W, (Instr.index 9 (.string (B u)) (.int .i64 0)).run Tryz.prog W = .ok (.int .u8 (z.toNat : Int)) W := ixB u 0 z (by rw [hu]; rfl)
    have hhd : u.head? = some z := by rw [hu]; rfl
    have hus : (B u).size ≤ 1000001 := by rw [B_size]; omega
    have HHD : Hid _ := hhd
    have HUN : Hid _ := hune
    clear hhd hune hu
    by_cases hl9 : u.length ≤ 9
    · have hl9' : ¬ (9 : Int) < ((B u).size : Int) := by rw [B_size]; omega
      have HL : Hid (u.length ≤ 9) := hl9
      by_cases hl1 : 1 < u.length ∧ z = 48
      · have HBAD : R = (0, false) := HR.out.trans (wh_noneg (fun q => q.head hl1.1 (by rw [HHD.out, hl1.2])))
        have hl1' : (1 : Int) < ((B u).size : Int) := by rw [B_size]; omega
        have hz' : (z.toNat : Int) = 48 := by rw [hl1.2]; rfl
        clear HR hl1 hl9
        subst HBAD
        go_wp2
        go_ret2
        exact ⟨rfl, Below.refl _ _⟩
      · have HH : Hid (1 < u.length → u.head? ≠ some 48) := by
          intro h1 h2
          rw [HHD.out] at h2
          injection h2 with h2
          exact hl1 ⟨h1, h2⟩
        have hpre : ∀ (P : Prop), ((¬ (1 : Int) < ((B u).size : Int)) → P) → ((1 : Int) < ((B u).size : Int) → ¬ (z.toNat : Int) = 48 → P) → P := fun P p1 p2 => by
          by_cases h1 : 1 < u.length
          · exact p2 (by rw [B_size]; omega) (fun e => hl1 ⟨h1, by
              have := (u8_is (x := z) (n := 48) (by decide)).1 e
              rw [this]; rfl⟩)
          · exact p1 (by rw [B_size]; omega)
        have HB0 : Hid (Below w.heap.size w w) := Below.refl _ _
        clear hl1 hl9
        refine hpre _ (fun g1 => ?_) (fun g1 g2 => ?_)
        all_goals
          clear hpre
          go_wp2
          go_loopw [5, 6] (fun x y wr => ∃ i : Nat, y = .int .i64 (i : Int) ∧ x = .int .i64 (dval 0 (u.take i) : Int) ∧ Below w.heap.size w wr ∧ (u.take i).all dig = true ∧ i ≤ u.length) (fun x y wr => (B u).size - natOf y)
          case atStart => exact ⟨0, rfl, rfl, Below.refl _ _, rfl, Nat.zero_le _⟩
          case round =>
            obtain ⟨i, rfl, rfl, hbw, hok, hle⟩ := hrel
            have hb := dval_bound HL.out i hok
            have hi1 : ((i + 1 : Nat) : Int) = (i : Int) + 1 := by omega
            by_cases hp : i < u.length
            · obtain ⟨x, hx⟩ : ∃ x, u[i]? = some x := ⟨_, List.getElem?_eq_getElem hp⟩
              have hp' : (i : Int) < ((B u).size : Int) := by rw [B_size]; omega
              have hix := ixB u i x hx
              have hdv := dval_take hx
              by_cases hd : dig x = true
              · have HA : Hid ((u.take (i + 1)).all dig = true) := by
                  show _ = _
                  rw [take_snoc hx, List.all_append, hok]
                  simp [hd]
                obtain ⟨d0, d1⟩ := dig_iff.1 hd
                have d0' : ¬ (x.toNat : Int) < 48 := by omega
                have d1' : ¬ (57 : Int) < (x.toNat : Int) := by omega
                have hN : Hid ((dval 0 (u.take (i + 1)) : Int) = (dval 0 (u.take i) : Int) * 10 + ((x.toNat : Int) - 48)) := by
                  show _ = _
                  rw [hdv]; omega
                have e0 : (0 : Int) ≤ (x.toNat : Int) - 48 := by omega
                have e1 : (x.toNat : Int) - 48 ≤ 9 := by omega
                clear hok hx hdv hd
                generalize hq : dval 0 (u.take i) = q at hb hN
                have HQ : Hid _ := hq
                clear hq
                go_wp2
                go_roundw
                case rel => exact ⟨i + 1, by rw [hi1], congrArg _ hN.out.symm, hbw, HA.out, hp⟩
                case measure => simp only [natOf]; omega
              · have HBAD : R = (0, false) := HR.out.trans (wh_noneg (fun q => hd (List.all_eq_true.1 q.all x (List.mem_of_getElem? hx))))
                clear HR hok hx hdv
                subst HBAD
                by_cases d0 : x.toNat < 48
                · have d0' : (x.toNat : Int) < 48 := by omega
                  go_wp2
                  go_ret2
                  exact ⟨rfl, hbw⟩
                · have d0' : ¬ (x.toNat : Int) < 48 := by omega
                  have d1 : 57 < x.toNat := by
                    have := mt (dig_iff (b := x)).2 hd
                    omega
                  have d1' : (57 : Int) < (x.toNat : Int) := by omega
                  go_wp2
                  go_ret2
                  exact ⟨rfl, hbw⟩
            · have hp' : ¬ (i : Int) < ((B u).size : Int) := by rw [B_size]; omega
              rw [List.take_of_length_le (by omega)] at hok hb
              have HC : Canon u := ⟨HUN.out, HL.out, HH.out, hok⟩
              have HBAD : R = (-(dval 0 u : Int), decide (dval 0 u ≠ 0)) := HR.out.trans (wh_neg HC)
              have htk : u.take i = u := List.take_of_length_le (by omega)
              clear HR hok HC
              rw [htk]
              by_cases hq0 : dval 0 u = 0
              · rw [hq0] at HBAD ⊢
                have H2 : R = (0, false) := HBAD.trans rfl
                clear HBAD
                subst H2
                go_wp2
                go_ret2
                exact ⟨rfl, hbw⟩
              · have hq0' : ¬ (dval 0 u : Int) = 0 := by omega
                have hq1 : ((dval 0 u : Int) != 0) = true := bne_iff_ne.2 hq0'
                rw [decide_eq_true hq0] at HBAD
                subst HBAD
                go_wp2
                go_ret2
                exact ⟨rfl, hbw⟩
    · have HBAD : R = (0, false) := HR.out.trans (wh_noneg (fun q => hl9 q.len))
      have hl9' : (9 : Int) < ((B u).size : Int) := by rw [B_size]; omega
      clear HR hl9
      subst HBAD
      go_wp2
      go_ret2
      exact ⟨rfl, Below.refl _ _⟩
set_option maxHeartbeats 4000000 in
theorem rwhole_pos (u : By) (w : World) (hs : u.length ≤ 1000000) (h45 : u.head? ≠ some 45) : Calls Tryz.prog 53 #[.string (B u)] w fun e w' => e = .returned (.tuple #[.int .i64 (wh u).1, .bool (wh u).2]) ∧ Below w.heap.size w w' := by
  obtain ⟨R, hR⟩ : ∃ R, R = wh u := ⟨_, rfl⟩
  rw [← hR]
  have HR : Hid _ := hR
  have H45 : Hid _ := h45
  clear hR h45
  go_enter Tryz.func53, Tryz.ntmps53
  cases hu : u with
  | nil =>
    subst hu
    have HBAD : R = (0, false) := HR.out.trans (wh_nopos (fun q => q.ne rfl) H45.out)
    have qu : ((B []).toList == ([] : By)) = true := by rw [B_tl]; rfl
    clear HR
    subst HBAD
    go_wp2
    go_ret2
    exact ⟨rfl, Below.refl _ _⟩
  | cons z r =>
    rw [← hu]
    have hune : u ≠ [] := by rw [hu]; simp
    have qu : ((B u).toList == ([] : By)) = false := by rw [B_tl]; exact beq_eq_false_iff_ne.2 hune
    have hz0 : ∀ W, (Instr.index 9 (.string (B u)) (.int .i64 0)).run Tryz.prog W = .ok (.int .u8 (z.toNat : Int)) W := ixB u 0 z (by rw [hu]; rfl)
    have hhd : u.head? = some z := by rw [hu]; rfl
    have hus : (B u).size ≤ 1000001 := by rw [B_size]; omega
    have hz45 : ¬ (z.toNat : Int) = 45 := fun e => H45.out (by rw [hhd, (u8_is (x := z) (n := 45) (by decide)).1 e]; rfl)
    have HHD : Hid _ := hhd
    have HUN : Hid _ := hune
    clear hhd hune hu
    by_cases hl9 : u.length ≤ 9
    · have hl9' : ¬ (9 : Int) < ((B u).size : Int) := by rw [B_size]; omega
      have HL : Hid (u.length ≤ 9) := hl9
      by_cases hl1 : 1 < u.length ∧ z = 48
      · have HBAD : R = (0, false) := HR.out.trans (wh_nopos (fun q => q.head hl1.1 (by rw [HHD.out, hl1.2])) H45.out)
        have hl1' : (1 : Int) < ((B u).size : Int) := by rw [B_size]; omega
        have hz' : (z.toNat : Int) = 48 := by rw [hl1.2]; rfl
        clear HR hl1 hl9
        subst HBAD
        go_wp2
        go_ret2
        exact ⟨rfl, Below.refl _ _⟩
      · have HH : Hid (1 < u.length → u.head? ≠ some 48) := by
          intro h1 h2
          rw [HHD.out] at h2
          injection h2 with h2
          exact hl1 ⟨h1, h2⟩
        have hpre : ∀ (P : Prop), ((¬ (1 : Int) < ((B u).size : Int)) → P) → ((1 : Int) < ((B u).size : Int) → ¬ (z.toNat : Int) = 48 → P) → P := fun P p1 p2 => by
          by_cases h1 : 1 < u.length
          · exact p2 (by rw [B_size]; omega) (fun e => hl1 ⟨h1, by
              have := (u8_is (x := z) (n := 48) (by decide)).1 e
              rw [this]; rfl⟩)
          · exact p1 (by rw [B_size]; omega)
        have HB0 : Hid (Below w.heap.size w w) := Below.refl _ _
        clear hl1 hl9
        refine hpre _ (fun g1 => ?_) (fun g1 g2 => ?_)
        all_goals
          clear hpre
          go_wp2
          go_loopw [5, 6] (fun x y wr => ∃ i : Nat, y = .int .i64 (i : Int) ∧ x = .int .i64 (dval 0 (u.take i) : Int) ∧ Below w.heap.size w wr ∧ (u.take i).all dig = true ∧ i ≤ u.length) (fun x y wr => (B u).size - natOf y)
          case atStart => exact ⟨0, rfl, rfl, Below.refl _ _, rfl, Nat.zero_le _⟩
          case round =>
            obtain ⟨i, rfl, rfl, hbw, hok, hle⟩ := hrel
            have hb := dval_bound HL.out i hok
            have hi1 : ((i + 1 : Nat) : Int) = (i : Int) + 1 := by omega
            by_cases hp : i < u.length
            · obtain ⟨x, hx⟩ : ∃ x, u[i]? = some x := ⟨_, List.getElem?_eq_getElem hp⟩
              have hp' : (i : Int) < ((B u).size : Int) := by rw [B_size]; omega
              have hix := ixB u i x hx
              have hdv := dval_take hx
              by_cases hd : dig x = true
              · have HA : Hid ((u.take (i + 1)).all dig = true) := by
                  show _ = _
                  rw [take_snoc hx, List.all_append, hok]
                  simp [hd]
                obtain ⟨d0, d1⟩ := dig_iff.1 hd
                have d0' : ¬ (x.toNat : Int) < 48 := by omega
                have d1' : ¬ (57 : Int) < (x.toNat : Int) := by omega
                have hN : Hid ((dval 0 (u.take (i + 1)) : Int) = (dval 0 (u.take i) : Int) * 10 + ((x.toNat : Int) - 48)) := by
                  show _ = _
                  rw [hdv]; omega
                have e0 : (0 : Int) ≤ (x.toNat : Int) - 48 := by omega
                have e1 : (x.toNat : Int) - 48 ≤ 9 := by omega
                clear hok hx hdv hd
                generalize hq : dval 0 (u.take i) = q at hb hN
                have HQ : Hid _ := hq
                clear hq
                go_wp2
                go_roundw
                case rel => exact ⟨i + 1, by rw [hi1], congrArg _ hN.out.symm, hbw, HA.out, hp⟩
                case measure => simp only [natOf]; omega
              · have HBAD : R = (0, false) := HR.out.trans (wh_nopos (fun q => hd (List.all_eq_true.1 q.all x (List.mem_of_getElem? hx))) H45.out)
                clear HR hok hx hdv
                subst HBAD
                by_cases d0 : x.toNat < 48
                · have d0' : (x.toNat : Int) < 48 := by omega
                  go_wp2
                  go_ret2
                  exact ⟨rfl, hbw⟩
                · have d0' : ¬ (x.toNat : Int) < 48 := by omega
                  have d1 : 57 < x.toNat := by
                    have := mt (dig_iff (b := x)).2 hd
                    omega
                  have d1' : (57 : Int) < (x.toNat : Int) := by omega
                  go_wp2
                  go_ret2
                  exact ⟨rfl, hbw⟩
            · have hp' : ¬ (i : Int) < ((B u).size : Int) := by rw [B_size]; omega
              rw [List.take_of_length_le (by omega)] at hok hb
              have HC : Canon u := ⟨HUN.out, HL.out, HH.out, hok⟩
              have HBAD : R = ((dval 0 u : Int), true) := HR.out.trans (wh_pos HC)
              have htk : u.take i = u := List.take_of_length_le (by omega)
              clear HR hok HC
              rw [htk]
              subst HBAD
              go_wp2
              go_ret2
              exact ⟨rfl, hbw⟩
    · have HBAD : R = (0, false) := HR.out.trans (wh_nopos (fun q => hl9 q.len) H45.out)
      have hl9' : (9 : Int) < ((B u).size : Int) := by rw [B_size]; omega
      clear HR hl9
      subst HBAD
      go_wp2
      go_ret2
      exact ⟨rfl, Below.refl _ _⟩
theorem rwhole_any (s : By) (w : World) (hs : s.length ≤ 1000000) : Calls Tryz.prog 53 #[.string (B s)] w fun e w' => e = .returned (.tuple #[.int .i64 (wh s).1, .bool (wh s).2]) ∧ Below w.heap.size w w' := by
  by_cases h : s.head? = some 45
  · cases s with
    | nil => cases h
    | cons x r =>
      have : x = 45 := by simpa using h
      subst this
      exact rwhole_neg r w (by simp at hs; omega)
  · exact rwhole_pos s w hs h
end Go.Proofs.YtadmpdeegnppjaaGreatDoor
