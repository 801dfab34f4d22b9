/- The contracts of mayBe, Check and Long of package opts, and of the library's ContainsFunc as they call it: each returns just the value named here; nothing that was there turns. -/
import Derived.Test.YtecoknenkjgmjabDoorOb
namespace Go.Proofs.YtecoknenkjgmjabDoor
open Go.RowKit
set_option maxRecDepth 100000

theorem any_step (rs : List (Int × Int)) (k : Nat) (r : Int × Int) (h : rs[k]? = some r) : ((rs.take (k + 1)).any fun r => !rgB r) = ((rs.take k).any (fun r => !rgB r) || !rgB r) := by
  obtain ⟨hk, rfl⟩ := List.getElem?_eq_some_iff.1 h
  rw [List.take_succ_eq_append_getElem hk, List.any_append]
  simp
theorem any_in (rs : List (Int × Int)) (k : Nat) (r : Int × Int) (h : rs[k]? = some r) (hr : rgB r = false) : (rs.any fun r => !rgB r) = true := by
  rw [List.any_eq_true]
  exact ⟨r, List.mem_of_getElem? h, by rw [hr]; rfl⟩
set_option maxHeartbeats 1000000 in
theorem idx_any (v : Value) (rs : List (Int × Int)) (w : World) (hv : Rgs w v rs) (hn : rs.length ≤ 17592186044416) :
    Calls Tryd.prog 94 #[v, .func (.func 86) #[] #[]] w fun e w' => (∃ i : Int, e = .returned (.int .i64 i) ∧ decide (0 ≤ i) = (rs.any fun r => !rgB r)) ∧ Below w.heap.size w w' := by
  obtain ⟨a, cap, rfl, hc, h⟩ := hv
  have hn' : (rs.length : Int) ≤ 17592186044416 := by omega
  rcases h with rfl | ⟨b, off, rfl, hx⟩
  · go_enter Tryd.func94, Tryd.ntmps94
    go_wp2
    go_loop [8] (fun i => i = .int .i64 0) (fun _ => 0)
    case atStart => rfl
    case round =>
      subst hrel
      go_wp2
      go_ret
      exact ⟨⟨-1, rfl, by decide⟩, Below.refl _ _⟩
  · have HX : Hid (∀ (j : Nat) (r : Int × Int), rs[j]? = some r → w.cell? ⟨b, off + j * 2, none⟩ = some (.int .i64 r.1) ∧ w.cell? ⟨b, off + j * 2 + 1, none⟩ = some (.int .i64 r.2)) := hx
    clear hx
    go_enter Tryd.func94, Tryd.ntmps94
    go_wp2
    go_loopw [8] (fun i W => ∃ k : Nat, k ≤ rs.length ∧ i = .int .i64 k ∧ ((rs.take k).any fun r => !rgB r) = false ∧ Below w.heap.size w W) (fun i _ => rs.length - (intOf i).toNat)
    case atStart => exact ⟨0, Nat.zero_le _, rfl, by simp, Below.refl _ _⟩
    case round =>
      obtain ⟨k, hk, rfl, hno, hbl⟩ := hrel
      by_cases hlt : k < rs.length
      · obtain ⟨r, hr⟩ : ∃ r, rs[k]? = some r := ⟨rs[k], List.getElem?_eq_getElem hlt⟩
        have HS : Hid (((rs.take (k + 1)).any fun r => !rgB r) = ((rs.take k).any (fun r => !rgB r) || !rgB r)) := any_step rs k r hr
        have HI : Hid (rgB r = false → (rs.any fun r => !rgB r) = true) := any_in rs k r hr
        have HN : Hid (((rs.take k).any fun r => !rgB r) = false) := hno
        obtain ⟨x1, x2⟩ := HX.out k r hr
        replace x1 := later hbl x1
        replace x2 := later hbl x2
        have l0 : (0 : Int) ≤ (k : Int) := by omega
        have l1 : (k : Int) < (rs.length : Int) := by omega
        clear hr hno
        rcases Bool.eq_false_or_eq_true (rgB r) with h | h
        · go_wp2_with fail
          refine (wrong_any r _).mono ?_
          rw [h]
          rintro e wa ⟨rfl, hb⟩
          go_wp2
          go_roundw
          case rel => exact ⟨k + 1, by omega, by go_num, by rw [HS.out, HN.out, h]; rfl, bt hbl hb⟩
          case measure => simp [intOf]; omega
        · go_wp2_with fail
          refine (wrong_any r _).mono ?_
          rw [h]
          rintro e wa ⟨rfl, hb⟩
          go_wp2
          go_ret
          exact ⟨⟨k, rfl, by rw [HI.out h]; exact decide_eq_true (by omega)⟩, bt hbl hb⟩
      · have hk' : k = rs.length := by omega
        subst hk'
        rw [List.take_length] at hno
        have HN : Hid ((rs.any fun r => !rgB r) = false) := hno
        clear hno
        go_wp2
        go_ret
        exact ⟨⟨-1, rfl, by rw [HN.out]; rfl⟩, hbl⟩
theorem cont_any (v : Value) (rs : List (Int × Int)) (w : World) (hv : Rgs w v rs) (hn : rs.length ≤ 17592186044416) :
    Calls Tryd.prog 85 #[v, .func (.func 86) #[] #[]] w fun e w' => e = .returned (.bool (rs.any fun r => !rgB r)) ∧ Below w.heap.size w w' := by
  generalize hB : (rs.any fun r => !rgB r) = B
  have hi := idx_any v rs w hv hn
  rw [hB] at hi
  clear hB hv
  go_enter Tryd.func85, Tryd.ntmps85
  go_wp2_with fail
  refine hi.mono ?_
  rintro e wa ⟨⟨i, rfl, hB⟩, hb⟩
  have HB : Hid (decide (0 ≤ i) = B) := hB
  clear hB hi
  go_wp2
  go_ret
  exact ⟨by rw [← HB.out]; simp, hb⟩

set_option maxRecDepth 100000 in
set_option maxHeartbeats 4000000 in
theorem may_any (m c t ec : Int) (sd ok sp : Bool) (v : Value) (rs : List (Int × Int)) (w : World) (hv : Rgs w v rs) (hn : rs.length ≤ 17592186044416) (hG : Ord w) :
    Calls Tryd.prog 63 #[.agg #[.int .i64 m, .int .i64 c, .int .i64 t, .int .i64 ec, .bool sd, .bool ok, .bool sp, v]] w fun e w' => e = .returned (.bool (mayO m c t ec sd ok sp rs)) ∧ Below w.heap.size w w' := by
  obtain ⟨x, cap, hvx, -⟩ := id hv
  subst hvx
  have hA := At.box w (#[.int .i64 m, .int .i64 c, .int .i64 t, .int .i64 ec, .bool sd, .bool ok, .bool sp, .slice x rs.length cap]) 26
  have hl := bel1 w (.cells (#[.int .i64 m, .int .i64 c, .int .i64 t, .int .i64 ec, .bool sd, .bool ok, .bool sp, .slice x rs.length cap]) 26)
  obtain ⟨⟨c0, c1, c2, c3, c4, c5, c6, c7⟩, -, -⟩ := hA.eight
  have HG := hG.later hl
  have HV := hv.later hl
  have hM : mayO m c t ec sd ok sp rs = (fitsB m 65535 && fitsB c 14 && (sd || decide (c = 0)) && numB t && numB ec && (sp || (decide (t = 0) && decide (ec = 0))) && decide ((longN m sd ok sp rs.length : Int) ≤ 40) && !(rs.any fun r => !rgB r)) := by
    unfold mayO
    have e1 : decide (longN m sd ok sp rs.length ≤ 40) = decide ((longN m sd ok sp rs.length : Int) ≤ 40) := decide_eq_decide.2 (by omega)
    rw [e1]
  rw [hM]
  have HL := fun W (h : Ord W) => long_any m c t ec sd ok sp x rs.length cap W hn h
  have HC := fun W (h : Rgs W (.slice x rs.length cap) rs) => cont_any _ rs W h hn
  generalize (rs.any fun r => !rgB r) = B at HC ⊢
  generalize longN m sd ok sp rs.length = L at HL ⊢
  clear hM hv hG hn
  have HLH : Hid (∀ W, Ord W → Calls Tryd.prog 77 #[.agg (#[.int .i64 m, .int .i64 c, .int .i64 t, .int .i64 ec, .bool sd, .bool ok, .bool sp, .slice x rs.length cap])] W fun e w' => e = .returned (.int .i64 (L : Int)) ∧ Below W.heap.size W w') := HL
  have HCH : Hid (∀ W, Rgs W (.slice x rs.length cap) rs → Calls Tryd.prog 85 #[.slice x rs.length cap, .func (.func 86) #[] #[]] W fun e w' => e = .returned (.bool B) ∧ Below W.heap.size W w') := HC
  clear HL HC
  generalize hf1 : fitsB m 65535 = F1
  generalize hf2 : fitsB c 14 = F2
  generalize hf3 : numB t = F3
  generalize hf4 : numB ec = F4
  have Q1 := fun W => fits_any m 65535 W
  have Q2 := fun W => fits_any c 14 W
  have Q3 := fun W => number_any t W
  have Q4 := fun W => number_any ec W
  rw [hf1] at Q1; rw [hf2] at Q2; rw [hf3] at Q3; rw [hf4] at Q4
  clear hf1 hf2 hf3 hf4
  have R1 : Hid (∀ W, Calls Tryd.prog 83 #[.int .i64 m, .int .i64 65535] W fun e w' => e = .returned (.bool F1) ∧ w' = W) := Q1
  have R2 : Hid (∀ W, Calls Tryd.prog 83 #[.int .i64 c, .int .i64 14] W fun e w' => e = .returned (.bool F2) ∧ w' = W) := Q2
  have R3 : Hid (∀ W, Calls Tryd.prog 84 #[.int .i64 t] W fun e w' => e = .returned (.bool F3) ∧ w' = W) := Q3
  have R4 : Hid (∀ W, Calls Tryd.prog 84 #[.int .i64 ec] W fun e w' => e = .returned (.bool F4) ∧ w' = W) := Q4
  clear Q1 Q2 Q3 Q4
  cases F1
  · go_enter Tryd.func63, Tryd.ntmps63
    go_wp2_with fail
    refine (R1.out _).mono ?_
    rintro e w' ⟨rfl, rfl⟩
    go_wp2
    go_ret
    exact ⟨by simp [*], hl⟩
  cases F2
  · go_enter Tryd.func63, Tryd.ntmps63
    go_wp2_with fail
    refine (R1.out _).mono ?_
    rintro e w' ⟨rfl, rfl⟩
    go_wp2_with fail
    refine (R2.out _).mono ?_
    rintro e w' ⟨rfl, rfl⟩
    go_wp2
    go_ret
    exact ⟨by simp [*], hl⟩
  cases sd
  · by_cases hc : c = 0
    · subst hc
      cases F3
      · go_enter Tryd.func63, Tryd.ntmps63
        go_wp2_with fail
        refine (R1.out _).mono ?_
        rintro e w' ⟨rfl, rfl⟩
        go_wp2_with fail
        refine (R2.out _).mono ?_
        rintro e w' ⟨rfl, rfl⟩
        go_wp2_with fail
        refine (R3.out _).mono ?_
        rintro e w' ⟨rfl, rfl⟩
        go_wp2
        go_ret
        exact ⟨by simp [*], hl⟩
      cases F4
      · go_enter Tryd.func63, Tryd.ntmps63
        go_wp2_with fail
        refine (R1.out _).mono ?_
        rintro e w' ⟨rfl, rfl⟩
        go_wp2_with fail
        refine (R2.out _).mono ?_
        rintro e w' ⟨rfl, rfl⟩
        go_wp2_with fail
        refine (R3.out _).mono ?_
        rintro e w' ⟨rfl, rfl⟩
        go_wp2_with fail
        refine (R4.out _).mono ?_
        rintro e w' ⟨rfl, rfl⟩
        go_wp2
        go_ret
        exact ⟨by simp [*], hl⟩
      cases sp
      · by_cases ht : t = 0
        · subst ht
          by_cases he : ec = 0
          · subst he
            by_cases hL : (L : Int) ≤ 40
            · cases B
              · go_enter Tryd.func63, Tryd.ntmps63
                go_wp2_with fail
                refine (R1.out _).mono ?_
                rintro e w' ⟨rfl, rfl⟩
                go_wp2_with fail
                refine (R2.out _).mono ?_
                rintro e w' ⟨rfl, rfl⟩
                go_wp2_with fail
                refine (R3.out _).mono ?_
                rintro e w' ⟨rfl, rfl⟩
                go_wp2_with fail
                refine (R4.out _).mono ?_
                rintro e w' ⟨rfl, rfl⟩
                go_wp2_with fail
                refine (HLH.out _ HG).mono ?_
                rintro e wa ⟨rfl, hb⟩
                obtain ⟨⟨d0, d1, d2, d3, d4, d5, d6, d7⟩, -, -⟩ := (hA.later hb).eight
                go_wp2_with fail
                refine (HCH.out _ (HV.later hb)).mono ?_
                rintro e wb ⟨rfl, hb2⟩
                go_wp2
                go_ret
                exact ⟨by simp [*], bt (bt hl hb) hb2⟩
              · go_enter Tryd.func63, Tryd.ntmps63
                go_wp2_with fail
                refine (R1.out _).mono ?_
                rintro e w' ⟨rfl, rfl⟩
                go_wp2_with fail
                refine (R2.out _).mono ?_
                rintro e w' ⟨rfl, rfl⟩
                go_wp2_with fail
                refine (R3.out _).mono ?_
                rintro e w' ⟨rfl, rfl⟩
                go_wp2_with fail
                refine (R4.out _).mono ?_
                rintro e w' ⟨rfl, rfl⟩
                go_wp2_with fail
                refine (HLH.out _ HG).mono ?_
                rintro e wa ⟨rfl, hb⟩
                obtain ⟨⟨d0, d1, d2, d3, d4, d5, d6, d7⟩, -, -⟩ := (hA.later hb).eight
                go_wp2_with fail
                refine (HCH.out _ (HV.later hb)).mono ?_
                rintro e wb ⟨rfl, hb2⟩
                go_wp2
                go_ret
                exact ⟨by simp [*], bt (bt hl hb) hb2⟩
            · go_enter Tryd.func63, Tryd.ntmps63
              go_wp2_with fail
              refine (R1.out _).mono ?_
              rintro e w' ⟨rfl, rfl⟩
              go_wp2_with fail
              refine (R2.out _).mono ?_
              rintro e w' ⟨rfl, rfl⟩
              go_wp2_with fail
              refine (R3.out _).mono ?_
              rintro e w' ⟨rfl, rfl⟩
              go_wp2_with fail
              refine (R4.out _).mono ?_
              rintro e w' ⟨rfl, rfl⟩
              go_wp2_with fail
              refine (HLH.out _ HG).mono ?_
              rintro e wa ⟨rfl, hb⟩
              go_wp2
              go_ret
              exact ⟨by simp; intro h; exfalso; omega, bt hl hb⟩
          · go_enter Tryd.func63, Tryd.ntmps63
            go_wp2_with fail
            refine (R1.out _).mono ?_
            rintro e w' ⟨rfl, rfl⟩
            go_wp2_with fail
            refine (R2.out _).mono ?_
            rintro e w' ⟨rfl, rfl⟩
            go_wp2_with fail
            refine (R3.out _).mono ?_
            rintro e w' ⟨rfl, rfl⟩
            go_wp2_with fail
            refine (R4.out _).mono ?_
            rintro e w' ⟨rfl, rfl⟩
            go_wp2
            go_ret
            exact ⟨by simp [*], hl⟩
        · go_enter Tryd.func63, Tryd.ntmps63
          go_wp2_with fail
          refine (R1.out _).mono ?_
          rintro e w' ⟨rfl, rfl⟩
          go_wp2_with fail
          refine (R2.out _).mono ?_
          rintro e w' ⟨rfl, rfl⟩
          go_wp2_with fail
          refine (R3.out _).mono ?_
          rintro e w' ⟨rfl, rfl⟩
          go_wp2_with fail
          refine (R4.out _).mono ?_
          rintro e w' ⟨rfl, rfl⟩
          go_wp2
          go_ret
          exact ⟨by simp [*], hl⟩
      · skip
        by_cases hL : (L : Int) ≤ 40
        · cases B
          · go_enter Tryd.func63, Tryd.ntmps63
            go_wp2_with fail
            refine (R1.out _).mono ?_
            rintro e w' ⟨rfl, rfl⟩
            go_wp2_with fail
            refine (R2.out _).mono ?_
            rintro e w' ⟨rfl, rfl⟩
            go_wp2_with fail
            refine (R3.out _).mono ?_
            rintro e w' ⟨rfl, rfl⟩
            go_wp2_with fail
            refine (R4.out _).mono ?_
            rintro e w' ⟨rfl, rfl⟩
            go_wp2_with fail
            refine (HLH.out _ HG).mono ?_
            rintro e wa ⟨rfl, hb⟩
            obtain ⟨⟨d0, d1, d2, d3, d4, d5, d6, d7⟩, -, -⟩ := (hA.later hb).eight
            go_wp2_with fail
            refine (HCH.out _ (HV.later hb)).mono ?_
            rintro e wb ⟨rfl, hb2⟩
            go_wp2
            go_ret
            exact ⟨by simp [*], bt (bt hl hb) hb2⟩
          · go_enter Tryd.func63, Tryd.ntmps63
            go_wp2_with fail
            refine (R1.out _).mono ?_
            rintro e w' ⟨rfl, rfl⟩
            go_wp2_with fail
            refine (R2.out _).mono ?_
            rintro e w' ⟨rfl, rfl⟩
            go_wp2_with fail
            refine (R3.out _).mono ?_
            rintro e w' ⟨rfl, rfl⟩
            go_wp2_with fail
            refine (R4.out _).mono ?_
            rintro e w' ⟨rfl, rfl⟩
            go_wp2_with fail
            refine (HLH.out _ HG).mono ?_
            rintro e wa ⟨rfl, hb⟩
            obtain ⟨⟨d0, d1, d2, d3, d4, d5, d6, d7⟩, -, -⟩ := (hA.later hb).eight
            go_wp2_with fail
            refine (HCH.out _ (HV.later hb)).mono ?_
            rintro e wb ⟨rfl, hb2⟩
            go_wp2
            go_ret
            exact ⟨by simp [*], bt (bt hl hb) hb2⟩
        · go_enter Tryd.func63, Tryd.ntmps63
          go_wp2_with fail
          refine (R1.out _).mono ?_
          rintro e w' ⟨rfl, rfl⟩
          go_wp2_with fail
          refine (R2.out _).mono ?_
          rintro e w' ⟨rfl, rfl⟩
          go_wp2_with fail
          refine (R3.out _).mono ?_
          rintro e w' ⟨rfl, rfl⟩
          go_wp2_with fail
          refine (R4.out _).mono ?_
          rintro e w' ⟨rfl, rfl⟩
          go_wp2_with fail
          refine (HLH.out _ HG).mono ?_
          rintro e wa ⟨rfl, hb⟩
          go_wp2
          go_ret
          exact ⟨by simp; intro h; exfalso; omega, bt hl hb⟩
    · go_enter Tryd.func63, Tryd.ntmps63
      go_wp2_with fail
      refine (R1.out _).mono ?_
      rintro e w' ⟨rfl, rfl⟩
      go_wp2_with fail
      refine (R2.out _).mono ?_
      rintro e w' ⟨rfl, rfl⟩
      go_wp2
      go_ret
      exact ⟨by simp [*], hl⟩
  · skip
    cases F3
    · go_enter Tryd.func63, Tryd.ntmps63
      go_wp2_with fail
      refine (R1.out _).mono ?_
      rintro e w' ⟨rfl, rfl⟩
      go_wp2_with fail
      refine (R2.out _).mono ?_
      rintro e w' ⟨rfl, rfl⟩
      go_wp2_with fail
      refine (R3.out _).mono ?_
      rintro e w' ⟨rfl, rfl⟩
      go_wp2
      go_ret
      exact ⟨by simp [*], hl⟩
    cases F4
    · go_enter Tryd.func63, Tryd.ntmps63
      go_wp2_with fail
      refine (R1.out _).mono ?_
      rintro e w' ⟨rfl, rfl⟩
      go_wp2_with fail
      refine (R2.out _).mono ?_
      rintro e w' ⟨rfl, rfl⟩
      go_wp2_with fail
      refine (R3.out _).mono ?_
      rintro e w' ⟨rfl, rfl⟩
      go_wp2_with fail
      refine (R4.out _).mono ?_
      rintro e w' ⟨rfl, rfl⟩
      go_wp2
      go_ret
      exact ⟨by simp [*], hl⟩
    cases sp
    · by_cases ht : t = 0
      · subst ht
        by_cases he : ec = 0
        · subst he
          by_cases hL : (L : Int) ≤ 40
          · cases B
            · go_enter Tryd.func63, Tryd.ntmps63
              go_wp2_with fail
              refine (R1.out _).mono ?_
              rintro e w' ⟨rfl, rfl⟩
              go_wp2_with fail
              refine (R2.out _).mono ?_
              rintro e w' ⟨rfl, rfl⟩
              go_wp2_with fail
              refine (R3.out _).mono ?_
              rintro e w' ⟨rfl, rfl⟩
              go_wp2_with fail
              refine (R4.out _).mono ?_
              rintro e w' ⟨rfl, rfl⟩
              go_wp2_with fail
              refine (HLH.out _ HG).mono ?_
              rintro e wa ⟨rfl, hb⟩
              obtain ⟨⟨d0, d1, d2, d3, d4, d5, d6, d7⟩, -, -⟩ := (hA.later hb).eight
              go_wp2_with fail
              refine (HCH.out _ (HV.later hb)).mono ?_
              rintro e wb ⟨rfl, hb2⟩
              go_wp2
              go_ret
              exact ⟨by simp [*], bt (bt hl hb) hb2⟩
            · go_enter Tryd.func63, Tryd.ntmps63
              go_wp2_with fail
              refine (R1.out _).mono ?_
              rintro e w' ⟨rfl, rfl⟩
              go_wp2_with fail
              refine (R2.out _).mono ?_
              rintro e w' ⟨rfl, rfl⟩
              go_wp2_with fail
              refine (R3.out _).mono ?_
              rintro e w' ⟨rfl, rfl⟩
              go_wp2_with fail
              refine (R4.out _).mono ?_
              rintro e w' ⟨rfl, rfl⟩
              go_wp2_with fail
              refine (HLH.out _ HG).mono ?_
              rintro e wa ⟨rfl, hb⟩
              obtain ⟨⟨d0, d1, d2, d3, d4, d5, d6, d7⟩, -, -⟩ := (hA.later hb).eight
              go_wp2_with fail
              refine (HCH.out _ (HV.later hb)).mono ?_
              rintro e wb ⟨rfl, hb2⟩
              go_wp2
              go_ret
              exact ⟨by simp [*], bt (bt hl hb) hb2⟩
          · go_enter Tryd.func63, Tryd.ntmps63
            go_wp2_with fail
            refine (R1.out _).mono ?_
            rintro e w' ⟨rfl, rfl⟩
            go_wp2_with fail
            refine (R2.out _).mono ?_
            rintro e w' ⟨rfl, rfl⟩
            go_wp2_with fail
            refine (R3.out _).mono ?_
            rintro e w' ⟨rfl, rfl⟩
            go_wp2_with fail
            refine (R4.out _).mono ?_
            rintro e w' ⟨rfl, rfl⟩
            go_wp2_with fail
            refine (HLH.out _ HG).mono ?_
            rintro e wa ⟨rfl, hb⟩
            go_wp2
            go_ret
            exact ⟨by simp; intro h; exfalso; omega, bt hl hb⟩
        · go_enter Tryd.func63, Tryd.ntmps63
          go_wp2_with fail
          refine (R1.out _).mono ?_
          rintro e w' ⟨rfl, rfl⟩
          go_wp2_with fail
          refine (R2.out _).mono ?_
          rintro e w' ⟨rfl, rfl⟩
          go_wp2_with fail
          refine (R3.out _).mono ?_
          rintro e w' ⟨rfl, rfl⟩
          go_wp2_with fail
          refine (R4.out _).mono ?_
          rintro e w' ⟨rfl, rfl⟩
          go_wp2
          go_ret
          exact ⟨by simp [*], hl⟩
      · go_enter Tryd.func63, Tryd.ntmps63
        go_wp2_with fail
        refine (R1.out _).mono ?_
        rintro e w' ⟨rfl, rfl⟩
        go_wp2_with fail
        refine (R2.out _).mono ?_
        rintro e w' ⟨rfl, rfl⟩
        go_wp2_with fail
        refine (R3.out _).mono ?_
        rintro e w' ⟨rfl, rfl⟩
        go_wp2_with fail
        refine (R4.out _).mono ?_
        rintro e w' ⟨rfl, rfl⟩
        go_wp2
        go_ret
        exact ⟨by simp [*], hl⟩
    · skip
      by_cases hL : (L : Int) ≤ 40
      · cases B
        · go_enter Tryd.func63, Tryd.ntmps63
          go_wp2_with fail
          refine (R1.out _).mono ?_
          rintro e w' ⟨rfl, rfl⟩
          go_wp2_with fail
          refine (R2.out _).mono ?_
          rintro e w' ⟨rfl, rfl⟩
          go_wp2_with fail
          refine (R3.out _).mono ?_
          rintro e w' ⟨rfl, rfl⟩
          go_wp2_with fail
          refine (R4.out _).mono ?_
          rintro e w' ⟨rfl, rfl⟩
          go_wp2_with fail
          refine (HLH.out _ HG).mono ?_
          rintro e wa ⟨rfl, hb⟩
          obtain ⟨⟨d0, d1, d2, d3, d4, d5, d6, d7⟩, -, -⟩ := (hA.later hb).eight
          go_wp2_with fail
          refine (HCH.out _ (HV.later hb)).mono ?_
          rintro e wb ⟨rfl, hb2⟩
          go_wp2
          go_ret
          exact ⟨by simp [*], bt (bt hl hb) hb2⟩
        · go_enter Tryd.func63, Tryd.ntmps63
          go_wp2_with fail
          refine (R1.out _).mono ?_
          rintro e w' ⟨rfl, rfl⟩
          go_wp2_with fail
          refine (R2.out _).mono ?_
          rintro e w' ⟨rfl, rfl⟩
          go_wp2_with fail
          refine (R3.out _).mono ?_
          rintro e w' ⟨rfl, rfl⟩
          go_wp2_with fail
          refine (R4.out _).mono ?_
          rintro e w' ⟨rfl, rfl⟩
          go_wp2_with fail
          refine (HLH.out _ HG).mono ?_
          rintro e wa ⟨rfl, hb⟩
          obtain ⟨⟨d0, d1, d2, d3, d4, d5, d6, d7⟩, -, -⟩ := (hA.later hb).eight
          go_wp2_with fail
          refine (HCH.out _ (HV.later hb)).mono ?_
          rintro e wb ⟨rfl, hb2⟩
          go_wp2
          go_ret
          exact ⟨by simp [*], bt (bt hl hb) hb2⟩
      · go_enter Tryd.func63, Tryd.ntmps63
        go_wp2_with fail
        refine (R1.out _).mono ?_
        rintro e w' ⟨rfl, rfl⟩
        go_wp2_with fail
        refine (R2.out _).mono ?_
        rintro e w' ⟨rfl, rfl⟩
        go_wp2_with fail
        refine (R3.out _).mono ?_
        rintro e w' ⟨rfl, rfl⟩
        go_wp2_with fail
        refine (R4.out _).mono ?_
        rintro e w' ⟨rfl, rfl⟩
        go_wp2_with fail
        refine (HLH.out _ HG).mono ?_
        rintro e wa ⟨rfl, hb⟩
        go_wp2
        go_ret
        exact ⟨by simp; intro h; exfalso; omega, bt hl hb⟩
theorem check_o (m c t ec : Int) (sd ok sp : Bool) (v : Value) (rs : List (Int × Int)) (w : World) (hv : Rgs w v rs) (hn : rs.length ≤ 17592186044416) (hG : Ord w) :
    Calls Tryd.prog 53 #[.agg #[.int .i64 m, .int .i64 c, .int .i64 t, .int .i64 ec, .bool sd, .bool ok, .bool sp, v]] w fun e w' => e = .returned (.int .i64 (codeO (mayO m c t ec sd ok sp rs))) ∧ Below w.heap.size w w' := by
  obtain ⟨⟨c0, c1, c2, c3, c4, c5, c6, c7⟩, -, -⟩ := (At.box w #[.int .i64 m, .int .i64 c, .int .i64 t, .int .i64 ec, .bool sd, .bool ok, .bool sp, v] 26).eight
  have hl := bel1 w (.cells #[.int .i64 m, .int .i64 c, .int .i64 t, .int .i64 ec, .bool sd, .bool ok, .bool sp, v] 26)
  have hM := may_any m c t ec sd ok sp v rs _ (hv.later hl) hn (hG.later hl)
  rcases Bool.eq_false_or_eq_true (mayO m c t ec sd ok sp rs) with h | h
  all_goals
    rw [h] at hM ⊢
    go_enter Tryd.func53, Tryd.ntmps53
    go_wp2_with fail
    refine hM.mono ?_
    rintro e wa ⟨rfl, hb⟩
    go_wp2
    go_ret
    exact ⟨rfl, bt hl hb⟩
end Go.Proofs.YtecoknenkjgmjabDoor
