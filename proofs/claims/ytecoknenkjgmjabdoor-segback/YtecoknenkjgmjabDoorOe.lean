/- The contract of Encode of package opts, and of the laws' example. -/
import Derived.Test.YtecoknenkjgmjabDoorOd
namespace Go.Proofs.YtecoknenkjgmjabDoor
open Go.RowKit
set_option maxRecDepth 100000

theorem opt_bytes (K : Int) (B : ByteArray) (h0 : 0 ≤ K) (h1 : K < 256) (hB : B.size ≤ 200) : (putV K 1 ++ putV (2 + (B.size : Int)) 1 ++ B).data.toList = txtL K 1 ++ txtL (2 + (B.size : Int)) 1 ++ B.data.toList := by
  have e1 : putV K 1 = txt K 1 := putV_t K 1 (by decide) (by decide) h0 (by show K < 256; exact h1)
  have e2 : putV (2 + (B.size : Int)) 1 = txt (2 + (B.size : Int)) 1 := putV_t _ 1 (by decide) (by decide) (by omega) (by show (2 + (B.size : Int)) < 256; omega)
  rw [app_data, app_data, e1, e2, txt_toList, txt_toList]
theorem tl_2 : txtL 2 1 = [2] := by decide +kernel
theorem tl_3 : txtL 3 1 = [3] := by decide +kernel
theorem tl_4 : txtL 4 1 = [4] := by decide +kernel
theorem tl_8 : txtL 8 1 = [8] := by decide +kernel
theorem tl_5 : txtL 5 1 = [5] := by decide +kernel
theorem tl_10 : txtL 10 1 = [10] := by decide +kernel
theorem part_0 (m c t ec : Int) (sd ok sp : Bool) (rs : List (Int × Int)) (h : m ≠ 0) : partL m c t ec sd ok sp rs 0 = (putV 2 1 ++ putV (2 + ((txt m 2).size : Int)) 1 ++ (txt m 2)).data.toList := by
  have hz : (txt m 2).size = 2 := by rw [txt_size]
  rw [opt_bytes _ _ (by decide) (by decide) (by rw [hz]; decide), hz]
  simp only [partL, if_pos h]
  have e : (2 : Int) + ((2 : Nat) : Int) = 4 := rfl
  rw [e, tl_2, tl_4]
  rw [txt_toList]; rfl
theorem part_1 (m c t ec : Int) (sd ok sp : Bool) (rs : List (Int × Int)) (h : sd = true) : partL m c t ec sd ok sp rs 1 = (putV 3 1 ++ putV (2 + ((txt c 1).size : Int)) 1 ++ (txt c 1)).data.toList := by
  have hz : (txt c 1).size = 1 := by rw [txt_size]
  rw [opt_bytes _ _ (by decide) (by decide) (by rw [hz]; decide), hz]
  simp only [partL, if_pos h]
  have e : (2 : Int) + ((1 : Nat) : Int) = 3 := rfl
  rw [e, tl_3]
  rw [txt_toList]; rfl
theorem part_2 (m c t ec : Int) (sd ok sp : Bool) (rs : List (Int × Int)) (h : ok = true) : partL m c t ec sd ok sp rs 2 = (putV 4 1 ++ putV (2 + (((⟨#[]⟩ : ByteArray)).size : Int)) 1 ++ ((⟨#[]⟩ : ByteArray))).data.toList := by
  have hz : ((⟨#[]⟩ : ByteArray)).size = 0 := by rfl
  rw [opt_bytes _ _ (by decide) (by decide) (by rw [hz]; decide), hz]
  simp only [partL, if_pos h]
  have e : (2 : Int) + ((0 : Nat) : Int) = 2 := rfl
  rw [e, tl_4, tl_2]
  rfl
theorem part_3 (m c t ec : Int) (sd ok sp : Bool) (rs : List (Int × Int)) (h : sp = true) : partL m c t ec sd ok sp rs 3 = (putV 8 1 ++ putV (2 + ((txt t 4 ++ txt ec 4).size : Int)) 1 ++ (txt t 4 ++ txt ec 4)).data.toList := by
  have hz : (txt t 4 ++ txt ec 4).size = 8 := by rw [ByteArray.size_append, txt_size, txt_size]
  rw [opt_bytes _ _ (by decide) (by decide) (by rw [hz]; decide), hz]
  simp only [partL, if_pos h]
  have e : (2 : Int) + ((8 : Nat) : Int) = 10 := rfl
  rw [e, tl_8, tl_10]
  rw [app_data, txt_toList, txt_toList]; rfl
theorem part_4 (m c t ec : Int) (sd ok sp : Bool) (rs : List (Int × Int)) (h : 0 < rs.length) (hn : rs.length ≤ 4) : partL m c t ec sd ok sp rs 4 = (putV 5 1 ++ putV (2 + ((rgS rs).size : Int)) 1 ++ (rgS rs)).data.toList := by
  have hz : (rgS rs).size = rs.length * 8 := rgS_size rs
  rw [opt_bytes _ _ (by decide) (by decide) (by rw [hz]; omega), hz, tl_5]
  simp only [partL, if_pos h]
  rw [show ((rs.length * 8 : Nat) : Int) = (rs.length : Int) * 8 by omega]
  rfl
set_option maxRecDepth 100000 in
set_option maxHeartbeats 4000000 in
theorem enc_t (m c t ec : Int) (sd ok sp : Bool) (v : Value) (rs : List (Int × Int)) (w : World) (hv : Rgs w v rs) (hm : mayO m c t ec sd ok sp rs = true) (hG : Ord w) :
    Calls Tryd.prog 54 #[.agg #[.int .i64 m, .int .i64 c, .int .i64 t, .int .i64 ec, .bool sd, .bool ok, .bool sp, v]] w fun e w' => e = .returned (.tuple #[.string (encO m c t ec sd ok sp rs), .int .i64 0]) ∧ Below w.heap.size w w' := by
  have hn4 := mayO_short hm
  obtain ⟨⟨h0, h1⟩, ⟨g0, g1⟩, -, ⟨t0, t1⟩, ⟨e0, e1⟩, -, h40, hrr⟩ := mayO_t hm
  have hgt := long_ge m sd ok sp rs.length
  have HRR : Hid (∀ r ∈ rs, rgB r = true) := hrr
  obtain ⟨x, cap, hvx, -⟩ := id hv
  subst hvx
  have hA := At.box w (#[.int .i64 m, .int .i64 c, .int .i64 t, .int .i64 ec, .bool sd, .bool ok, .bool sp, .slice x rs.length cap]) 26
  have hl := bel1 w (.cells (#[.int .i64 m, .int .i64 c, .int .i64 t, .int .i64 ec, .bool sd, .bool ok, .bool sp, .slice x rs.length cap]) 26)
  have HE := encO_is m c t ec sd ok sp rs
  have hM := fun W hv hG => may_any m c t ec sd ok sp (.slice x rs.length cap) rs W hv (by omega) hG
  rw [hm] at hM
  obtain ⟨⟨c0, c1, c2, c3, c4, c5, c6, c7⟩, -, -⟩ := hA.eight
  go_enter Tryd.func54, Tryd.ntmps54
  go_wp2_with fail
  refine (hM _ (hv.later hl) (hG.later hl)).mono ?_
  rintro e w1 ⟨rfl, hb1⟩
  replace hl := bt hl hb1
  replace hA := hA.later hb1
  have HV : Hid (Rgs w1 (.slice x rs.length cap) rs) := hv.later hl
  have HG : Hid (Ord w1) := hG.later hl
  have HA : Hid (At w1 w.heap.size (#[.int .i64 m, .int .i64 c, .int .i64 t, .int .i64 ec, .bool sd, .bool ok, .bool sp, .slice x rs.length cap])) := hA
  have HL : Hid (Below w.heap.size w w1) := hl
  have HEE : Hid (encO m c t ec sd ok sp rs = bareS m c t ec sd ok sp rs 5 ++ ⟨(Lib.repeatL (⟨#[0]⟩ : ByteArray).data.toList (longN m sd ok sp rs.length - lenK m sd ok sp rs.length 5)).toArray⟩) := HE
  obtain ⟨g0', g1', g2', g3', g4'⟩ := HG.out
  clear hA hl hv hG hb1 c0 c1 c2 c3 c4 c5 c6 c7 hM hrr HE hm
  go_wp2
  clear g0' g1' g2' g3' g4'
  go_loopw [4, 12] (fun s i W => ∃ k : Nat, k ≤ 5 ∧ i = .int .i64 k ∧ s = .string (bareS m c t ec sd ok sp rs k) ∧ Below w1.heap.size w1 W) (fun _ i _ => 5 - (intOf i).toNat)
  case atStart => exact ⟨0, by omega, rfl, by rw [bareS_zero], Below.refl _ _⟩
  case round =>
    obtain ⟨k, hk, rfl, rfl, hbl⟩ := hrel
    obtain ⟨⟨c0, c1, c2, c3, c4, c5, c6, c7⟩, -, -⟩ := (HA.out.later hbl).eight
    obtain rfl | rfl | rfl | rfl | rfl | rfl : k = 0 ∨ k = 1 ∨ k = 2 ∨ k = 3 ∨ k = 4 ∨ k = 5 := by omega
    · have HT : Hid (m ≠ 0 → bareS m c t ec sd ok sp rs 1 = bareS m c t ec sd ok sp rs 0 ++ (putV 2 1 ++ putV (2 + ((txt m 2).size : Int)) 1 ++ (txt m 2))) := fun h => bareS_yes m c t ec sd ok sp rs 0 _ (part_0 m c t ec sd ok sp rs h)
      have HF : Hid (¬ (m ≠ 0) → bareS m c t ec sd ok sp rs 1 = bareS m c t ec sd ok sp rs 0) := fun h => bareS_no m c t ec sd ok sp rs 0 (by simp only [partL]; rw [if_neg h])
      have hix := ix_0 wr
      have hS := bareS_le m c t ec sd ok sp rs 0 (by omega)
      have hBz : (txt m 2).size ≤ 32 := by rw [txt_size]; omega
      have HBD : Hid (∀ W, True → Calls Tryd.prog 74 #[.agg (#[.int .i64 m, .int .i64 c, .int .i64 t, .int .i64 ec, .bool sd, .bool ok, .bool sp, .slice x rs.length cap]), .int .i64 2] W fun e w' => e = .returned (.string (txt m 2)) ∧ Below W.heap.size W w') := fun W _ => body_2 _ _ _ _ _ _ _ _ W h0 h1
      obtain ⟨B, hB⟩ : ∃ B, B = txt m 2 := ⟨_, rfl⟩
      rw [← hB] at HT HBD hBz
      clear hB
      generalize bareS m c t ec sd ok sp rs 0 = S at *
      have y1 := putV_le 2 1
      have y2 := putV_le (2 + (B.size : Int)) 1
      have r1 : ∀ W, (Op.stringOp .add (putV 2 1) (putV (2 + (B.size : Int)) 1)).run Tryd.prog W = .ok (.string (putV 2 1 ++ putV (2 + (B.size : Int)) 1)) W := fun W => run_string_add_sum W _ _ (by omega)
      have r2 : ∀ W, (Op.stringOp .add (putV 2 1 ++ putV (2 + (B.size : Int)) 1) B).run Tryd.prog W = .ok (.string (putV 2 1 ++ putV (2 + (B.size : Int)) 1 ++ B)) W := fun W => run_string_add_sum W _ _ (by simp only [ByteArray.size_append]; omega)
      have r3 : ∀ W, (Op.stringOp .add S (putV 2 1 ++ putV (2 + (B.size : Int)) 1 ++ B)).run Tryd.prog W = .ok (.string (S ++ (putV 2 1 ++ putV (2 + (B.size : Int)) 1 ++ B))) W := fun W => run_string_add_sum W _ _ (by simp only [ByteArray.size_append]; omega)
      have bz' : (B.size : Int) ≤ 32 := by omega
      clear y1 y2 hS hBz
      rcases Bool.eq_false_or_eq_true (m != 0) with hh | hh
      · go_wp2_with fail
        refine (has_2 _ _ _ _ _ _ _ x rs.length cap _).mono ?_
        rw [hh]
        rintro e wa ⟨rfl, hb⟩
        clear c0 c1 c2 c3 c4 c5 c6 c7
        have hbl2 := bt hbl hb
        obtain ⟨⟨c0, c1, c2, c3, c4, c5, c6, c7⟩, -, -⟩ := (HA.out.later hbl2).eight
        go_wp2_with fail
        refine (HBD.out _ trivial).mono ?_
        rintro e wb ⟨rfl, hb2⟩
        replace hbl2 := bt hbl2 hb2
        go_wp2_with fail
        refine (put_o _ _ _).mono ?_
        rintro e wc ⟨rfl, hb3⟩
        replace hbl2 := bt hbl2 hb3
        go_wp2_with fail
        refine (put_o _ _ _).mono ?_
        rintro e wd ⟨rfl, hb4⟩
        replace hbl2 := bt hbl2 hb4
        go_wp2
        go_roundw
        case rel => exact ⟨1, by omega, by go_num, by rw [HT.out (by simpa using hh)], hbl2⟩
        case measure => simp [intOf]
      · go_wp2_with fail
        refine (has_2 _ _ _ _ _ _ _ x rs.length cap _).mono ?_
        rw [hh]
        rintro e wa ⟨rfl, hb⟩
        go_wp2
        go_roundw
        case rel => exact ⟨1, by omega, by go_num, by rw [HF.out (by simpa using hh)], bt hbl hb⟩
        case measure => simp [intOf]
    · have HT : Hid (sd = true → bareS m c t ec sd ok sp rs 2 = bareS m c t ec sd ok sp rs 1 ++ (putV 3 1 ++ putV (2 + ((txt c 1).size : Int)) 1 ++ (txt c 1))) := fun h => bareS_yes m c t ec sd ok sp rs 1 _ (part_1 m c t ec sd ok sp rs h)
      have HF : Hid (¬ (sd = true) → bareS m c t ec sd ok sp rs 2 = bareS m c t ec sd ok sp rs 1) := fun h => bareS_no m c t ec sd ok sp rs 1 (by simp only [partL]; rw [if_neg h])
      have hix := ix_1 wr
      have hS := bareS_le m c t ec sd ok sp rs 1 (by omega)
      have hBz : (txt c 1).size ≤ 32 := by rw [txt_size]; omega
      have HBD : Hid (∀ W, True → Calls Tryd.prog 74 #[.agg (#[.int .i64 m, .int .i64 c, .int .i64 t, .int .i64 ec, .bool sd, .bool ok, .bool sp, .slice x rs.length cap]), .int .i64 3] W fun e w' => e = .returned (.string (txt c 1)) ∧ Below W.heap.size W w') := fun W _ => body_3 _ _ _ _ _ _ _ _ W g0 g1
      obtain ⟨B, hB⟩ : ∃ B, B = txt c 1 := ⟨_, rfl⟩
      rw [← hB] at HT HBD hBz
      clear hB
      generalize bareS m c t ec sd ok sp rs 1 = S at *
      have y1 := putV_le 3 1
      have y2 := putV_le (2 + (B.size : Int)) 1
      have r1 : ∀ W, (Op.stringOp .add (putV 3 1) (putV (2 + (B.size : Int)) 1)).run Tryd.prog W = .ok (.string (putV 3 1 ++ putV (2 + (B.size : Int)) 1)) W := fun W => run_string_add_sum W _ _ (by omega)
      have r2 : ∀ W, (Op.stringOp .add (putV 3 1 ++ putV (2 + (B.size : Int)) 1) B).run Tryd.prog W = .ok (.string (putV 3 1 ++ putV (2 + (B.size : Int)) 1 ++ B)) W := fun W => run_string_add_sum W _ _ (by simp only [ByteArray.size_append]; omega)
      have r3 : ∀ W, (Op.stringOp .add S (putV 3 1 ++ putV (2 + (B.size : Int)) 1 ++ B)).run Tryd.prog W = .ok (.string (S ++ (putV 3 1 ++ putV (2 + (B.size : Int)) 1 ++ B))) W := fun W => run_string_add_sum W _ _ (by simp only [ByteArray.size_append]; omega)
      have bz' : (B.size : Int) ≤ 32 := by omega
      clear y1 y2 hS hBz
      rcases Bool.eq_false_or_eq_true sd with rfl | rfl
      · go_wp2_with fail
        refine (has_3 _ _ _ _ _ _ _ x rs.length cap _).mono ?_
        rintro e wa ⟨rfl, hb⟩
        clear c0 c1 c2 c3 c4 c5 c6 c7
        have hbl2 := bt hbl hb
        obtain ⟨⟨c0, c1, c2, c3, c4, c5, c6, c7⟩, -, -⟩ := (HA.out.later hbl2).eight
        go_wp2_with fail
        refine (HBD.out _ trivial).mono ?_
        rintro e wb ⟨rfl, hb2⟩
        replace hbl2 := bt hbl2 hb2
        go_wp2_with fail
        refine (put_o _ _ _).mono ?_
        rintro e wc ⟨rfl, hb3⟩
        replace hbl2 := bt hbl2 hb3
        go_wp2_with fail
        refine (put_o _ _ _).mono ?_
        rintro e wd ⟨rfl, hb4⟩
        replace hbl2 := bt hbl2 hb4
        go_wp2
        go_roundw
        case rel => exact ⟨2, by omega, by go_num, by rw [HT.out (by simp)], hbl2⟩
        case measure => simp [intOf]
      · go_wp2_with fail
        refine (has_3 _ _ _ _ _ _ _ x rs.length cap _).mono ?_
        rintro e wa ⟨rfl, hb⟩
        go_wp2
        go_roundw
        case rel => exact ⟨2, by omega, by go_num, by rw [HF.out (by simp)], bt hbl hb⟩
        case measure => simp [intOf]
    · have HT : Hid (ok = true → bareS m c t ec sd ok sp rs 3 = bareS m c t ec sd ok sp rs 2 ++ (putV 4 1 ++ putV (2 + (((⟨#[]⟩ : ByteArray)).size : Int)) 1 ++ ((⟨#[]⟩ : ByteArray)))) := fun h => bareS_yes m c t ec sd ok sp rs 2 _ (part_2 m c t ec sd ok sp rs h)
      have HF : Hid (¬ (ok = true) → bareS m c t ec sd ok sp rs 3 = bareS m c t ec sd ok sp rs 2) := fun h => bareS_no m c t ec sd ok sp rs 2 (by simp only [partL]; rw [if_neg h])
      have hix := ix_2 wr
      have hS := bareS_le m c t ec sd ok sp rs 2 (by omega)
      have hBz : ((⟨#[]⟩ : ByteArray)).size ≤ 32 := by show 0 ≤ 32; omega
      have HBD : Hid (∀ W, True → Calls Tryd.prog 74 #[.agg (#[.int .i64 m, .int .i64 c, .int .i64 t, .int .i64 ec, .bool sd, .bool ok, .bool sp, .slice x rs.length cap]), .int .i64 4] W fun e w' => e = .returned (.string ((⟨#[]⟩ : ByteArray))) ∧ Below W.heap.size W w') := fun W _ => body_4 _ _ _ _ _ _ _ _ W
      obtain ⟨B, hB⟩ : ∃ B, B = (⟨#[]⟩ : ByteArray) := ⟨_, rfl⟩
      rw [← hB] at HT HBD hBz
      clear hB
      generalize bareS m c t ec sd ok sp rs 2 = S at *
      have y1 := putV_le 4 1
      have y2 := putV_le (2 + (B.size : Int)) 1
      have r1 : ∀ W, (Op.stringOp .add (putV 4 1) (putV (2 + (B.size : Int)) 1)).run Tryd.prog W = .ok (.string (putV 4 1 ++ putV (2 + (B.size : Int)) 1)) W := fun W => run_string_add_sum W _ _ (by omega)
      have r2 : ∀ W, (Op.stringOp .add (putV 4 1 ++ putV (2 + (B.size : Int)) 1) B).run Tryd.prog W = .ok (.string (putV 4 1 ++ putV (2 + (B.size : Int)) 1 ++ B)) W := fun W => run_string_add_sum W _ _ (by simp only [ByteArray.size_append]; omega)
      have r3 : ∀ W, (Op.stringOp .add S (putV 4 1 ++ putV (2 + (B.size : Int)) 1 ++ B)).run Tryd.prog W = .ok (.string (S ++ (putV 4 1 ++ putV (2 + (B.size : Int)) 1 ++ B))) W := fun W => run_string_add_sum W _ _ (by simp only [ByteArray.size_append]; omega)
      have bz' : (B.size : Int) ≤ 32 := by omega
      clear y1 y2 hS hBz
      rcases Bool.eq_false_or_eq_true ok with rfl | rfl
      · go_wp2_with fail
        refine (has_4 _ _ _ _ _ _ _ x rs.length cap _).mono ?_
        rintro e wa ⟨rfl, hb⟩
        clear c0 c1 c2 c3 c4 c5 c6 c7
        have hbl2 := bt hbl hb
        obtain ⟨⟨c0, c1, c2, c3, c4, c5, c6, c7⟩, -, -⟩ := (HA.out.later hbl2).eight
        go_wp2_with fail
        refine (HBD.out _ trivial).mono ?_
        rintro e wb ⟨rfl, hb2⟩
        replace hbl2 := bt hbl2 hb2
        go_wp2_with fail
        refine (put_o _ _ _).mono ?_
        rintro e wc ⟨rfl, hb3⟩
        replace hbl2 := bt hbl2 hb3
        go_wp2_with fail
        refine (put_o _ _ _).mono ?_
        rintro e wd ⟨rfl, hb4⟩
        replace hbl2 := bt hbl2 hb4
        go_wp2
        go_roundw
        case rel => exact ⟨3, by omega, by go_num, by rw [HT.out (by simp)], hbl2⟩
        case measure => simp [intOf]
      · go_wp2_with fail
        refine (has_4 _ _ _ _ _ _ _ x rs.length cap _).mono ?_
        rintro e wa ⟨rfl, hb⟩
        go_wp2
        go_roundw
        case rel => exact ⟨3, by omega, by go_num, by rw [HF.out (by simp)], bt hbl hb⟩
        case measure => simp [intOf]
    · have HT : Hid (sp = true → bareS m c t ec sd ok sp rs 4 = bareS m c t ec sd ok sp rs 3 ++ (putV 8 1 ++ putV (2 + ((txt t 4 ++ txt ec 4).size : Int)) 1 ++ (txt t 4 ++ txt ec 4))) := fun h => bareS_yes m c t ec sd ok sp rs 3 _ (part_3 m c t ec sd ok sp rs h)
      have HF : Hid (¬ (sp = true) → bareS m c t ec sd ok sp rs 4 = bareS m c t ec sd ok sp rs 3) := fun h => bareS_no m c t ec sd ok sp rs 3 (by simp only [partL]; rw [if_neg h])
      have hix := ix_3 wr
      have hS := bareS_le m c t ec sd ok sp rs 3 (by omega)
      have hBz : (txt t 4 ++ txt ec 4).size ≤ 32 := by rw [ByteArray.size_append, txt_size, txt_size]; omega
      have HBD : Hid (∀ W, True → Calls Tryd.prog 74 #[.agg (#[.int .i64 m, .int .i64 c, .int .i64 t, .int .i64 ec, .bool sd, .bool ok, .bool sp, .slice x rs.length cap]), .int .i64 8] W fun e w' => e = .returned (.string (txt t 4 ++ txt ec 4)) ∧ Below W.heap.size W w') := fun W _ => body_8 _ _ _ _ _ _ _ _ W t0 t1 e0 e1
      obtain ⟨B, hB⟩ : ∃ B, B = txt t 4 ++ txt ec 4 := ⟨_, rfl⟩
      rw [← hB] at HT HBD hBz
      clear hB
      generalize bareS m c t ec sd ok sp rs 3 = S at *
      have y1 := putV_le 8 1
      have y2 := putV_le (2 + (B.size : Int)) 1
      have r1 : ∀ W, (Op.stringOp .add (putV 8 1) (putV (2 + (B.size : Int)) 1)).run Tryd.prog W = .ok (.string (putV 8 1 ++ putV (2 + (B.size : Int)) 1)) W := fun W => run_string_add_sum W _ _ (by omega)
      have r2 : ∀ W, (Op.stringOp .add (putV 8 1 ++ putV (2 + (B.size : Int)) 1) B).run Tryd.prog W = .ok (.string (putV 8 1 ++ putV (2 + (B.size : Int)) 1 ++ B)) W := fun W => run_string_add_sum W _ _ (by simp only [ByteArray.size_append]; omega)
      have r3 : ∀ W, (Op.stringOp .add S (putV 8 1 ++ putV (2 + (B.size : Int)) 1 ++ B)).run Tryd.prog W = .ok (.string (S ++ (putV 8 1 ++ putV (2 + (B.size : Int)) 1 ++ B))) W := fun W => run_string_add_sum W _ _ (by simp only [ByteArray.size_append]; omega)
      have bz' : (B.size : Int) ≤ 32 := by omega
      clear y1 y2 hS hBz
      rcases Bool.eq_false_or_eq_true sp with rfl | rfl
      · go_wp2_with fail
        refine (has_8 _ _ _ _ _ _ _ x rs.length cap _).mono ?_
        rintro e wa ⟨rfl, hb⟩
        clear c0 c1 c2 c3 c4 c5 c6 c7
        have hbl2 := bt hbl hb
        obtain ⟨⟨c0, c1, c2, c3, c4, c5, c6, c7⟩, -, -⟩ := (HA.out.later hbl2).eight
        go_wp2_with fail
        refine (HBD.out _ trivial).mono ?_
        rintro e wb ⟨rfl, hb2⟩
        replace hbl2 := bt hbl2 hb2
        go_wp2_with fail
        refine (put_o _ _ _).mono ?_
        rintro e wc ⟨rfl, hb3⟩
        replace hbl2 := bt hbl2 hb3
        go_wp2_with fail
        refine (put_o _ _ _).mono ?_
        rintro e wd ⟨rfl, hb4⟩
        replace hbl2 := bt hbl2 hb4
        go_wp2
        go_roundw
        case rel => exact ⟨4, by omega, by go_num, by rw [HT.out (by simp)], hbl2⟩
        case measure => simp [intOf]
      · go_wp2_with fail
        refine (has_8 _ _ _ _ _ _ _ x rs.length cap _).mono ?_
        rintro e wa ⟨rfl, hb⟩
        go_wp2
        go_roundw
        case rel => exact ⟨4, by omega, by go_num, by rw [HF.out (by simp)], bt hbl hb⟩
        case measure => simp [intOf]
    · have HT : Hid (0 < rs.length → bareS m c t ec sd ok sp rs 5 = bareS m c t ec sd ok sp rs 4 ++ (putV 5 1 ++ putV (2 + ((rgS rs).size : Int)) 1 ++ (rgS rs))) := fun h => bareS_yes m c t ec sd ok sp rs 4 _ (part_4 m c t ec sd ok sp rs h hn4)
      have HF : Hid (¬ (0 < rs.length) → bareS m c t ec sd ok sp rs 5 = bareS m c t ec sd ok sp rs 4) := fun h => bareS_no m c t ec sd ok sp rs 4 (by simp only [partL]; rw [if_neg h])
      have hix := ix_4 wr
      have hS := bareS_le m c t ec sd ok sp rs 4 (by omega)
      have hBz : (rgS rs).size ≤ 32 := by rw [rgS_size]; omega
      have HBD : Hid (∀ W, Rgs W (.slice x rs.length cap) rs → Calls Tryd.prog 74 #[.agg (#[.int .i64 m, .int .i64 c, .int .i64 t, .int .i64 ec, .bool sd, .bool ok, .bool sp, .slice x rs.length cap]), .int .i64 5] W fun e w' => e = .returned (.string (rgS rs)) ∧ Below W.heap.size W w') := fun W hv => body_5 _ _ _ _ _ _ _ _ rs W hv hn4 HRR.out
      obtain ⟨B, hB⟩ : ∃ B, B = rgS rs := ⟨_, rfl⟩
      rw [← hB] at HT HBD hBz
      clear hB
      generalize bareS m c t ec sd ok sp rs 4 = S at *
      have y1 := putV_le 5 1
      have y2 := putV_le (2 + (B.size : Int)) 1
      have r1 : ∀ W, (Op.stringOp .add (putV 5 1) (putV (2 + (B.size : Int)) 1)).run Tryd.prog W = .ok (.string (putV 5 1 ++ putV (2 + (B.size : Int)) 1)) W := fun W => run_string_add_sum W _ _ (by omega)
      have r2 : ∀ W, (Op.stringOp .add (putV 5 1 ++ putV (2 + (B.size : Int)) 1) B).run Tryd.prog W = .ok (.string (putV 5 1 ++ putV (2 + (B.size : Int)) 1 ++ B)) W := fun W => run_string_add_sum W _ _ (by simp only [ByteArray.size_append]; omega)
      have r3 : ∀ W, (Op.stringOp .add S (putV 5 1 ++ putV (2 + (B.size : Int)) 1 ++ B)).run Tryd.prog W = .ok (.string (S ++ (putV 5 1 ++ putV (2 + (B.size : Int)) 1 ++ B))) W := fun W => run_string_add_sum W _ _ (by simp only [ByteArray.size_append]; omega)
      have bz' : (B.size : Int) ≤ 32 := by omega
      clear y1 y2 hS hBz
      rcases Bool.eq_false_or_eq_true (decide (0 < rs.length)) with hh | hh
      · go_wp2_with fail
        refine (has_5 _ _ _ _ _ _ _ x rs.length cap _).mono ?_
        rw [hh]
        rintro e wa ⟨rfl, hb⟩
        clear c0 c1 c2 c3 c4 c5 c6 c7
        have hbl2 := bt hbl hb
        obtain ⟨⟨c0, c1, c2, c3, c4, c5, c6, c7⟩, -, -⟩ := (HA.out.later hbl2).eight
        go_wp2_with fail
        refine (HBD.out _ ((HV.out.later hbl2))).mono ?_
        rintro e wb ⟨rfl, hb2⟩
        replace hbl2 := bt hbl2 hb2
        go_wp2_with fail
        refine (put_o _ _ _).mono ?_
        rintro e wc ⟨rfl, hb3⟩
        replace hbl2 := bt hbl2 hb3
        go_wp2_with fail
        refine (put_o _ _ _).mono ?_
        rintro e wd ⟨rfl, hb4⟩
        replace hbl2 := bt hbl2 hb4
        go_wp2
        go_roundw
        case rel => exact ⟨5, by omega, by go_num, by rw [HT.out (by simpa using hh)], hbl2⟩
        case measure => simp [intOf]
      · go_wp2_with fail
        refine (has_5 _ _ _ _ _ _ _ x rs.length cap _).mono ?_
        rw [hh]
        rintro e wa ⟨rfl, hb⟩
        go_wp2
        go_roundw
        case rel => exact ⟨5, by omega, by go_num, by rw [HF.out (by simpa using hh)], bt hbl hb⟩
        case measure => simp [intOf]
    · have hz := bareS_size m c t ec sd ok sp rs
      generalize bareS m c t ec sd ok sp rs 5 = S at *
      have hsub : ((longN m sd ok sp rs.length : Nat) : Int) - (S.size : Int) = ((longN m sd ok sp rs.length - lenK m sd ok sp rs.length 5 : Nat) : Int) := by rw [hz]; omega
      have hj : longN m sd ok sp rs.length - lenK m sd ok sp rs.length 5 ≤ 3 := by omega
      have hLL : ((longN m sd ok sp rs.length : Nat) : Int) ≤ 40 := by omega
      have hSS : (S.size : Int) ≤ 40 := by omega
      have HSUB : Hid (((longN m sd ok sp rs.length : Nat) : Int) - (S.size : Int) = ((longN m sd ok sp rs.length - lenK m sd ok sp rs.length 5 : Nat) : Int)) := hsub
      have HLO : Hid (∀ W, Ord W → Calls Tryd.prog 77 #[.agg (#[.int .i64 m, .int .i64 c, .int .i64 t, .int .i64 ec, .bool sd, .bool ok, .bool sp, .slice x rs.length cap])] W fun e w' => e = .returned (.int .i64 (longN m sd ok sp rs.length)) ∧ Below W.heap.size W w') := fun W h => long_any m c t ec sd ok sp x rs.length cap W (by omega) h
      clear hz hsub
      generalize longN m sd ok sp rs.length - lenK m sd ok sp rs.length 5 = J at *
      generalize longN m sd ok sp rs.length = L at *
      have hR : (⟨(Lib.repeatL (⟨#[0]⟩ : ByteArray).data.toList J).toArray⟩ : ByteArray).size ≤ 3 := by
        show (Lib.repeatL [0] J).length ≤ 3
        rw [Lib.repeatL_length]; simp; omega
      have HREP : Hid (∀ W, Calls Tryd.prog 76 #[.string ⟨#[0]⟩, .int .i64 J] W fun e w' => e = .returned (.string ⟨(Lib.repeatL (⟨#[0]⟩ : ByteArray).data.toList J).toArray⟩) ∧ Below W.heap.size W w') := fun W => Tryd.strings_Repeat ⟨#[0]⟩ J W (by omega) (by show 1 * J ≤ _; omega)
      generalize (⟨(Lib.repeatL (⟨#[0]⟩ : ByteArray).data.toList J).toArray⟩ : ByteArray) = R at *
      have r1 : ∀ W, (Op.stringOp .add S R).run Tryd.prog W = .ok (.string (S ++ R)) W := fun W => run_string_add_sum W _ _ (by omega)
      clear hR
      go_wp2_with fail
      refine (HLO.out _ (HG.out.later hbl)).mono ?_
      rintro e wa ⟨rfl, hb⟩
      replace hbl := bt hbl hb
      go_wp2_with fail
      rw [HSUB.out]
      refine (HREP.out _).mono ?_
      rintro e wb ⟨rfl, hb2⟩
      replace hbl := bt hbl hb2
      go_wp2
      go_ret2
      exact ⟨by rw [HEE.out]; rfl, bt HL.out hbl⟩
theorem enc_f (m c t ec : Int) (sd ok sp : Bool) (v : Value) (rs : List (Int × Int)) (w : World) (hv : Rgs w v rs) (hn : rs.length ≤ 17592186044416) (hm : mayO m c t ec sd ok sp rs = false) (hG : Ord w) :
    Calls Tryd.prog 54 #[.agg #[.int .i64 m, .int .i64 c, .int .i64 t, .int .i64 ec, .bool sd, .bool ok, .bool sp, v]] w fun e w' => e = .returned (.tuple #[.string ⟨#[]⟩, .int .i64 70]) ∧ Below w.heap.size w w' := by
  obtain ⟨⟨c0, c1, c2, c3, c4, c5, c6, c7⟩, -, -⟩ := (At.box w #[.int .i64 m, .int .i64 c, .int .i64 t, .int .i64 ec, .bool sd, .bool ok, .bool sp, v] 26).eight
  have hl := bel1 w (.cells #[.int .i64 m, .int .i64 c, .int .i64 t, .int .i64 ec, .bool sd, .bool ok, .bool sp, v] 26)
  have hM := may_any m c t ec sd ok sp v rs _ (hv.later hl) hn (hG.later hl)
  rw [hm] at hM
  go_enter Tryd.func54, Tryd.ntmps54
  go_wp2_with fail
  refine hM.mono ?_
  rintro e wa ⟨rfl, hb⟩
  go_wp2
  go_ret2
  exact ⟨rfl, bt hl hb⟩
theorem ex_may : mayO 536 0 0 0 false true false [] = true := by decide +kernel
theorem ex_is : encO 536 0 0 0 false true false [] = ⟨#[2, 4, 2, 24, 4, 2, 0, 0]⟩ := by decide +kernel
end Go.Proofs.YtecoknenkjgmjabDoor
