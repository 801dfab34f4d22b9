/- The contract of the document's bare of layer 7: the bytes of options, without what makes them a multiple of 4; nothing that was there turns. -/
import Derived.Test.YtecoknenkjgmjabDoorOe
import Derived.Deep.Cut
import Derived.Deep.CutRange
import Derived.Deep.RegionHeld3
namespace Go.Proofs.YtecoknenkjgmjabDoor
open Go.RowKit
set_option maxRecDepth 100000

theorem rt1 (n : Int) (w : World) : Calls Tryd.prog 58 #[.int .i64 n, .int .i64 1] w fun e w' => e = .returned (.string (txt n 1)) ∧ Below w.heap.size w w' := rtext_any n 1 w (by decide) (by decide)
theorem rt2 (n : Int) (w : World) : Calls Tryd.prog 58 #[.int .i64 n, .int .i64 2] w fun e w' => e = .returned (.string (txt n 2)) ∧ Below w.heap.size w w' := rtext_any n 2 w (by decide) (by decide)
theorem rt4 (n : Int) (w : World) : Calls Tryd.prog 58 #[.int .i64 n, .int .i64 4] w fun e w' => e = .returned (.string (txt n 4)) ∧ Below w.heap.size w w' := rtext_any n 4 w (by decide) (by decide)
theorem keepU {w W x : World} {p q r : Addr} {t u v : Value} (hb : Below W.heap.size W x) (h : Below w.heap.size w W ∧ W.cell? p = some t ∧ W.cell? q = some u ∧ W.cell? r = some v) : Below w.heap.size w x ∧ x.cell? p = some t ∧ x.cell? q = some u ∧ x.cell? r = some v :=
  ⟨bt h.1 hb, later hb h.2.1, later hb h.2.2.1, later hb h.2.2.2⟩
theorem keepB {w W x : World} {p q : Addr} {u v : Value} {b : Nat} {A : Array Value} (hb : Below W.heap.size W x) (h : Below w.heap.size w W ∧ At W b A ∧ W.cell? p = some u ∧ W.cell? q = some v) : Below w.heap.size w x ∧ At x b A ∧ x.cell? p = some u ∧ x.cell? q = some v :=
  ⟨bt h.1 hb, h.2.1.later hb, later hb h.2.2.1, later hb h.2.2.2⟩
theorem keepC {w W x : World} {b : Nat} {A : Array Value} (hb : Below W.heap.size W x) (h : Below w.heap.size w W ∧ At W b A) : Below w.heap.size w x ∧ At x b A :=
  ⟨bt h.1 hb, h.2.later hb⟩
/-- The options' bytes up to so many of their ranges. -/
def bareK (m c t ec : Int) (sd ok sp : Bool) (rs : List (Int × Int)) (k : Nat) : ByteArray := bareS m c t ec sd ok sp rs 4 ++ (if 0 < rs.length then (⟨#[5]⟩ ++ txt (2 + 8 * rs.length) 1) else ⟨#[]⟩) ++ rgS (rs.take k)
theorem bareK_zero (m c t ec : Int) (sd ok sp : Bool) (rs : List (Int × Int)) : bareK m c t ec sd ok sp rs 0 = bareS m c t ec sd ok sp rs 4 ++ (if 0 < rs.length then (⟨#[5]⟩ ++ txt (2 + 8 * rs.length) 1) else ⟨#[]⟩) := by
  apply ba_toList
  simp [bareK, rgS, rgL]
theorem bareK_step (m c t ec : Int) (sd ok sp : Bool) (rs : List (Int × Int)) (k : Nat) (r : Int × Int) (h : rs[k]? = some r) : bareK m c t ec sd ok sp rs (k + 1) = bareK m c t ec sd ok sp rs k ++ (txt r.1 4 ++ txt r.2 4) := by
  unfold bareK
  rw [rgS_step rs k r h]
  apply ba_toList
  simp
theorem bareK_all (m c t ec : Int) (sd ok sp : Bool) (rs : List (Int × Int)) : bareK m c t ec sd ok sp rs rs.length = bareS m c t ec sd ok sp rs 5 := by
  have h5 := bareS_step m c t ec sd ok sp rs 4
  rw [h5]
  unfold bareK
  rw [List.take_length]
  apply ba_toList
  simp only [app_data, List.append_assoc]
  congr 1
  show _ = partL m c t ec sd ok sp rs 4
  unfold partL
  by_cases h : 0 < rs.length
  · simp only [if_pos h, app_data, txt, rgS, Int.mul_comm 8]
    rfl
  · rw [if_neg h, if_neg h]
    have : rs = [] := List.eq_nil_of_length_eq_zero (by omega)
    subst this
    rfl
theorem bareK_le (m c t ec : Int) (sd ok sp : Bool) (rs : List (Int × Int)) (k : Nat) (hn : rs.length ≤ 4) : (bareK m c t ec sd ok sp rs k).size ≤ 90 := by
  unfold bareK
  rw [ByteArray.size_append, ByteArray.size_append, rgS_size]
  have h1 := bareS_le m c t ec sd ok sp rs 4 (by decide)
  have h2 := lenK_le m sd ok sp rs.length 5
  have h3 : (if 0 < rs.length then ((⟨#[5]⟩ : ByteArray) ++ txt (2 + 8 * rs.length) 1) else ⟨#[]⟩).size ≤ 2 := by
    split
    · rw [ByteArray.size_append, txt_size]; exact Nat.le_refl _
    · exact Nat.zero_le _
  have h4 : (rs.take k).length ≤ 4 := by rw [List.length_take]; omega
  omega
theorem bareS_b (m c t ec : Int) (sd ok sp : Bool) (rs : List (Int × Int)) (k : Nat) (hk : k ≤ 5) (hn : rs.length ≤ 4) : (bareS m c t ec sd ok sp rs k).size ≤ 60 := by
  have h1 := bareS_le m c t ec sd ok sp rs k hk
  have h2 := lenK_le m sd ok sp rs.length 5
  omega
set_option maxRecDepth 100000 in
set_option maxHeartbeats 4000000 in
theorem rbare_any (m c t ec : Int) (sd ok sp : Bool) (v : Value) (rs : List (Int × Int)) (w : World) (hv : Rgs w v rs) (hn : rs.length ≤ 4) :
    Calls Tryd.prog 79 #[.agg #[.int .i64 m, .int .i64 c, .int .i64 t, .int .i64 ec, .bool sd, .bool ok, .bool sp, v]] w fun e w' => e = .returned (.string (bareS m c t ec sd ok sp rs 5)) ∧ Below w.heap.size w w' := by
  obtain ⟨x, cap, hvx, -⟩ := id hv
  subst hvx
  have HN4 : Hid (rs.length ≤ 4) := hn
  have hA := At.box w #[.int .i64 m, .int .i64 c, .int .i64 t, .int .i64 ec, .bool sd, .bool ok, .bool sp, (.slice x rs.length cap)] 26
  have hl := bel1 w (.cells #[.int .i64 m, .int .i64 c, .int .i64 t, .int .i64 ec, .bool sd, .bool ok, .bool sp, (.slice x rs.length cap)] 26)
  have hv0 := hv.later hl
  obtain ⟨⟨c0, c1, c2, c3, c4, c5, c6, c7⟩, -, -⟩ := hA.eight
  go_enter Tryd.func79, Tryd.ntmps79
  go_upto_if 7 with fail
  generalize w.alloc (.cells #[.int .i64 m, .int .i64 c, .int .i64 t, .int .i64 ec, .bool sd, .bool ok, .bool sp, (.slice x rs.length cap)] 26) = w0 at *
  have HA : Hid (At w0 w.heap.size #[.int .i64 m, .int .i64 c, .int .i64 t, .int .i64 ec, .bool sd, .bool ok, .bool sp, (.slice x rs.length cap)]) := hA
  have HL : Hid (Below w.heap.size w w0) := hl
  have HV : Hid (Rgs w0 (.slice x rs.length cap) rs) := hv0
  have hbl : Below w0.heap.size w0 w0 := Below.refl _ _
  have e0 : (⟨#[]⟩ : ByteArray) = bareS m c t ec sd ok sp rs 0 := rfl
  rw [e0]
  clear hA hl hv0 hv e0
  go_upto_if 7 with fail
  go_cut [3] from 5 (fun s W => s = .string (bareS m c t ec sd ok sp rs 1) ∧ Below w0.heap.size w0 W)
  case first =>
    rcases Bool.eq_false_or_eq_true (m != 0) with hh | hh
    all_goals rw [hh]
    · have HT : Hid (bareS m c t ec sd ok sp rs 1 = bareS m c t ec sd ok sp rs 0 ++ (⟨#[2, 4]⟩ ++ txt m 2)) := bareS_yes _ _ _ _ _ _ _ _ 0 _ (by simp [partL, show ¬ m = 0 by simpa using hh, txt])
      have hz := bareS_b m c t ec sd ok sp rs 0 (by decide) HN4.out
      generalize bareS m c t ec sd ok sp rs 0 = S at *
      have q1 : ∀ W, (Op.stringOp .add ⟨#[2, 4]⟩ (txt m 2)).run Tryd.prog W = .ok (.string (⟨#[2, 4]⟩ ++ (txt m 2))) W := fun W => run_string_add_sum W _ _ (by have e1 : (⟨#[2, 4]⟩ : ByteArray).size = 2 := rfl; have e2 : (⟨#[3, 3]⟩ : ByteArray).size = 2 := rfl; have e3 : (⟨#[4, 2]⟩ : ByteArray).size = 2 := rfl; have e4 : (⟨#[8, 10]⟩ : ByteArray).size = 2 := rfl; have e5 : (⟨#[5]⟩ : ByteArray).size = 1 := rfl; (repeat rw [ByteArray.size_append]); (repeat rw [txt_size]); omega)
      have q2 : ∀ W, (Op.stringOp .add S (⟨#[2, 4]⟩ ++ txt m 2)).run Tryd.prog W = .ok (.string (S ++ (⟨#[2, 4]⟩ ++ txt m 2))) W := fun W => run_string_add_sum W _ _ (by have e1 : (⟨#[2, 4]⟩ : ByteArray).size = 2 := rfl; have e2 : (⟨#[3, 3]⟩ : ByteArray).size = 2 := rfl; have e3 : (⟨#[4, 2]⟩ : ByteArray).size = 2 := rfl; have e4 : (⟨#[8, 10]⟩ : ByteArray).size = 2 := rfl; have e5 : (⟨#[5]⟩ : ByteArray).size = 1 := rfl; (repeat rw [ByteArray.size_append]); (repeat rw [txt_size]); omega)
      go_wp2_with fail
      refine (rt2 _ _).mono ?_
      rintro e w1 ⟨rfl, hb⟩
      replace hbl := bt hbl hb
      clear c0 c1 c2 c3 c4 c5 c6 c7 hb
      obtain ⟨⟨c0, c1, c2, c3, c4, c5, c6, c7⟩, -, -⟩ := (HA.out.later hbl).eight
      go_wp2
      go_meet
      case rel => exact ⟨by rw [HT.out], hbl⟩
    · have HT : Hid (bareS m c t ec sd ok sp rs 1 = bareS m c t ec sd ok sp rs 0) := bareS_no _ _ _ _ _ _ _ _ 0 (by simp [partL, show m = 0 by simpa using hh])
      go_wp2
      go_meet
      case rel => exact ⟨by rw [HT.out], hbl⟩
  case rest =>
  obtain ⟨rfl, hbl⟩ := hcut
  obtain ⟨⟨c0, c1, c2, c3, c4, c5, c6, c7⟩, -, -⟩ := (HA.out.later hbl).eight
  go_upto_if 15 with fail
  go_cut [3] from 5 (fun s W => s = .string (bareS m c t ec sd ok sp rs 2) ∧ Below w0.heap.size w0 W)
  case first =>
    rcases Bool.eq_false_or_eq_true sd with hh | hh
    all_goals subst hh
    · have HT : Hid (bareS m c t ec true ok sp rs 2 = bareS m c t ec true ok sp rs 1 ++ (⟨#[3, 3]⟩ ++ txt c 1)) := bareS_yes _ _ _ _ _ _ _ _ 1 _ (by simp [partL, txt])
      have hz := bareS_b m c t ec true ok sp rs 1 (by decide) HN4.out
      generalize bareS m c t ec true ok sp rs 1 = S at *
      have q1 : ∀ W, (Op.stringOp .add ⟨#[3, 3]⟩ (txt c 1)).run Tryd.prog W = .ok (.string (⟨#[3, 3]⟩ ++ (txt c 1))) W := fun W => run_string_add_sum W _ _ (by have e1 : (⟨#[2, 4]⟩ : ByteArray).size = 2 := rfl; have e2 : (⟨#[3, 3]⟩ : ByteArray).size = 2 := rfl; have e3 : (⟨#[4, 2]⟩ : ByteArray).size = 2 := rfl; have e4 : (⟨#[8, 10]⟩ : ByteArray).size = 2 := rfl; have e5 : (⟨#[5]⟩ : ByteArray).size = 1 := rfl; (repeat rw [ByteArray.size_append]); (repeat rw [txt_size]); omega)
      have q2 : ∀ W, (Op.stringOp .add S (⟨#[3, 3]⟩ ++ txt c 1)).run Tryd.prog W = .ok (.string (S ++ (⟨#[3, 3]⟩ ++ txt c 1))) W := fun W => run_string_add_sum W _ _ (by have e1 : (⟨#[2, 4]⟩ : ByteArray).size = 2 := rfl; have e2 : (⟨#[3, 3]⟩ : ByteArray).size = 2 := rfl; have e3 : (⟨#[4, 2]⟩ : ByteArray).size = 2 := rfl; have e4 : (⟨#[8, 10]⟩ : ByteArray).size = 2 := rfl; have e5 : (⟨#[5]⟩ : ByteArray).size = 1 := rfl; (repeat rw [ByteArray.size_append]); (repeat rw [txt_size]); omega)
      go_wp2_with fail
      refine (rt1 _ _).mono ?_
      rintro e w1 ⟨rfl, hb⟩
      replace hbl := bt hbl hb
      clear c0 c1 c2 c3 c4 c5 c6 c7 hb
      obtain ⟨⟨c0, c1, c2, c3, c4, c5, c6, c7⟩, -, -⟩ := (HA.out.later hbl).eight
      go_wp2
      go_meet
      case rel => exact ⟨by rw [HT.out], hbl⟩
    · have HT : Hid (bareS m c t ec false ok sp rs 2 = bareS m c t ec false ok sp rs 1) := bareS_no _ _ _ _ _ _ _ _ 1 (by simp [partL])
      go_wp2
      go_meet
      case rel => exact ⟨by rw [HT.out], hbl⟩
  case rest =>
  obtain ⟨rfl, hbl⟩ := hcut
  obtain ⟨⟨c0, c1, c2, c3, c4, c5, c6, c7⟩, -, -⟩ := (HA.out.later hbl).eight
  go_upto_if 23 with fail
  go_cut [3] from 5 (fun s W => s = .string (bareS m c t ec sd ok sp rs 3) ∧ Below w0.heap.size w0 W)
  case first =>
    rcases Bool.eq_false_or_eq_true ok with hh | hh
    all_goals subst hh
    · have HT : Hid (bareS m c t ec sd true sp rs 3 = bareS m c t ec sd true sp rs 2 ++ ⟨#[4, 2]⟩) := bareS_yes _ _ _ _ _ _ _ _ 2 _ (by simp [partL])
      have hz := bareS_b m c t ec sd true sp rs 2 (by decide) HN4.out
      generalize bareS m c t ec sd true sp rs 2 = S at *
      have q2 : ∀ W, (Op.stringOp .add S ⟨#[4, 2]⟩).run Tryd.prog W = .ok (.string (S ++ ⟨#[4, 2]⟩)) W := fun W => run_string_add_sum W _ _ (by have e1 : (⟨#[2, 4]⟩ : ByteArray).size = 2 := rfl; have e2 : (⟨#[3, 3]⟩ : ByteArray).size = 2 := rfl; have e3 : (⟨#[4, 2]⟩ : ByteArray).size = 2 := rfl; have e4 : (⟨#[8, 10]⟩ : ByteArray).size = 2 := rfl; have e5 : (⟨#[5]⟩ : ByteArray).size = 1 := rfl; (repeat rw [ByteArray.size_append]); (repeat rw [txt_size]); omega)
      go_wp2
      go_meet
      case rel => exact ⟨by rw [HT.out], hbl⟩
    · have HT : Hid (bareS m c t ec sd false sp rs 3 = bareS m c t ec sd false sp rs 2) := bareS_no _ _ _ _ _ _ _ _ 2 (by simp [partL])
      go_wp2
      go_meet
      case rel => exact ⟨by rw [HT.out], hbl⟩
  case rest =>
  obtain ⟨rfl, hbl⟩ := hcut
  obtain ⟨⟨c0, c1, c2, c3, c4, c5, c6, c7⟩, -, -⟩ := (HA.out.later hbl).eight
  go_upto_if 27 with fail
  go_cut [3] from 5 (fun s W => s = .string (bareS m c t ec sd ok sp rs 4) ∧ Below w0.heap.size w0 W)
  case first =>
    rcases Bool.eq_false_or_eq_true sp with hh | hh
    all_goals subst hh
    · have HT : Hid (bareS m c t ec sd ok true rs 4 = bareS m c t ec sd ok true rs 3 ++ (⟨#[8, 10]⟩ ++ txt t 4 ++ txt ec 4)) := bareS_yes _ _ _ _ _ _ _ _ 3 _ (by simp [partL, txt])
      have hz := bareS_b m c t ec sd ok true rs 3 (by decide) HN4.out
      generalize bareS m c t ec sd ok true rs 3 = S at *
      have q1 : ∀ W, (Op.stringOp .add ⟨#[8, 10]⟩ (txt t 4)).run Tryd.prog W = .ok (.string (⟨#[8, 10]⟩ ++ (txt t 4))) W := fun W => run_string_add_sum W _ _ (by have e1 : (⟨#[2, 4]⟩ : ByteArray).size = 2 := rfl; have e2 : (⟨#[3, 3]⟩ : ByteArray).size = 2 := rfl; have e3 : (⟨#[4, 2]⟩ : ByteArray).size = 2 := rfl; have e4 : (⟨#[8, 10]⟩ : ByteArray).size = 2 := rfl; have e5 : (⟨#[5]⟩ : ByteArray).size = 1 := rfl; (repeat rw [ByteArray.size_append]); (repeat rw [txt_size]); omega)
      have q2 : ∀ W, (Op.stringOp .add (⟨#[8, 10]⟩ ++ txt t 4) (txt ec 4)).run Tryd.prog W = .ok (.string ((⟨#[8, 10]⟩ ++ txt t 4) ++ (txt ec 4))) W := fun W => run_string_add_sum W _ _ (by have e1 : (⟨#[2, 4]⟩ : ByteArray).size = 2 := rfl; have e2 : (⟨#[3, 3]⟩ : ByteArray).size = 2 := rfl; have e3 : (⟨#[4, 2]⟩ : ByteArray).size = 2 := rfl; have e4 : (⟨#[8, 10]⟩ : ByteArray).size = 2 := rfl; have e5 : (⟨#[5]⟩ : ByteArray).size = 1 := rfl; (repeat rw [ByteArray.size_append]); (repeat rw [txt_size]); omega)
      have q3 : ∀ W, (Op.stringOp .add S (⟨#[8, 10]⟩ ++ txt t 4 ++ txt ec 4)).run Tryd.prog W = .ok (.string (S ++ (⟨#[8, 10]⟩ ++ txt t 4 ++ txt ec 4))) W := fun W => run_string_add_sum W _ _ (by have e1 : (⟨#[2, 4]⟩ : ByteArray).size = 2 := rfl; have e2 : (⟨#[3, 3]⟩ : ByteArray).size = 2 := rfl; have e3 : (⟨#[4, 2]⟩ : ByteArray).size = 2 := rfl; have e4 : (⟨#[8, 10]⟩ : ByteArray).size = 2 := rfl; have e5 : (⟨#[5]⟩ : ByteArray).size = 1 := rfl; (repeat rw [ByteArray.size_append]); (repeat rw [txt_size]); omega)
      have hx : Below w0.heap.size w0 wc ∧ wc.cell? ⟨w.heap.size, 2, none⟩ = some (.int .i64 t) ∧ wc.cell? ⟨w.heap.size, 3, none⟩ = some (.int .i64 ec) := ⟨hbl, c2, c3⟩
      go_wp2
      clear c0 c1 c2 c3 c4 c5 c6 c7 hbl
      go_region_held3 (fun W => Below w0.heap.size w0 W ∧ W.cell? ⟨w.heap.size, 2, none⟩ = some (.int .i64 t) ∧ W.cell? ⟨w.heap.size, 3, none⟩ = some (.int .i64 ec)) (first | exact ⟨hx.1.drew, hx.2⟩ | (refine keepT hb ?_; assumption)) (first | (go_at_call 58; refine (rt4 _ _).mono ?_; rintro e w' ⟨rfl, hb⟩))
      all_goals
        rename_i hz'
        go_wp2
        go_meet
        case rel => exact ⟨by rw [HT.out], hz'.1⟩
    · have HT : Hid (bareS m c t ec sd ok false rs 4 = bareS m c t ec sd ok false rs 3) := bareS_no _ _ _ _ _ _ _ _ 3 (by simp [partL])
      go_wp2
      go_meet
      case rel => exact ⟨by rw [HT.out], hbl⟩
  case rest =>
  obtain ⟨rfl, hbl⟩ := hcut
  obtain ⟨⟨c0, c1, c2, c3, c4, c5, c6, c7⟩, -, -⟩ := (HA.out.later hbl).eight
  go_upto_if 41 with fail
  go_cut [3] from 5 (fun s W => s = .string (bareK m c t ec sd ok sp rs 0) ∧ Below w0.heap.size w0 W)
  case first =>
    by_cases h0 : 0 < rs.length
    · have HT : Hid (bareK m c t ec sd ok sp rs 0 = bareS m c t ec sd ok sp rs 4 ++ (⟨#[5]⟩ ++ txt (2 + 8 * rs.length) 1)) := by show _ = _; rw [bareK_zero, if_pos h0]
      have hz := bareS_b m c t ec sd ok sp rs 4 (by decide) HN4.out
      generalize bareS m c t ec sd ok sp rs 4 = S at *
      have h0' : (0 : Int) < (rs.length : Int) := by omega
      have hn' : (rs.length : Int) ≤ 4 := by omega
      have q1 : ∀ W, (Op.stringOp .add ⟨#[5]⟩ (txt (2 + 8 * (rs.length : Int)) 1)).run Tryd.prog W = .ok (.string (⟨#[5]⟩ ++ (txt (2 + 8 * (rs.length : Int)) 1))) W := fun W => run_string_add_sum W _ _ (by have e1 : (⟨#[2, 4]⟩ : ByteArray).size = 2 := rfl; have e2 : (⟨#[3, 3]⟩ : ByteArray).size = 2 := rfl; have e3 : (⟨#[4, 2]⟩ : ByteArray).size = 2 := rfl; have e4 : (⟨#[8, 10]⟩ : ByteArray).size = 2 := rfl; have e5 : (⟨#[5]⟩ : ByteArray).size = 1 := rfl; (repeat rw [ByteArray.size_append]); (repeat rw [txt_size]); omega)
      have q2 : ∀ W, (Op.stringOp .add S (⟨#[5]⟩ ++ txt (2 + 8 * (rs.length : Int)) 1)).run Tryd.prog W = .ok (.string (S ++ (⟨#[5]⟩ ++ txt (2 + 8 * (rs.length : Int)) 1))) W := fun W => run_string_add_sum W _ _ (by have e1 : (⟨#[2, 4]⟩ : ByteArray).size = 2 := rfl; have e2 : (⟨#[3, 3]⟩ : ByteArray).size = 2 := rfl; have e3 : (⟨#[4, 2]⟩ : ByteArray).size = 2 := rfl; have e4 : (⟨#[8, 10]⟩ : ByteArray).size = 2 := rfl; have e5 : (⟨#[5]⟩ : ByteArray).size = 1 := rfl; (repeat rw [ByteArray.size_append]); (repeat rw [txt_size]); omega)
      go_wp2_with fail
      refine (rt1 _ _).mono ?_
      rintro e w1 ⟨rfl, hb⟩
      replace hbl := bt hbl hb
      go_wp2
      go_meet
      case rel => exact ⟨by rw [HT.out], hbl⟩
    · have HT : Hid (bareK m c t ec sd ok sp rs 0 = bareS m c t ec sd ok sp rs 4) := by show _ = _; rw [bareK_zero, if_neg h0]; apply ba_toList; simp
      have h0' : ¬ (0 : Int) < (rs.length : Int) := by omega
      go_wp2
      go_meet
      case rel => exact ⟨by rw [HT.out], hbl⟩
  case rest =>
  obtain ⟨rfl, hbl⟩ := hcut
  go_wp2
  go_loopw [3, 4] (fun s i W => ∃ k : Nat, k ≤ rs.length ∧ i = .int .i64 k ∧ s = .string (bareK m c t ec sd ok sp rs k) ∧ Below w0.heap.size w0 W) (fun _ i _ => rs.length - (intOf i).toNat)
  case atStart => exact ⟨0, Nat.zero_le _, rfl, rfl, hbl⟩
  case round =>
    clear hbl c0 c1 c2 c3 c4 c5 c6 c7
    obtain ⟨k, hk, rfl, rfl, hbl⟩ := hrel
    obtain ⟨⟨c0, c1, c2, c3, c4, c5, c6, c7⟩, -, -⟩ := (HA.out.later hbl).eight
    have hn' : (rs.length : Int) ≤ 4 := by omega
    by_cases hlt : k < rs.length
    · obtain ⟨r, hr⟩ : ∃ r, rs[k]? = some r := ⟨rs[k], List.getElem?_eq_getElem hlt⟩
      have HS : Hid (bareK m c t ec sd ok sp rs (k + 1) = bareK m c t ec sd ok sp rs k ++ (txt r.1 4 ++ txt r.2 4)) := bareK_step m c t ec sd ok sp rs k r hr
      obtain ⟨b, off, hxa, x1, x2⟩ : ∃ b off, x = some ⟨b, off, none⟩ ∧ w0.cell? ⟨b, off + k * 2, none⟩ = some (.int .i64 r.1) ∧ w0.cell? ⟨b, off + k * 2 + 1, none⟩ = some (.int .i64 r.2) := by
        obtain ⟨a', cap', e, -, h⟩ := HV.out
        simp only [Value.slice.injEq] at e
        obtain ⟨rfl, -, -⟩ := e
        rcases h with h | ⟨b, off, h, hx⟩
        · rw [h] at hr; simp at hr
        · exact ⟨b, off, h, hx k r hr⟩
      subst hxa
      obtain ⟨X, Y⟩ := r
      simp only at x1 x2
      replace x1 := later hbl x1
      replace x2 := later hbl x2
      have l0 : (0 : Int) ≤ (k : Int) := by omega
      have l1 : (k : Int) < (rs.length : Int) := by omega
      have hz := bareK_le m c t ec sd ok sp rs k hn
      generalize bareK m c t ec sd ok sp rs k = S at *
      have q1 : ∀ W, (Op.stringOp .add (txt X 4) (txt Y 4)).run Tryd.prog W = .ok (.string ((txt X 4) ++ (txt Y 4))) W := fun W => run_string_add_sum W _ _ (by have e1 : (⟨#[2, 4]⟩ : ByteArray).size = 2 := rfl; have e2 : (⟨#[3, 3]⟩ : ByteArray).size = 2 := rfl; have e3 : (⟨#[4, 2]⟩ : ByteArray).size = 2 := rfl; have e4 : (⟨#[8, 10]⟩ : ByteArray).size = 2 := rfl; have e5 : (⟨#[5]⟩ : ByteArray).size = 1 := rfl; (repeat rw [ByteArray.size_append]); (repeat rw [txt_size]); omega)
      have q2 : ∀ W, (Op.stringOp .add S (txt X 4 ++ txt Y 4)).run Tryd.prog W = .ok (.string (S ++ (txt X 4 ++ txt Y 4))) W := fun W => run_string_add_sum W _ _ (by have e1 : (⟨#[2, 4]⟩ : ByteArray).size = 2 := rfl; have e2 : (⟨#[3, 3]⟩ : ByteArray).size = 2 := rfl; have e3 : (⟨#[4, 2]⟩ : ByteArray).size = 2 := rfl; have e4 : (⟨#[8, 10]⟩ : ByteArray).size = 2 := rfl; have e5 : (⟨#[5]⟩ : ByteArray).size = 1 := rfl; (repeat rw [ByteArray.size_append]); (repeat rw [txt_size]); omega)
      have hx : Below w0.heap.size w0 wr ∧ wr.cell? ⟨w.heap.size, 7, none⟩ = some (.slice (some ⟨b, off, none⟩) rs.length cap) ∧ wr.cell? ⟨b, off + k * 2, none⟩ = some (.int .i64 X) ∧ wr.cell? ⟨b, off + k * 2 + 1, none⟩ = some (.int .i64 Y) := ⟨hbl, c7, x1, x2⟩
      clear hz hr
      go_wp2
      clear c0 c1 c2 c3 c4 c5 c6 c7 hbl x1 x2
      go_region_held3 (fun W => Below w0.heap.size w0 W ∧ W.cell? ⟨w.heap.size, 7, none⟩ = some (.slice (some ⟨b, off, none⟩) rs.length cap) ∧ W.cell? ⟨b, off + k * 2, none⟩ = some (.int .i64 X) ∧ W.cell? ⟨b, off + k * 2 + 1, none⟩ = some (.int .i64 Y)) (first | exact ⟨hx.1.drew, hx.2⟩ | (refine keepU hb ?_; assumption)) (first | (go_at_call 58; refine (rt4 _ _).mono ?_; rintro e w' ⟨rfl, hb⟩))
      all_goals
        rename_i hz'
        go_wp2
        go_roundw
        case rel => exact ⟨k + 1, by omega, by go_num, by rw [HS.out], hz'.1⟩
        case measure => simp [intOf]; omega
    · have hk' : k = rs.length := by omega
      subst hk'
      rw [bareK_all]
      go_wp2
      go_ret
      exact ⟨rfl, bt HL.out hbl⟩
end Go.Proofs.YtecoknenkjgmjabDoor
