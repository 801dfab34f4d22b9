/- The contracts of the document's Bytes, Check, Encode and Long of layer 7: each returns just the value named here; nothing that was there turns. -/
import Derived.Test.YtecoknenkjgmjabDoorRa
namespace Go.Proofs.YtecoknenkjgmjabDoor
open Go.RowKit
set_option maxRecDepth 100000

theorem rchk_t (a : Int) (w : World) (h : numB a = true) : Calls Tryd.prog 32 #[.int .i64 a] w fun e w' => e = .returned (.int .i64 0) ∧ w' = w := by
  have := seq_rcheck_any a w
  rw [h] at this
  exact this
theorem rchk_f (a : Int) (w : World) (h : numB a = false) : Calls Tryd.prog 32 #[.int .i64 a] w fun e w' => e = .returned (.int .i64 1) ∧ w' = w := by
  have := seq_rcheck_any a w
  rw [h] at this
  exact this
def zerS (S : ByteArray) (j : Nat) : ByteArray := S ++ ⟨(List.replicate j 0).toArray⟩
theorem zerS_zero (S : ByteArray) : zerS S 0 = S := by apply ba_toList; simp [zerS]
theorem zerS_size (S : ByteArray) (j : Nat) : (zerS S j).size = S.size + j := by
  unfold zerS
  rw [ByteArray.size_append]
  have : (⟨(List.replicate j (0 : UInt8)).toArray⟩ : ByteArray).size = j := by show (List.replicate j (0 : UInt8)).toArray.size = j; simp
  omega
theorem zerS_succ (S : ByteArray) (j : Nat) : zerS S (j + 1) = zerS S j ++ ⟨#[0]⟩ := by
  apply ba_toList
  simp [zerS, List.replicate_succ']
theorem encO_zer (m c t ec : Int) (sd ok sp : Bool) (rs : List (Int × Int)) : encO m c t ec sd ok sp rs = zerS (bareS m c t ec sd ok sp rs 5) (longN m sd ok sp rs.length - lenK m sd ok sp rs.length 5) := by
  apply ba_toList
  unfold zerS
  rw [app_data]
  rfl
def szB : Value → Nat | .string x => x.size | _ => 0
set_option maxRecDepth 100000 in
set_option maxHeartbeats 2000000 in
theorem rbytes_any (m c t ec : Int) (sd ok sp : Bool) (v : Value) (rs : List (Int × Int)) (w : World) (hv : Rgs w v rs) (hn : rs.length ≤ 4) :
    Calls Tryd.prog 57 #[.agg #[.int .i64 m, .int .i64 c, .int .i64 t, .int .i64 ec, .bool sd, .bool ok, .bool sp, v]] w fun e w' => e = .returned (.string (encO m c t ec sd ok sp rs)) ∧ Below w.heap.size w w' := by
  obtain ⟨x, cap, hvx, -⟩ := id hv
  subst hvx
  have hl := bel1 w (.cells #[.int .i64 m, .int .i64 c, .int .i64 t, .int .i64 ec, .bool sd, .bool ok, .bool sp, (.slice x rs.length cap)] 26)
  have HB : Hid (∀ W, Rgs W (.slice x rs.length cap) rs → Calls Tryd.prog 79 #[.agg #[.int .i64 m, .int .i64 c, .int .i64 t, .int .i64 ec, .bool sd, .bool ok, .bool sp, (.slice x rs.length cap)]] W fun e w' => e = .returned (.string (bareS m c t ec sd ok sp rs 5)) ∧ Below W.heap.size W w') := fun W h => rbare_any m c t ec sd ok sp _ rs W h hn
  obtain ⟨⟨c0, c1, c2, c3, c4, c5, c6, c7⟩, -, -⟩ := (At.box w #[.int .i64 m, .int .i64 c, .int .i64 t, .int .i64 ec, .bool sd, .bool ok, .bool sp, (.slice x rs.length cap)] 26).eight
  have hz := bareS_size m c t ec sd ok sp rs
  have hge := long_ge m sd ok sp rs.length
  have h4 : longN m sd ok sp rs.length % 4 = 0 := by unfold longN; omega
  have hb4 := lenK_le m sd ok sp rs.length 5
  have HE := encO_zer m c t ec sd ok sp rs
  obtain ⟨J, hJ⟩ : ∃ J, J = longN m sd ok sp rs.length - lenK m sd ok sp rs.length 5 := ⟨_, rfl⟩
  rw [← hJ] at HE
  rw [HE]
  generalize bareS m c t ec sd ok sp rs 5 = S at *
  have hSJ : (S.size + J) % 4 = 0 ∧ J ≤ 3 ∧ S.size ≤ 60 := by omega
  clear hz hge h4 hb4 HE hJ
  go_enter Tryd.func57, Tryd.ntmps57
  go_wp2_with fail
  refine (HB.out _ (hv.later hl)).mono ?_
  rintro e w1 ⟨rfl, hb⟩
  replace hl := bt hl hb
  clear c0 c1 c2 c3 c4 c5 c6 c7 hb
  go_wp2
  go_loopw [3] (fun s W => ∃ j : Nat, j ≤ J ∧ s = .string (zerS S j) ∧ Below w.heap.size w W) (fun s _ => S.size + J - szB s)
  case atStart => exact ⟨0, Nat.zero_le _, by rw [zerS_zero], hl⟩
  case round =>
    clear hl
    obtain ⟨j, hj, rfl, hbl⟩ := hrel
    have hs := zerS_size S j
    have HS : Hid (zerS S (j + 1) = zerS S j ++ ⟨#[0]⟩) := zerS_succ S j
    by_cases hlt : j < J
    · have hs' := zerS_size S (j + 1)
      generalize zerS S j = Z at *
      have q2 : ∀ W, (Op.stringOp .add Z ⟨#[0]⟩).run Tryd.prog W = .ok (.string (Z ++ ⟨#[0]⟩)) W := fun W => run_string_add_sum W _ _ (by have e5 : (⟨#[0]⟩ : ByteArray).size = 1 := rfl; omega)
      have ht : ((Z.size : Int) % 4 != 0) = true := by simp; omega
      have hzz : (Z.size : Int) ≤ 100 := by omega
      go_wp2
      go_roundw
      case rel => exact ⟨j + 1, by omega, by rw [HS.out], hbl⟩
      case measure => rw [← HS.out]; show S.size + J - (zerS S (j + 1)).size < S.size + J - Z.size; omega
    · have hk' : j = J := by omega
      subst hk'
      obtain ⟨Z, hZ⟩ : ∃ Z, Z = zerS S j := ⟨_, rfl⟩
      rw [← hZ] at hs ⊢
      have HZ : Hid (Z = zerS S j) := hZ
      clear hZ
      have ht : ((Z.size : Int) % 4 != 0) = false := by simp; omega
      have hzz : (Z.size : Int) ≤ 100 := by omega
      clear HS
      go_wp2
      go_ret
      exact ⟨by rw [← HZ.out]; rfl, hbl⟩
/-- What the document asks of options ahead of their ranges. -/
def preB (m c t ec : Int) (sd sp : Bool) (n : Nat) : Bool := fitsB m 65535 && fitsB c 14 && (sd || decide (c = 0)) && numB t && numB ec && (sp || (decide (t = 0) && decide (ec = 0))) && decide (n ≤ 4)
theorem mayO_pre (m c t ec : Int) (sd ok sp : Bool) (rs : List (Int × Int)) : mayO m c t ec sd ok sp rs = (preB m c t ec sd sp rs.length && !(rs.any fun r => !rgB r) && decide (longN m sd ok sp rs.length ≤ 40)) := by
  unfold mayO preB
  have h := longN_le m sd ok sp rs.length
  have h2 := lenK_le m sd ok sp rs.length 5
  by_cases h4 : rs.length ≤ 4
  · rw [decide_eq_true h4]
    simp only [Bool.and_true]
    generalize (fitsB m 65535 && fitsB c 14 && (sd || decide (c = 0)) && numB t && numB ec && (sp || (decide (t = 0) && decide (ec = 0)))) = X
    generalize (!(rs.any fun r => !rgB r)) = Y
    generalize decide (longN m sd ok sp rs.length ≤ 40) = Z
    cases X <;> cases Y <;> cases Z <;> rfl
  · have hg : ¬ longN m sd ok sp rs.length ≤ 40 := by
      have h5 : 40 + 2 ≤ lenK m sd ok sp rs.length 5 := by
        unfold lenK
        rw [if_pos (show 4 < 5 ∧ 0 < rs.length from ⟨by omega, by omega⟩)]
        omega
      have := long_ge m sd ok sp rs.length
      omega
    rw [decide_eq_false h4, decide_eq_false hg]
    simp
set_option maxRecDepth 100000 in
set_option maxHeartbeats 4000000 in
theorem rcheck_o (m c t ec : Int) (sd ok sp : Bool) (v : Value) (rs : List (Int × Int)) (w : World) (hv : Rgs w v rs) (hn : rs.length ≤ 17592186044416) :
    Calls Tryd.prog 34 #[.agg #[.int .i64 m, .int .i64 c, .int .i64 t, .int .i64 ec, .bool sd, .bool ok, .bool sp, v]] w fun e w' => e = .returned (.int .i64 (codeO (mayO m c t ec sd ok sp rs))) ∧ Below w.heap.size w w' := by
  obtain ⟨x, cap, hvx, -⟩ := id hv
  subst hvx
  have hA := At.box w #[.int .i64 m, .int .i64 c, .int .i64 t, .int .i64 ec, .bool sd, .bool ok, .bool sp, (.slice x rs.length cap)] 26
  have hl := bel1 w (.cells #[.int .i64 m, .int .i64 c, .int .i64 t, .int .i64 ec, .bool sd, .bool ok, .bool sp, (.slice x rs.length cap)] 26)
  have hv0 := hv.later hl
  have HM : Hid (mayO m c t ec sd ok sp rs = (preB m c t ec sd sp rs.length && !(rs.any fun r => !rgB r) && decide (longN m sd ok sp rs.length ≤ 40))) := mayO_pre m c t ec sd ok sp rs
  obtain ⟨⟨c0, c1, c2, c3, c4, c5, c6, c7⟩, -, -⟩ := hA.eight
  go_enter Tryd.func34, Tryd.ntmps34
  go_upto_region 1 with fail
  generalize w.alloc (.cells #[.int .i64 m, .int .i64 c, .int .i64 t, .int .i64 ec, .bool sd, .bool ok, .bool sp, (.slice x rs.length cap)] 26) = w0 at *
  have HA : Hid (At w0 w.heap.size #[.int .i64 m, .int .i64 c, .int .i64 t, .int .i64 ec, .bool sd, .bool ok, .bool sp, (.slice x rs.length cap)]) := hA
  have HL : Hid (Below w.heap.size w w0) := hl
  have HV : Hid (Rgs w0 (.slice x rs.length cap) rs) := hv0
  clear hA hl hv0 hv
  go_cut [65] from 5 (fun s W => s = .bool (!preB m c t ec sd sp rs.length) ∧ W = w0)
  case first =>
    clear HA HL HV HM
    by_cases h1 : m < 0
    · have HP : Hid (preB m c t ec sd sp rs.length = false) := by show _ = _; simp [preB, fitsB, show ¬ 0 ≤ m by omega]
      go_wp2_with (first | (go_at_call 32; refine (rchk_t _ _ (by assumption)).mono ?_; rintro e w' ⟨rfl, rfl⟩) | (go_at_call 32; refine (rchk_f _ _ (by assumption)).mono ?_; rintro e w' ⟨rfl, rfl⟩) | go_in)
      go_meet
      case rel => exact ⟨by rw [HP.out]; first | rfl | (congr 1; simp; omega), rfl⟩
    by_cases h2 : 65535 < m
    · have HP : Hid (preB m c t ec sd sp rs.length = false) := by show _ = _; simp [preB, fitsB, show ¬ m ≤ 65535 by omega]
      go_wp2_with (first | (go_at_call 32; refine (rchk_t _ _ (by assumption)).mono ?_; rintro e w' ⟨rfl, rfl⟩) | (go_at_call 32; refine (rchk_f _ _ (by assumption)).mono ?_; rintro e w' ⟨rfl, rfl⟩) | go_in)
      go_meet
      case rel => exact ⟨by rw [HP.out]; first | rfl | (congr 1; simp; omega), rfl⟩
    by_cases h3 : c < 0
    · have HP : Hid (preB m c t ec sd sp rs.length = false) := by show _ = _; simp [preB, fitsB, show ¬ 0 ≤ c by omega]
      go_wp2_with (first | (go_at_call 32; refine (rchk_t _ _ (by assumption)).mono ?_; rintro e w' ⟨rfl, rfl⟩) | (go_at_call 32; refine (rchk_f _ _ (by assumption)).mono ?_; rintro e w' ⟨rfl, rfl⟩) | go_in)
      go_meet
      case rel => exact ⟨by rw [HP.out]; first | rfl | (congr 1; simp; omega), rfl⟩
    by_cases h4 : 14 < c
    · have HP : Hid (preB m c t ec sd sp rs.length = false) := by show _ = _; simp [preB, fitsB, show ¬ c ≤ 14 by omega]
      go_wp2_with (first | (go_at_call 32; refine (rchk_t _ _ (by assumption)).mono ?_; rintro e w' ⟨rfl, rfl⟩) | (go_at_call 32; refine (rchk_f _ _ (by assumption)).mono ?_; rintro e w' ⟨rfl, rfl⟩) | go_in)
      go_meet
      case rel => exact ⟨by rw [HP.out]; first | rfl | (congr 1; simp; omega), rfl⟩
    have hsd : sd = true ∨ (sd = false ∧ c = 0) ∨ (sd = false ∧ ¬ c = 0) := by cases sd <;> simp <;> omega
    rcases hsd with rfl | ⟨rfl, rfl⟩ | ⟨rfl, h5⟩
    · skip
      rcases (Bool.eq_false_or_eq_true (numB t)).symm with h6 | h6
      · skip
        have HP : Hid (preB m c t ec true sp rs.length = false) := by show _ = _; simp [preB, h6]
        go_wp2_with (first | (go_at_call 32; refine (rchk_t _ _ (by assumption)).mono ?_; rintro e w' ⟨rfl, rfl⟩) | (go_at_call 32; refine (rchk_f _ _ (by assumption)).mono ?_; rintro e w' ⟨rfl, rfl⟩) | go_in)
        go_meet
        case rel => exact ⟨by rw [HP.out]; first | rfl | (congr 1; simp; omega), rfl⟩
      rcases (Bool.eq_false_or_eq_true (numB ec)).symm with h7 | h7
      · skip
        have HP : Hid (preB m c t ec true sp rs.length = false) := by show _ = _; simp [preB, h7]
        go_wp2_with (first | (go_at_call 32; refine (rchk_t _ _ (by assumption)).mono ?_; rintro e w' ⟨rfl, rfl⟩) | (go_at_call 32; refine (rchk_f _ _ (by assumption)).mono ?_; rintro e w' ⟨rfl, rfl⟩) | go_in)
        go_meet
        case rel => exact ⟨by rw [HP.out]; first | rfl | (congr 1; simp; omega), rfl⟩
      have hsp : sp = true ∨ (sp = false ∧ t = 0 ∧ ec = 0) ∨ (sp = false ∧ t = 0 ∧ ¬ ec = 0) ∨ (sp = false ∧ ¬ t = 0) := by cases sp <;> simp <;> omega
      rcases hsp with rfl | ⟨rfl, rfl, rfl⟩ | ⟨rfl, rfl, h8⟩ | ⟨rfl, h8⟩
      · skip
        by_cases h9 : rs.length ≤ 4
        · have h9b : ¬ (4 : Int) < (rs.length : Int) := by omega
          have HP : Hid (preB m c t ec true true rs.length = true) := by show _ = _; simp [preB, fitsB, h9, h6, h7]; omega
          go_wp2_with (first | (go_at_call 32; refine (rchk_t _ _ (by assumption)).mono ?_; rintro e w' ⟨rfl, rfl⟩) | (go_at_call 32; refine (rchk_f _ _ (by assumption)).mono ?_; rintro e w' ⟨rfl, rfl⟩) | go_in)
          go_meet
          case rel => exact ⟨by rw [HP.out]; first | rfl | (congr 1; simp; omega), rfl⟩
        · have h9b : (4 : Int) < (rs.length : Int) := by omega
          have HP : Hid (preB m c t ec true true rs.length = false) := by show _ = _; simp [preB, h9]; try omega
          go_wp2_with (first | (go_at_call 32; refine (rchk_t _ _ (by assumption)).mono ?_; rintro e w' ⟨rfl, rfl⟩) | (go_at_call 32; refine (rchk_f _ _ (by assumption)).mono ?_; rintro e w' ⟨rfl, rfl⟩) | go_in)
          go_meet
          case rel => exact ⟨by rw [HP.out]; first | rfl | (congr 1; simp; omega), rfl⟩
      · skip
        by_cases h9 : rs.length ≤ 4
        · have h9b : ¬ (4 : Int) < (rs.length : Int) := by omega
          have HP : Hid (preB m c 0 0 true false rs.length = true) := by show _ = _; simp [preB, fitsB, h9, numB]; omega
          go_wp2_with (first | (go_at_call 32; refine (rchk_t _ _ (by assumption)).mono ?_; rintro e w' ⟨rfl, rfl⟩) | (go_at_call 32; refine (rchk_f _ _ (by assumption)).mono ?_; rintro e w' ⟨rfl, rfl⟩) | go_in)
          go_meet
          case rel => exact ⟨by rw [HP.out]; first | rfl | (congr 1; simp; omega), rfl⟩
        · have h9b : (4 : Int) < (rs.length : Int) := by omega
          have HP : Hid (preB m c 0 0 true false rs.length = false) := by show _ = _; simp [preB, h9]; try omega
          go_wp2_with (first | (go_at_call 32; refine (rchk_t _ _ (by assumption)).mono ?_; rintro e w' ⟨rfl, rfl⟩) | (go_at_call 32; refine (rchk_f _ _ (by assumption)).mono ?_; rintro e w' ⟨rfl, rfl⟩) | go_in)
          go_meet
          case rel => exact ⟨by rw [HP.out]; first | rfl | (congr 1; simp; omega), rfl⟩
      · skip
        have h8b : (ec != 0) = true := by simpa using h8
        have HP : Hid (preB m c 0 ec true false rs.length = false) := by show _ = _; simp [preB, h8]
        go_wp2_with (first | (go_at_call 32; refine (rchk_t _ _ (by assumption)).mono ?_; rintro e w' ⟨rfl, rfl⟩) | (go_at_call 32; refine (rchk_f _ _ (by assumption)).mono ?_; rintro e w' ⟨rfl, rfl⟩) | go_in)
        go_meet
        case rel => exact ⟨by rw [HP.out]; first | rfl | (congr 1; simp; omega), rfl⟩
      · skip
        have h8b : (t != 0) = true := by simpa using h8
        have HP : Hid (preB m c t ec true false rs.length = false) := by show _ = _; simp [preB, h8]
        go_wp2_with (first | (go_at_call 32; refine (rchk_t _ _ (by assumption)).mono ?_; rintro e w' ⟨rfl, rfl⟩) | (go_at_call 32; refine (rchk_f _ _ (by assumption)).mono ?_; rintro e w' ⟨rfl, rfl⟩) | go_in)
        go_meet
        case rel => exact ⟨by rw [HP.out]; first | rfl | (congr 1; simp; omega), rfl⟩
    · skip
      rcases (Bool.eq_false_or_eq_true (numB t)).symm with h6 | h6
      · skip
        have HP : Hid (preB m 0 t ec false sp rs.length = false) := by show _ = _; simp [preB, h6]
        go_wp2_with (first | (go_at_call 32; refine (rchk_t _ _ (by assumption)).mono ?_; rintro e w' ⟨rfl, rfl⟩) | (go_at_call 32; refine (rchk_f _ _ (by assumption)).mono ?_; rintro e w' ⟨rfl, rfl⟩) | go_in)
        go_meet
        case rel => exact ⟨by rw [HP.out]; first | rfl | (congr 1; simp; omega), rfl⟩
      rcases (Bool.eq_false_or_eq_true (numB ec)).symm with h7 | h7
      · skip
        have HP : Hid (preB m 0 t ec false sp rs.length = false) := by show _ = _; simp [preB, h7]
        go_wp2_with (first | (go_at_call 32; refine (rchk_t _ _ (by assumption)).mono ?_; rintro e w' ⟨rfl, rfl⟩) | (go_at_call 32; refine (rchk_f _ _ (by assumption)).mono ?_; rintro e w' ⟨rfl, rfl⟩) | go_in)
        go_meet
        case rel => exact ⟨by rw [HP.out]; first | rfl | (congr 1; simp; omega), rfl⟩
      have hsp : sp = true ∨ (sp = false ∧ t = 0 ∧ ec = 0) ∨ (sp = false ∧ t = 0 ∧ ¬ ec = 0) ∨ (sp = false ∧ ¬ t = 0) := by cases sp <;> simp <;> omega
      rcases hsp with rfl | ⟨rfl, rfl, rfl⟩ | ⟨rfl, rfl, h8⟩ | ⟨rfl, h8⟩
      · skip
        by_cases h9 : rs.length ≤ 4
        · have h9b : ¬ (4 : Int) < (rs.length : Int) := by omega
          have HP : Hid (preB m 0 t ec false true rs.length = true) := by show _ = _; simp [preB, fitsB, h9, h6, h7]; omega
          go_wp2_with (first | (go_at_call 32; refine (rchk_t _ _ (by assumption)).mono ?_; rintro e w' ⟨rfl, rfl⟩) | (go_at_call 32; refine (rchk_f _ _ (by assumption)).mono ?_; rintro e w' ⟨rfl, rfl⟩) | go_in)
          go_meet
          case rel => exact ⟨by rw [HP.out]; first | rfl | (congr 1; simp; omega), rfl⟩
        · have h9b : (4 : Int) < (rs.length : Int) := by omega
          have HP : Hid (preB m 0 t ec false true rs.length = false) := by show _ = _; simp [preB, h9]; try omega
          go_wp2_with (first | (go_at_call 32; refine (rchk_t _ _ (by assumption)).mono ?_; rintro e w' ⟨rfl, rfl⟩) | (go_at_call 32; refine (rchk_f _ _ (by assumption)).mono ?_; rintro e w' ⟨rfl, rfl⟩) | go_in)
          go_meet
          case rel => exact ⟨by rw [HP.out]; first | rfl | (congr 1; simp; omega), rfl⟩
      · skip
        by_cases h9 : rs.length ≤ 4
        · have h9b : ¬ (4 : Int) < (rs.length : Int) := by omega
          have HP : Hid (preB m 0 0 0 false false rs.length = true) := by show _ = _; simp [preB, fitsB, h9, numB]; omega
          go_wp2_with (first | (go_at_call 32; refine (rchk_t _ _ (by assumption)).mono ?_; rintro e w' ⟨rfl, rfl⟩) | (go_at_call 32; refine (rchk_f _ _ (by assumption)).mono ?_; rintro e w' ⟨rfl, rfl⟩) | go_in)
          go_meet
          case rel => exact ⟨by rw [HP.out]; first | rfl | (congr 1; simp; omega), rfl⟩
        · have h9b : (4 : Int) < (rs.length : Int) := by omega
          have HP : Hid (preB m 0 0 0 false false rs.length = false) := by show _ = _; simp [preB, h9]; try omega
          go_wp2_with (first | (go_at_call 32; refine (rchk_t _ _ (by assumption)).mono ?_; rintro e w' ⟨rfl, rfl⟩) | (go_at_call 32; refine (rchk_f _ _ (by assumption)).mono ?_; rintro e w' ⟨rfl, rfl⟩) | go_in)
          go_meet
          case rel => exact ⟨by rw [HP.out]; first | rfl | (congr 1; simp; omega), rfl⟩
      · skip
        have h8b : (ec != 0) = true := by simpa using h8
        have HP : Hid (preB m 0 0 ec false false rs.length = false) := by show _ = _; simp [preB, h8]
        go_wp2_with (first | (go_at_call 32; refine (rchk_t _ _ (by assumption)).mono ?_; rintro e w' ⟨rfl, rfl⟩) | (go_at_call 32; refine (rchk_f _ _ (by assumption)).mono ?_; rintro e w' ⟨rfl, rfl⟩) | go_in)
        go_meet
        case rel => exact ⟨by rw [HP.out]; first | rfl | (congr 1; simp; omega), rfl⟩
      · skip
        have h8b : (t != 0) = true := by simpa using h8
        have HP : Hid (preB m 0 t ec false false rs.length = false) := by show _ = _; simp [preB, h8]
        go_wp2_with (first | (go_at_call 32; refine (rchk_t _ _ (by assumption)).mono ?_; rintro e w' ⟨rfl, rfl⟩) | (go_at_call 32; refine (rchk_f _ _ (by assumption)).mono ?_; rintro e w' ⟨rfl, rfl⟩) | go_in)
        go_meet
        case rel => exact ⟨by rw [HP.out]; first | rfl | (congr 1; simp; omega), rfl⟩
    · skip
      have h5b : (c != 0) = true := by simpa using h5
      have HP : Hid (preB m c t ec false sp rs.length = false) := by show _ = _; simp [preB, h5]
      go_wp2_with (first | (go_at_call 32; refine (rchk_t _ _ (by assumption)).mono ?_; rintro e w' ⟨rfl, rfl⟩) | (go_at_call 32; refine (rchk_f _ _ (by assumption)).mono ?_; rintro e w' ⟨rfl, rfl⟩) | go_in)
      go_meet
      case rel => exact ⟨by rw [HP.out]; first | rfl | (congr 1; simp; omega), rfl⟩
  case rest =>
  obtain ⟨rfl, rfl⟩ := hcut
  have hmx := HM.out
  clear HM
  rcases (Bool.eq_false_or_eq_true (preB m c t ec sd sp rs.length)).symm with hp | hp
  · rw [hp] at hmx ⊢
    have HM : Hid (mayO m c t ec sd ok sp rs = false) := by show _ = _; rw [hmx]; rfl
    clear hmx hp
    go_wp2
    go_ret
    exact ⟨by rw [HM.out]; rfl, HL.out⟩
  · have hn4 : rs.length ≤ 4 := by
      unfold preB at hp
      simp only [Bool.and_eq_true, decide_eq_true_eq] at hp
      exact hp.2
    rw [hp] at hmx ⊢
    rw [Bool.not_true]
    have HM : Hid (mayO m c t ec sd ok sp rs = (!(rs.any fun r => !rgB r) && decide (longN m sd ok sp rs.length ≤ 40))) := by show _ = _; rw [hmx, Bool.true_and]
    have HN4 : Hid (rs.length ≤ 4) := hn4
    have hn' : (rs.length : Int) ≤ 4 := by omega
    have HBY : Hid (∀ W, Rgs W (.slice x rs.length cap) rs → Calls Tryd.prog 57 #[.agg #[.int .i64 m, .int .i64 c, .int .i64 t, .int .i64 ec, .bool sd, .bool ok, .bool sp, (.slice x rs.length cap)]] W fun e w' => e = .returned (.string (encO m c t ec sd ok sp rs)) ∧ Below W.heap.size W w') := fun W h => rbytes_any m c t ec sd ok sp _ rs W h hn4
    have HES : Hid ((encO m c t ec sd ok sp rs).size = longN m sd ok sp rs.length) := encO_size m c t ec sd ok sp rs
    have hlo := (longN_le m sd ok sp rs.length).2
    clear hmx hp
    generalize encO m c t ec sd ok sp rs = E at *
    generalize longN m sd ok sp rs.length = LL at *
    go_wp2
    clear c0 c1 c2 c3 c4 c5 c6 c7
    go_loopw [3] (fun i W => ∃ k : Nat, k ≤ rs.length ∧ i = .int .i64 k ∧ ((rs.take k).any fun r => !rgB r) = false ∧ Below wc.heap.size wc W) (fun i _ => rs.length - (intOf i).toNat)
    case atStart => exact ⟨0, Nat.zero_le _, rfl, by simp, Below.refl _ _⟩
    case round =>
      obtain ⟨k, hk, rfl, hany, hbl⟩ := hrel
      obtain ⟨⟨c0, c1, c2, c3, c4, c5, c6, c7⟩, -, -⟩ := (HA.out.later hbl).eight
      have hltA := (HA.out.later hbl).1
      by_cases hlt : k < rs.length
      · obtain ⟨r, hr⟩ : ∃ r, rs[k]? = some r := ⟨rs[k], List.getElem?_eq_getElem hlt⟩
        have HS : Hid (((rs.take (k + 1)).any fun r => !rgB r) = ((rs.take k).any (fun r => !rgB r) || !rgB r)) := any_step rs k r hr
        have HAI : Hid (rgB r = false → (rs.any fun r => !rgB r) = true) := any_in rs k r hr
        obtain ⟨b, off, hxa, x1, x2⟩ : ∃ b off, x = some ⟨b, off, none⟩ ∧ wc.cell? ⟨b, off + k * 2, none⟩ = some (.int .i64 r.1) ∧ wc.cell? ⟨b, off + k * 2 + 1, none⟩ = some (.int .i64 r.2) := by
          obtain ⟨a', cap', e, -, h⟩ := HV.out
          simp only [Value.slice.injEq] at e
          obtain ⟨rfl, -, -⟩ := e
          rcases h with h | ⟨b, off, h, hx⟩
          · rw [h] at hr; simp at hr
          · exact ⟨b, off, h, hx k r hr⟩
        subst hxa
        obtain ⟨X, Y⟩ := r
        simp only at x1 x2
        replace x1 := later hbl x1
        replace x2 := later hbl x2
        have hltb := World.block_lt_of_cell? _ _ x1
        simp only at hltb
        have l0 : (0 : Int) ≤ (k : Int) := by omega
        have l1 : (k : Int) < (rs.length : Int) := by omega
        have HANY : Hid (((rs.take k).any fun r => !rgB r) = false) := hany
        clear hr hany
        have hbl1 := bt hbl (bel1 wr (.cells #[.int .i64 X, .int .i64 Y] 77))
        have hway : (rgB (X, Y) = true ∧ numB X = true ∧ numB Y = true ∧ (X == Y) = false) ∨ (rgB (X, Y) = false ∧ (numB X = false ∨ (numB X = true ∧ numB Y = false) ∨ (numB X = true ∧ numB Y = true ∧ X = Y))) := by
          unfold rgB
          simp only
          cases numB X <;> cases numB Y <;> by_cases h : X = Y <;> simp [h]
        rcases hway with ⟨hg, h1, h2, h3⟩ | ⟨hg, hf⟩
        · have HG : Hid (rgB (X, Y) = true) := hg
          clear hg
          go_wp2_with (first | (go_at_call 32; refine (rchk_t _ _ (by assumption)).mono ?_; rintro e w' ⟨rfl, rfl⟩) | (go_at_call 32; refine (rchk_f _ _ (by assumption)).mono ?_; rintro e w' ⟨rfl, rfl⟩) | go_in)
          go_roundw
          case rel => exact ⟨k + 1, by omega, by go_num, by rw [HS.out, HANY.out, HG.out]; rfl, hbl1⟩
          case measure => simp [intOf]; omega
        · have HG : Hid ((rs.any fun r => !rgB r) = true) := HAI.out hg
          clear hg
          rcases hf with h1 | ⟨h1, h2⟩ | ⟨h1, h2, h3⟩
          · go_wp2_with (first | (go_at_call 32; refine (rchk_t _ _ (by assumption)).mono ?_; rintro e w' ⟨rfl, rfl⟩) | (go_at_call 32; refine (rchk_f _ _ (by assumption)).mono ?_; rintro e w' ⟨rfl, rfl⟩) | go_in)
            go_ret
            exact ⟨by rw [HM.out, HG.out]; rfl, bt HL.out hbl1⟩
          · go_wp2_with (first | (go_at_call 32; refine (rchk_t _ _ (by assumption)).mono ?_; rintro e w' ⟨rfl, rfl⟩) | (go_at_call 32; refine (rchk_f _ _ (by assumption)).mono ?_; rintro e w' ⟨rfl, rfl⟩) | go_in)
            go_ret
            exact ⟨by rw [HM.out, HG.out]; rfl, bt HL.out hbl1⟩
          · subst h3
            go_wp2_with (first | (go_at_call 32; refine (rchk_t _ _ (by assumption)).mono ?_; rintro e w' ⟨rfl, rfl⟩) | (go_at_call 32; refine (rchk_f _ _ (by assumption)).mono ?_; rintro e w' ⟨rfl, rfl⟩) | go_in)
            go_ret
            exact ⟨by rw [HM.out, HG.out]; rfl, bt HL.out hbl1⟩
      · have hk' : k = rs.length := by omega
        subst hk'
        rw [List.take_length] at hany
        have HANY : Hid ((rs.any fun r => !rgB r) = false) := hany
        clear hany
        go_wp2_with fail
        refine (HBY.out _ (HV.out.later hbl)).mono ?_
        rintro e w3 ⟨rfl, hb⟩
        have hz := HES.out
        by_cases h40 : LL ≤ 40
        · have h40' : ¬ (40 : Int) < (E.size : Int) := by omega
          have HD : Hid (decide (LL ≤ 40) = true) := decide_eq_true h40
          clear hz
          go_wp2
          go_ret
          exact ⟨by rw [HM.out, HANY.out, HD.out]; rfl, bt HL.out (bt hbl hb)⟩
        · have h40' : (40 : Int) < (E.size : Int) := by omega
          have HD : Hid (decide (LL ≤ 40) = false) := decide_eq_false h40
          clear hz
          go_wp2
          go_ret
          exact ⟨by rw [HM.out, HANY.out, HD.out]; rfl, bt HL.out (bt hbl hb)⟩
end Go.Proofs.YtecoknenkjgmjabDoor
