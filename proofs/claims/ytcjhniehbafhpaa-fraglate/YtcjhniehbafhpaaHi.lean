/- FragLate, walked. -/
import Derived.Test.YtcjhniehbafhpaaHh
import Derived.Test.YtcjhniehbafhpaaFlat
import Derived.Deep.Cut
import Derived.Deep.CutRange
import Derived.Deep.QuietTactic
import Derived.BigQuiet
namespace Go.Proofs.Ytcjhniehbafhpaa
open Go.RowKit Go.Maps
set_option maxRecDepth 100000
set_option linter.unusedVariables false
set_option linter.unusedSimpArgs false

set_option maxHeartbeats 16000000 in
theorem late_any (a : Option Addr) (n cap : Nat) (wait : Int) (w : World) (hr : Flat.Rows w a n 10 [.i, .i, .i, .i, .i, .i, .b, .b, .s, .s]) (hz : n < 1000000000000000) :
    Calls Try.prog 5 #[.slice a n cap, .int .i64 wait] w fun e w' => e = .returned (.bool true) ∧ Below w.heap.size w w' := by
  have HA : Hid (Flat.Rows w a n 10 [.i, .i, .i, .i, .i, .i, .b, .b, .s, .s]) := hr
  clear hr
  go_enter Try.func5, Try.ntmps5
  go_wp2_with fail
  refine (works_any w).mono ?_
  rintro e w1 ⟨rfl, l1⟩
  go_wp2_with fail
  refine (among_any wait 20 w1 (by decide) (by decide)).mono ?_
  rintro e w2 ⟨rfl, rfl⟩
  have v0 : 0 ≤ wait % 20 := Int.emod_nonneg _ (by decide)
  have v1 : wait % 20 < 20 := Int.emod_lt_of_pos _ (by decide)
  generalize wait % 20 = wm at *
  go_wp2_with fail
  refine (new_t 64 (1 + wm) w2 (by decide) (by decide) (by omega) (by omega)).mono ?_
  rintro e w6 ⟨rfl, hBo, hGo, q6⟩
  have l6 := bt l1 q6
  have s6 := hBo.1
  have s05 := l1.size
  have HM0 : Hid (LX w6 w6 (w2.heap.size + 1) w2.heap.size (1 + wm) 0 0 0 []) := ⟨⟨hBo, hGo, (fun x hx => by cases hx), List.Pairwise.nil, by omega, by omega, Nat.le_refl _, by omega⟩, by decide, by decide, by decide, by decide, Nat.le_refl _, (fun x hx => by cases hx), (fun x hx => by cases hx), List.Pairwise.nil, (fun x hx => by cases hx), List.Pairwise.nil, Turn.refl _⟩
  clear hBo hGo q6 l1
  go_wp2
  go_loopw [7] (fun vi wr => ∃ (i : Nat) (la tu : Int) (lp : List Pile), i ≤ n ∧ i ≤ 40 ∧ vi = .int .i64 (i : Int) ∧ LX w6 wr (w2.heap.size + 1) w2.heap.size (1 + wm) i la tu lp) (fun vi _ => n - (intOf vi).toNat)
  case atStart => exact ⟨0, 0, 0, [], Nat.zero_le _, by decide, rfl, HM0.out⟩
  case round =>
    clear HM0
    obtain ⟨i, la, tu, lp, hin, hi40, rfl, hL⟩ := hrel
    have hbW : Below w.heap.size w wr := l6.trans (hL.tr.below l6.size (fun k hk e => by unfold FB at e; omega))
    by_cases hlt : i < n ∧ i < 40
    · obtain ⟨ab, off, rfl, hrow⟩ : ∃ b off, a = some ⟨b, off, none⟩ ∧ ∀ k, k < n → ∃ cs : List Value, Flat.Ok [.i, .i, .i, .i, .i, .i, .b, .b, .s, .s] cs ∧ ∀ j v, cs[j]? = some v → w.cell? ⟨b, off + k * 10 + j, none⟩ = some v := by
        rcases HA.out with h | h
        · omega
        · exact h
      obtain ⟨cs, ⟨hcl, hck⟩, hcc⟩ := hrow i hlt.1
      clear hrow
      match cs, hcl with
      | [c0, c1, c2, c3, c4, c5, c6, c7, c8, c9], _ =>
      obtain ⟨f, rfl, -⟩ := hck 0 _ _ rfl rfl
      obtain ⟨t, rfl, -⟩ := hck 1 _ _ rfl rfl
      obtain ⟨tl, rfl, -⟩ := hck 2 _ _ rfl rfl
      obtain ⟨pr, rfl, -⟩ := hck 3 _ _ rfl rfl
      obtain ⟨id, rfl, -⟩ := hck 4 _ _ rfl rfl
      obtain ⟨fr, rfl, -⟩ := hck 5 _ _ rfl rfl
      obtain ⟨mo, rfl⟩ := hck 6 _ _ rfl rfl
      obtain ⟨dn, rfl⟩ := hck 7 _ _ rfl rfl
      obtain ⟨op, rfl, hop⟩ := hck 8 _ _ rfl rfl
      obtain ⟨da, rfl, hda⟩ := hck 9 _ _ rfl rfl
      have hrg : wr.rangeAt ab (off + i * 10) [.int .i64 f, .int .i64 t, .int .i64 tl, .int .i64 pr, .int .i64 id, .int .i64 fr, .bool mo, .bool dn, .string op, .string da] := fun j u hu => later hbW (hcc j u hu)
      clear hcc hck
      have hk1 : (i : Int) < (n : Int) := by omega
      have hk2 : (i : Int) < 40 := by omega
      have hk3 : (0 : Int) ≤ (i : Int) := by omega
      have hda' : (da.size : Int) ≤ 140737488351232 := by omega
      have hi39 : i < 40 := hlt.2
      go_upto_region 11 with (first
        | (refine wpList_load_mid rfl 32 _ rfl ab (off + i * 10) (by first | rfl | simp) _ _ hrg Try.underlying32 rfl (by kernel_rfl) ?_)
        | (refine wpList_store_at rfl 32 _ _ rfl _ wr.heap.size #[.int .i64 0, .int .i64 0, .int .i64 0, .int .i64 0, .int .i64 0, .int .i64 0, .bool false, .bool false, .string ⟨#[]⟩, .string ⟨#[]⟩] #[.int .i64 f, .int .i64 t, .int .i64 tl, .int .i64 pr, .int .i64 id, .int .i64 fr, .bool mo, .bool dn, .string op, .string da] rfl rfl (At.box wr #[.int .i64 0, .int .i64 0, .int .i64 0, .int .i64 0, .int .i64 0, .int .i64 0, .bool false, .bool false, .string ⟨#[]⟩, .string ⟨#[]⟩] 32) rfl (by kernel_rfl) (by simp [Value.oneCell']) ?_; intro w3 hP3 ht3)
        | go_in)
      have q3 : Below wr.heap.size wr w3 := (bel1 wr (.cells #[.int .i64 0, .int .i64 0, .int .i64 0, .int .i64 0, .int .i64 0, .int .i64 0, .bool false, .bool false, .string ⟨#[]⟩, .string ⟨#[]⟩] 32)).trans (below_turn ht3 (Nat.le_refl _) (bel1 wr _).size)
      obtain ⟨pb, hpb⟩ : ∃ z, z = wr.heap.size := ⟨_, rfl⟩
      have hP3' : At w3 pb #[.int .i64 f, .int .i64 t, .int .i64 tl, .int .i64 pr, .int .i64 id, .int .i64 fr, .bool mo, .bool dn, .string op, .string da] := by rw [hpb]; exact hP3
      have hlm : ∀ W, Below pb w3 W → LX w6 W (w2.heap.size + 1) w2.heap.size (1 + wm) i la tu lp ∧ Below w.heap.size w W := fun W hW => by
        rw [hpb] at hW
        exact ⟨hL.later (q3.trans hW), bt hbW (q3.trans hW)⟩
      have HLM : Hid (∀ W, Below pb w3 W → LX w6 W (w2.heap.size + 1) w2.heap.size (1 + wm) i la tu lp ∧ Below w.heap.size w W) := hlm
      rw [← hpb]
      clear hP3 ht3 q3 hpb hrg hlm hL hbW
      obtain ⟨c4, f4⟩ := hP3'.2 4 _ rfl
      obtain ⟨c6, f6⟩ := hP3'.2 6 _ rfl
      go_upto_region 12 with fail
      have hP4 : At ((w3.setCell ⟨pb, 4, none⟩ (.int .i64 (i : Int))).setCell ⟨pb, 6, none⟩ (.bool true)) pb #[.int .i64 f, .int .i64 t, .int .i64 tl, .int .i64 pr, .int .i64 (i : Int), .int .i64 fr, .bool true, .bool dn, .string op, .string da] := (hP3'.set 4 _).set 6 _
      have ht4 : Turn (fun k => k = pb) w3 ((w3.setCell ⟨pb, 4, none⟩ (.int .i64 (i : Int))).setCell ⟨pb, 6, none⟩ (.bool true)) := (turn_set _ _ _ _).trans (turn_set _ _ _ _)
      have hb4 : Below pb w3 ((w3.setCell ⟨pb, 4, none⟩ (.int .i64 (i : Int))).setCell ⟨pb, 6, none⟩ (.bool true)) := below_turn ht4 (Nat.le_refl _) (Nat.le_of_lt hP3'.1)
      clear ht4 c4 f4 c6 f6
      generalize (w3.setCell ⟨pb, 4, none⟩ (.int .i64 (i : Int))).setCell ⟨pb, 6, none⟩ (.bool true) = w4 at *
      clear hP3'
      obtain ⟨c9, f9⟩ := hP4.2 9 _ rfl
      have hE : At (w4.setCell ⟨pb, 9, none⟩ (.string ⟨#[49, 50, 51, 52, 53, 54, 55, 56]⟩)) pb #[.int .i64 f, .int .i64 t, .int .i64 tl, .int .i64 pr, .int .i64 (i : Int), .int .i64 fr, .bool true, .bool dn, .string op, .string ⟨#[49, 50, 51, 52, 53, 54, 55, 56]⟩] := hP4.set 9 _
      have hbE : Below pb w3 (w4.setCell ⟨pb, 9, none⟩ (.string ⟨#[49, 50, 51, 52, 53, 54, 55, 56]⟩)) := hb4.trans (below_turn (turn_set _ _ _ _) (Nat.le_refl _) (Nat.le_of_lt hP4.1))
      have h8 : (da.size : Int) % 8 = ((da.size % 8 : Nat) : Int) := by omega
      by_cases hd0 : (da.size : Int) = 0
      · have hd0b : ((da.size : Int) == 0) = true := beq_iff_eq.2 hd0
        have HD0 : Hid ((da.size : Int) = 0) := hd0
        clear hd0 h8
        go_upto_region 14 with fail
        clear c9 f9 hP4 hb4
        generalize w4.setCell ⟨pb, 9, none⟩ (.string ⟨#[49, 50, 51, 52, 53, 54, 55, 56]⟩) = w5 at *
        as_aux_lemma =>
          have hdsz : (⟨#[49, 50, 51, 52, 53, 54, 55, 56]⟩ : ByteArray).size ≤ 1125899906842624 := by first | decide | omega
          have hosz : op.size ≤ 1125899906842624 := by omega
          cases hmay : mayP f t tl pr (i : Int) fr true op.size (⟨#[49, 50, 51, 52, 53, 54, 55, 56]⟩ : ByteArray).size with
          | false =>
            go_wp2_with (first | (refine wpList_load_at rfl 32 _ rfl _ pb #[.int .i64 f, .int .i64 t, .int .i64 tl, .int .i64 pr, .int .i64 (i : Int), .int .i64 fr, .bool true, .bool dn, .string op, .string ⟨#[49, 50, 51, 52, 53, 54, 55, 56]⟩] _ rfl hE Try.underlying32 (by kernel_rfl) ?_) | fail)
            refine (chk_f (dn := dn) hmay w5 hosz hdsz).mono ?_
            rintro e w7 ⟨rfl, l7⟩
            have HL7 : Hid (LX w6 w7 (w2.heap.size + 1) w2.heap.size (1 + wm) i la tu lp) := (HLM.out w5 hbE).1.later l7
            clear l7 hE hbE
            go_wp2
            go_roundw
            case rel => exact ⟨i + 1, la, tu, lp, by omega, by omega, by first | rfl | simp, HL7.out.next⟩
            case measure => simp [intOf]; omega
          | true =>
            go_wp2_with (first | (refine wpList_load_at rfl 32 _ rfl _ pb #[.int .i64 f, .int .i64 t, .int .i64 tl, .int .i64 pr, .int .i64 (i : Int), .int .i64 fr, .bool true, .bool dn, .string op, .string ⟨#[49, 50, 51, 52, 53, 54, 55, 56]⟩] _ rfl hE Try.underlying32 (by kernel_rfl) ?_) | fail)
            refine (chk_t (dn := dn) hmay w5 hosz hdsz).mono ?_
            rintro e w7 ⟨rfl, l7⟩
            have hL7 := (HLM.out w5 hbE).1.later l7
            have hP7 := hE.later l7
            have hcon := hL7.take (⟨f, t, tl, pr, (i : Int), fr, true, dn, op, ⟨#[49, 50, 51, 52, 53, 54, 55, 56]⟩⟩ : Pk) hmay rfl rfl hi39
            clear l7 hE hbE hL7
            go_wp2_with (first | (refine wpList_load_at rfl 32 _ rfl _ pb #[.int .i64 f, .int .i64 t, .int .i64 tl, .int .i64 pr, .int .i64 (i : Int), .int .i64 fr, .bool true, .bool dn, .string op, .string ⟨#[49, 50, 51, 52, 53, 54, 55, 56]⟩] _ rfl hP7 Try.underlying32 (by kernel_rfl) ?_) | fail)
            refine hcon.mono ?_
            rintro e w8 ⟨c, hc, rfl, la', tu', lp', hL8, hne⟩
            clear hcon hP7
            go_upto_region 16 with (first
              | (refine wpList_store_at rfl 32 _ _ rfl _ w8.heap.size #[.int .i64 0, .int .i64 0, .int .i64 0, .int .i64 0, .int .i64 0, .int .i64 0, .bool false, .bool false, .string ⟨#[]⟩, .string ⟨#[]⟩] #[.int .i64 0, .int .i64 0, .int .i64 0, .int .i64 0, .int .i64 0, .int .i64 0, .bool false, .bool false, .string ⟨#[]⟩, .string ⟨#[]⟩] rfl rfl (At.box w8 #[.int .i64 0, .int .i64 0, .int .i64 0, .int .i64 0, .int .i64 0, .int .i64 0, .bool false, .bool false, .string ⟨#[]⟩, .string ⟨#[]⟩] 32) rfl (by kernel_rfl) oneZ ?_; intro w10 hQ10 ht10)
              | go_in)
            have q10 : Below w8.heap.size w8 w10 := (bel1 w8 (.cells #[.int .i64 0, .int .i64 0, .int .i64 0, .int .i64 0, .int .i64 0, .int .i64 0, .bool false, .bool false, .string ⟨#[]⟩, .string ⟨#[]⟩] 32)).trans (below_turn ht10 (Nat.le_refl _) (bel1 w8 _).size)
            have hL10 := hL8.later q10
            have HL10 : Hid (LX w6 w10 (w2.heap.size + 1) w2.heap.size (1 + wm) (i + 1) la' tu' lp') := hL10
            clear hL8 q10 ht10 hQ10
            rcases hc with rfl | rfl
            · have hl0 : lp'.length ≠ 0 := fun e => hne rfl (List.length_eq_zero_iff.1 e)
              have hbx := hL10.bx
              clear hne hL10
              go_wp2_with fail
              refine (len_any hbx).mono ?_
              rintro e w11 ⟨rfl, rfl⟩
              have hl1 : ((lp'.length : Int) == 0) = false := beq_eq_false_iff_ne.2 (by omega)
              have hl2 : ¬ (lp'.length : Int) = 0 := by omega
              clear hbx hl0
              go_wp2
              go_roundw
              case rel => exact ⟨i + 1, la', tu', lp', by omega, by omega, by first | rfl | simp, HL10.out⟩
              case measure => simp [intOf]; omega
            · clear hne hL10
              go_wp2
              go_roundw
              case rel => exact ⟨i + 1, la', tu', lp', by omega, by omega, by first | rfl | simp, HL10.out⟩
              case measure => simp [intOf]; omega
      have hd0b : ((da.size : Int) == 0) = false := beq_eq_false_iff_ne.2 hd0
      obtain ⟨rm, hrm⟩ : ∃ rm : Int, rm = Int.tmod (da.size : Int) 8 := ⟨_, rfl⟩
      have hrm2 : Int.tmod (da.size : Int) 8 = rm := hrm.symm
      have HRM : Hid (rm = ((da.size % 8 : Nat) : Int)) := by show _ = _; rw [hrm, Int.tmod_eq_emod_of_nonneg (by omega)]; exact h8
      clear hrm h8
      by_cases hd8 : rm = 0
      · have HD8 : Hid (rm = 0) := hd8
        have hd8b : (rm != 0) = false := by simp [hd8]
        subst hd8
        have hdd : da.size ≠ 0 ∧ da.size % 8 = 0 := ⟨by omega, by have := HRM.out; omega⟩
        have HDD : Hid (da.size ≠ 0 ∧ da.size % 8 = 0) := hdd
        clear hE hbE hdd
        go_upto_region 14 with fail
        clear c9 f9
        obtain ⟨w5, hw5⟩ : ∃ x, x = w4 := ⟨w4, rfl⟩
        subst hw5
        as_aux_lemma =>
          have hdsz : (da : ByteArray).size ≤ 1125899906842624 := by first | decide | omega
          have hosz : op.size ≤ 1125899906842624 := by omega
          cases hmay : mayP f t tl pr (i : Int) fr true op.size (da : ByteArray).size with
          | false =>
            go_wp2_with (first | (refine wpList_load_at rfl 32 _ rfl _ pb #[.int .i64 f, .int .i64 t, .int .i64 tl, .int .i64 pr, .int .i64 (i : Int), .int .i64 fr, .bool true, .bool dn, .string op, .string da] _ rfl hP4 Try.underlying32 (by kernel_rfl) ?_) | fail)
            refine (chk_f (dn := dn) hmay w5 hosz hdsz).mono ?_
            rintro e w7 ⟨rfl, l7⟩
            have HL7 : Hid (LX w6 w7 (w2.heap.size + 1) w2.heap.size (1 + wm) i la tu lp) := (HLM.out w5 hb4).1.later l7
            clear l7 hP4 hb4
            go_wp2
            go_roundw
            case rel => exact ⟨i + 1, la, tu, lp, by omega, by omega, by first | rfl | simp, HL7.out.next⟩
            case measure => simp [intOf]; omega
          | true =>
            go_wp2_with (first | (refine wpList_load_at rfl 32 _ rfl _ pb #[.int .i64 f, .int .i64 t, .int .i64 tl, .int .i64 pr, .int .i64 (i : Int), .int .i64 fr, .bool true, .bool dn, .string op, .string da] _ rfl hP4 Try.underlying32 (by kernel_rfl) ?_) | fail)
            refine (chk_t (dn := dn) hmay w5 hosz hdsz).mono ?_
            rintro e w7 ⟨rfl, l7⟩
            have hL7 := (HLM.out w5 hb4).1.later l7
            have hP7 := hP4.later l7
            have hcon := hL7.take (⟨f, t, tl, pr, (i : Int), fr, true, dn, op, da⟩ : Pk) hmay rfl rfl hi39
            clear l7 hP4 hb4 hL7
            go_wp2_with (first | (refine wpList_load_at rfl 32 _ rfl _ pb #[.int .i64 f, .int .i64 t, .int .i64 tl, .int .i64 pr, .int .i64 (i : Int), .int .i64 fr, .bool true, .bool dn, .string op, .string da] _ rfl hP7 Try.underlying32 (by kernel_rfl) ?_) | fail)
            refine hcon.mono ?_
            rintro e w8 ⟨c, hc, rfl, la', tu', lp', hL8, hne⟩
            clear hcon hP7
            go_upto_region 16 with (first
              | (refine wpList_store_at rfl 32 _ _ rfl _ w8.heap.size #[.int .i64 0, .int .i64 0, .int .i64 0, .int .i64 0, .int .i64 0, .int .i64 0, .bool false, .bool false, .string ⟨#[]⟩, .string ⟨#[]⟩] #[.int .i64 0, .int .i64 0, .int .i64 0, .int .i64 0, .int .i64 0, .int .i64 0, .bool false, .bool false, .string ⟨#[]⟩, .string ⟨#[]⟩] rfl rfl (At.box w8 #[.int .i64 0, .int .i64 0, .int .i64 0, .int .i64 0, .int .i64 0, .int .i64 0, .bool false, .bool false, .string ⟨#[]⟩, .string ⟨#[]⟩] 32) rfl (by kernel_rfl) oneZ ?_; intro w10 hQ10 ht10)
              | go_in)
            have q10 : Below w8.heap.size w8 w10 := (bel1 w8 (.cells #[.int .i64 0, .int .i64 0, .int .i64 0, .int .i64 0, .int .i64 0, .int .i64 0, .bool false, .bool false, .string ⟨#[]⟩, .string ⟨#[]⟩] 32)).trans (below_turn ht10 (Nat.le_refl _) (bel1 w8 _).size)
            have hL10 := hL8.later q10
            have HL10 : Hid (LX w6 w10 (w2.heap.size + 1) w2.heap.size (1 + wm) (i + 1) la' tu' lp') := hL10
            clear hL8 q10 ht10 hQ10
            rcases hc with rfl | rfl
            · have hl0 : lp'.length ≠ 0 := fun e => hne rfl (List.length_eq_zero_iff.1 e)
              have hbx := hL10.bx
              clear hne hL10
              go_wp2_with fail
              refine (len_any hbx).mono ?_
              rintro e w11 ⟨rfl, rfl⟩
              have hl1 : ((lp'.length : Int) == 0) = false := beq_eq_false_iff_ne.2 (by omega)
              have hl2 : ¬ (lp'.length : Int) = 0 := by omega
              clear hbx hl0
              go_wp2
              go_roundw
              case rel => exact ⟨i + 1, la', tu', lp', by omega, by omega, by first | rfl | simp, HL10.out⟩
              case measure => simp [intOf]; omega
            · clear hne hL10
              go_wp2
              go_roundw
              case rel => exact ⟨i + 1, la', tu', lp', by omega, by omega, by first | rfl | simp, HL10.out⟩
              case measure => simp [intOf]; omega
      · have hd8b : (rm != 0) = true := by simp [hd8]
        go_upto_region 14 with fail
        clear c9 f9 hP4 hb4
        generalize w4.setCell ⟨pb, 9, none⟩ (.string ⟨#[49, 50, 51, 52, 53, 54, 55, 56]⟩) = w5 at *
        as_aux_lemma =>
          have hdsz : (⟨#[49, 50, 51, 52, 53, 54, 55, 56]⟩ : ByteArray).size ≤ 1125899906842624 := by first | decide | omega
          have hosz : op.size ≤ 1125899906842624 := by omega
          cases hmay : mayP f t tl pr (i : Int) fr true op.size (⟨#[49, 50, 51, 52, 53, 54, 55, 56]⟩ : ByteArray).size with
          | false =>
            go_wp2_with (first | (refine wpList_load_at rfl 32 _ rfl _ pb #[.int .i64 f, .int .i64 t, .int .i64 tl, .int .i64 pr, .int .i64 (i : Int), .int .i64 fr, .bool true, .bool dn, .string op, .string ⟨#[49, 50, 51, 52, 53, 54, 55, 56]⟩] _ rfl hE Try.underlying32 (by kernel_rfl) ?_) | fail)
            refine (chk_f (dn := dn) hmay w5 hosz hdsz).mono ?_
            rintro e w7 ⟨rfl, l7⟩
            have HL7 : Hid (LX w6 w7 (w2.heap.size + 1) w2.heap.size (1 + wm) i la tu lp) := (HLM.out w5 hbE).1.later l7
            clear l7 hE hbE
            go_wp2
            go_roundw
            case rel => exact ⟨i + 1, la, tu, lp, by omega, by omega, by first | rfl | simp, HL7.out.next⟩
            case measure => simp [intOf]; omega
          | true =>
            go_wp2_with (first | (refine wpList_load_at rfl 32 _ rfl _ pb #[.int .i64 f, .int .i64 t, .int .i64 tl, .int .i64 pr, .int .i64 (i : Int), .int .i64 fr, .bool true, .bool dn, .string op, .string ⟨#[49, 50, 51, 52, 53, 54, 55, 56]⟩] _ rfl hE Try.underlying32 (by kernel_rfl) ?_) | fail)
            refine (chk_t (dn := dn) hmay w5 hosz hdsz).mono ?_
            rintro e w7 ⟨rfl, l7⟩
            have hL7 := (HLM.out w5 hbE).1.later l7
            have hP7 := hE.later l7
            have hcon := hL7.take (⟨f, t, tl, pr, (i : Int), fr, true, dn, op, ⟨#[49, 50, 51, 52, 53, 54, 55, 56]⟩⟩ : Pk) hmay rfl rfl hi39
            clear l7 hE hbE hL7
            go_wp2_with (first | (refine wpList_load_at rfl 32 _ rfl _ pb #[.int .i64 f, .int .i64 t, .int .i64 tl, .int .i64 pr, .int .i64 (i : Int), .int .i64 fr, .bool true, .bool dn, .string op, .string ⟨#[49, 50, 51, 52, 53, 54, 55, 56]⟩] _ rfl hP7 Try.underlying32 (by kernel_rfl) ?_) | fail)
            refine hcon.mono ?_
            rintro e w8 ⟨c, hc, rfl, la', tu', lp', hL8, hne⟩
            clear hcon hP7
            go_upto_region 16 with (first
              | (refine wpList_store_at rfl 32 _ _ rfl _ w8.heap.size #[.int .i64 0, .int .i64 0, .int .i64 0, .int .i64 0, .int .i64 0, .int .i64 0, .bool false, .bool false, .string ⟨#[]⟩, .string ⟨#[]⟩] #[.int .i64 0, .int .i64 0, .int .i64 0, .int .i64 0, .int .i64 0, .int .i64 0, .bool false, .bool false, .string ⟨#[]⟩, .string ⟨#[]⟩] rfl rfl (At.box w8 #[.int .i64 0, .int .i64 0, .int .i64 0, .int .i64 0, .int .i64 0, .int .i64 0, .bool false, .bool false, .string ⟨#[]⟩, .string ⟨#[]⟩] 32) rfl (by kernel_rfl) oneZ ?_; intro w10 hQ10 ht10)
              | go_in)
            have q10 : Below w8.heap.size w8 w10 := (bel1 w8 (.cells #[.int .i64 0, .int .i64 0, .int .i64 0, .int .i64 0, .int .i64 0, .int .i64 0, .bool false, .bool false, .string ⟨#[]⟩, .string ⟨#[]⟩] 32)).trans (below_turn ht10 (Nat.le_refl _) (bel1 w8 _).size)
            have hL10 := hL8.later q10
            have HL10 : Hid (LX w6 w10 (w2.heap.size + 1) w2.heap.size (1 + wm) (i + 1) la' tu' lp') := hL10
            clear hL8 q10 ht10 hQ10
            rcases hc with rfl | rfl
            · have hl0 : lp'.length ≠ 0 := fun e => hne rfl (List.length_eq_zero_iff.1 e)
              have hbx := hL10.bx
              clear hne hL10
              go_wp2_with fail
              refine (len_any hbx).mono ?_
              rintro e w11 ⟨rfl, rfl⟩
              have hl1 : ((lp'.length : Int) == 0) = false := beq_eq_false_iff_ne.2 (by omega)
              have hl2 : ¬ (lp'.length : Int) = 0 := by omega
              clear hbx hl0
              go_wp2
              go_roundw
              case rel => exact ⟨i + 1, la', tu', lp', by omega, by omega, by first | rfl | simp, HL10.out⟩
              case measure => simp [intOf]; omega
            · clear hne hL10
              go_wp2
              go_roundw
              case rel => exact ⟨i + 1, la', tu', lp', by omega, by omega, by first | rfl | simp, HL10.out⟩
              case measure => simp [intOf]; omega
    · as_aux_lemma =>
        have ho := hL.old hi40 (by omega)
        have htu : ∀ x ∈ lp, 0 ≤ x.tu ∧ x.tu < 1099511627776 := fun x hx => by have := hL.tus x hx; have := hL.t1; omega
        have hne : ∀ x ∈ lp, x.ps ≠ [] := fun x hx => by obtain ⟨-, q, e, -⟩ := hL.id x hx; rw [e]; simp
        have hll : lp.length ≤ 64 := by have := hL.len; omega
        have hla1 := hL.la1
        have hla0 := hL.la0
        have hcon := tick_any hL.bx 100 (by omega) (by decide) (by omega) (by omega) hla0 hL.at_ htu hL.so hne hll
        have HID : Hid ((lateL lp).Pairwise (fun a b => a.id < b.id) ∧ ∀ q ∈ lateL lp, q.fr = 0) := ⟨late_ids (fun x hx => (hL.id x hx).2) hL.ids, fun q hq => (late_mem hq).1⟩
        have hlla : (lateL lp).length ≤ 64 := Nat.le_trans (late_len lp) hll
        have hR := hL.bx.rw'
        clear htu hne hL
        have hxx : ¬ ((i : Int) < (n : Int) ∧ (i : Int) < 40) := by omega
        by_cases hkn' : (i : Int) < (n : Int)
        · have hk30' : ¬ (i : Int) < 40 := by omega
          clear hxx hlt
          go_wp2_with fail
          refine hcon.mono ?_
          rintro e w8 ⟨v, rfl, hB8, hR8, ht8⟩
          clear hcon
          rw [ho.1] at hB8
          rw [ho.2] at hR8
          have hb8 : Below w.heap.size w w8 := hbW.trans (ht8.below hbW.size (fun k hk e => by omega))
          have hs8 := ht8.size
          clear ht8 hbW ho
          go_wp2_with fail
          refine (len_any hB8).mono ?_
          rintro e w9 ⟨rfl, rfl⟩
          obtain ⟨G, hG⟩ : ∃ G, G = lateL lp := ⟨_, rfl⟩
          rw [← hG] at hR8 hlla
          have HID2 : Hid (G.Pairwise (fun a b => a.id < b.id) ∧ ∀ q ∈ G, q.fr = 0) := by rw [hG]; exact HID.out
          clear HID hG
          obtain ⟨va, vc, hv⟩ := hR8.shape
          subst hv
          have HR8 : Hid (RW w9 wr.heap.size (.slice va G.length vc) G) := hR8
          have HB8 : Hid (BX w9 w6.heap.size (w2.heap.size + 1) w2.heap.size 64 (1 + wm) 100 tu []) := hB8
          have hGi : (G.length : Int) ≤ 64 := by omega
          clear hR8 hB8
          go_wp2
          go_loopw [100] (fun vi wq => ∃ (j : Nat), j ≤ G.length ∧ vi = .int .i64 (j : Int) ∧ Below w9.heap.size w9 wq) (fun vi _ => G.length - (intOf vi).toNat)
          case atStart => exact ⟨0, Nat.zero_le _, rfl, Below.refl _ _⟩
          case round =>
            obtain ⟨j, hj, rfl, hb⟩ := hrel
            obtain ⟨w9', hw9'⟩ : ∃ x, x = w9 := ⟨_, rfl⟩
            by_cases hlj : j < G.length
            · obtain ⟨q, hq⟩ : ∃ q, G[j]? = some q := ⟨G[j], List.getElem?_eq_getElem hlj⟩
              obtain ⟨lg, hvg, hcl⟩ : ∃ lg, va = some ⟨lg, 0, none⟩ ∧ ∀ k p, G[k]? = some p → ∀ s u, p.L[s]? = some u → w9.cell? ⟨lg, k * 10 + s, none⟩ = some u := by
                obtain ⟨lg, c', cur, hv, -⟩ := HR8.out.real (fun e => by rw [e] at hlj; exact absurd hlj (Nat.not_lt_zero _))
                injection hv with e1
                subst e1
                exact ⟨lg, rfl, fun k p hp s u hu => HR8.out.cells hp s u hu⟩
              subst hvg
              have hrg : wr.rangeAt lg (j * 10) [.int .i64 q.f, .int .i64 q.t, .int .i64 q.tl, .int .i64 q.pr, .int .i64 q.id, .int .i64 q.fr, .bool q.mo, .bool q.dn, .string q.op, .string q.da] := fun s u hu => later hb (hcl j q hq s u hu)
              have hqf : q.fr = 0 := HID2.out.2 q (List.mem_of_getElem? hq)
              have hfb : (q.fr != 0) = false := by simp [hqf]
              clear hqf
              have hj1 : (j : Int) < (G.length : Int) := by omega
              have hj3 : (0 : Int) ≤ (j : Int) := by omega
              go_upto_region 27 with (first
                | (refine wpList_load_mid rfl 32 _ rfl lg (j * 10) (by first | rfl | simp) _ _ hrg Try.underlying32 rfl (by kernel_rfl) ?_)
                | (refine wpList_store_at rfl 32 _ _ rfl _ wr.heap.size #[.int .i64 0, .int .i64 0, .int .i64 0, .int .i64 0, .int .i64 0, .int .i64 0, .bool false, .bool false, .string ⟨#[]⟩, .string ⟨#[]⟩] #[.int .i64 q.f, .int .i64 q.t, .int .i64 q.tl, .int .i64 q.pr, .int .i64 q.id, .int .i64 q.fr, .bool q.mo, .bool q.dn, .string q.op, .string q.da] rfl rfl (At.box wr #[.int .i64 0, .int .i64 0, .int .i64 0, .int .i64 0, .int .i64 0, .int .i64 0, .bool false, .bool false, .string ⟨#[]⟩, .string ⟨#[]⟩] 32) rfl (by kernel_rfl) (by simp [Value.oneCell']) ?_; intro w11 hQ11 ht11)
                | go_in)
              have q11 : Below wr.heap.size wr w11 := (bel1 wr (.cells #[.int .i64 0, .int .i64 0, .int .i64 0, .int .i64 0, .int .i64 0, .int .i64 0, .bool false, .bool false, .string ⟨#[]⟩, .string ⟨#[]⟩] 32)).trans (below_turn ht11 (Nat.le_refl _) (bel1 wr _).size)
              have hb11 := bt hb q11
              have y5 := (hQ11.2 5 _ rfl).1
              have y4 := (hQ11.2 4 _ rfl).1
              rcases Nat.eq_zero_or_pos j with hj0 | hj0
              · have hjn : ¬ (0 : Int) < (j : Int) := by omega
                have hjn2 : ¬ 0 < j := by omega
                have hjn3 : decide (0 < j) = false := decide_eq_false hjn2
                have hjn4 : decide ((0 : Int) < (j : Int)) = false := decide_eq_false hjn
                have hc5 : ∀ W, Below w11.heap.size w11 W → W.cell? ⟨wr.heap.size, 5, none⟩ = some (.int .i64 q.fr) := fun W hW => later hW y5
                clear hj0 hjn hjn2 y5 y4
                clear hrg hcl hq ht11 q11 hQ11 hb
                refine wp_region_held_drew (S := (fun W => Below w11.heap.size w11 W)) (by kernel_rfl) ?_ (fun hHeld => ?_)
                · first | exact (Below.refl _ _).drew | assumption
                refine wpAnyH_take (i := 0) (oi := ({ dst := some 105, op := Go.Op.fieldAddr 32 (Go.Operand.tmp 14) 5, type := 0, pos := "theorems.go:102", after := #[], guard := none } : Go.Oper)) (v := .pointer (some ⟨wr.heap.size, 5, none⟩)) rfl (by kernel_rfl) (by kernel_rfl) (by kernel_rfl) (fun _ _ _ h => h) (Or.inl ⟨by rfl, ?_⟩) (by assumption) ?_
                · intro wx hSw
                  try dsimp only at hSw
                  have u5 := hc5 wx hSw
                  go_simp
                  try with_reducible rfl
                try simp only [Act.put, List.setIfInBounds_toArray, List.set_cons_zero, List.set_cons_succ]
                refine wpAnyH_take (i := 1) (oi := ({ dst := some 106, op := Go.Op.load 3 (Go.Operand.tmp 105), type := 3, pos := "theorems.go:102", after := #[{ on := 0, ground := Go.Ground.data }], guard := none } : Go.Oper)) (v := .int .i64 q.fr) rfl (by kernel_rfl) (by kernel_rfl) (by kernel_rfl) (fun _ _ _ h => h) (Or.inl ⟨by rfl, ?_⟩) (by assumption) ?_
                · intro wx hSw
                  try dsimp only at hSw
                  have u5 := hc5 wx hSw
                  go_simp
                  try with_reducible rfl
                try simp only [Act.put, List.setIfInBounds_toArray, List.set_cons_zero, List.set_cons_succ]
                refine wpAnyH_take (i := 2) (oi := ({ dst := some 107, op := Go.Op.binOp Go.BinOp.neq 3 (Go.Operand.tmp 106) (Go.Operand.const (Go.Value.int Go.IntKind.i64 0)) 3, type := 4, pos := "theorems.go:102", after := #[{ on := 1, ground := Go.Ground.data }], guard := none } : Go.Oper)) (v := .bool false) rfl (by kernel_rfl) (by kernel_rfl) (by kernel_rfl) (fun _ _ _ h => h) (Or.inl ⟨by rfl, ?_⟩) (by assumption) ?_
                · intro wx hSw
                  try dsimp only at hSw
                  have u5 := hc5 wx hSw
                  go_simp
                  try with_reducible rfl
                try simp only [Act.put, List.setIfInBounds_toArray, List.set_cons_zero, List.set_cons_succ]
                refine wpAnyH_take (i := 3) (oi := ({ dst := some 108, op := Go.Op.move (Go.Operand.tmp 107), type := 4, pos := "theorems.go:102", after := #[{ on := 2, ground := Go.Ground.data }], guard := none } : Go.Oper)) (v := .bool false) rfl (by kernel_rfl) (by kernel_rfl) (by kernel_rfl) (fun _ _ _ h => h) (Or.inl ⟨by rfl, ?_⟩) (by assumption) ?_
                · intro wx hSw
                  try dsimp only at hSw
                  have u5 := hc5 wx hSw
                  go_simp
                  try with_reducible rfl
                try simp only [Act.put, List.setIfInBounds_toArray, List.set_cons_zero, List.set_cons_succ]
                refine wpAnyH_take (i := 4) (oi := ({ dst := some 109, op := Go.Op.move (Go.Operand.tmp 13), type := 3, pos := "theorems.go:102", after := #[{ on := 3, ground := Go.Ground.guard }], guard := some (3, false) } : Go.Oper)) (v := .int .i64 (j : Int)) rfl (by kernel_rfl) (by kernel_rfl) (by kernel_rfl) (fun _ _ _ h => h) (Or.inl ⟨by rfl, ?_⟩) (by assumption) ?_
                · intro wx hSw
                  try dsimp only at hSw
                  have u5 := hc5 wx hSw
                  go_simp
                  try with_reducible rfl
                try simp only [Act.put, List.setIfInBounds_toArray, List.set_cons_zero, List.set_cons_succ]
                refine wpAnyH_take (i := 5) (oi := ({ dst := some 110, op := Go.Op.binOp Go.BinOp.gtr 3 (Go.Operand.tmp 109) (Go.Operand.const (Go.Value.int Go.IntKind.i64 0)) 3, type := 4, pos := "theorems.go:102", after := #[{ on := 4, ground := Go.Ground.data }, { on := 3, ground := Go.Ground.guard }], guard := some (3, false) } : Go.Oper)) (v := .bool false) rfl (by kernel_rfl) (by kernel_rfl) (by kernel_rfl) (fun _ _ _ h => h) (Or.inl ⟨by rfl, ?_⟩) (by assumption) ?_
                · intro wx hSw
                  try dsimp only at hSw
                  have u5 := hc5 wx hSw
                  go_simp
                  try with_reducible rfl
                try simp only [Act.put, List.setIfInBounds_toArray, List.set_cons_zero, List.set_cons_succ]
                refine wpAnyH_take (i := 6) (oi := ({ dst := some 111, op := Go.Op.move (Go.Operand.tmp 110), type := 4, pos := "theorems.go:102", after := #[{ on := 5, ground := Go.Ground.data }, { on := 3, ground := Go.Ground.chain }, { on := 3, ground := Go.Ground.guard }], guard := some (3, false) } : Go.Oper)) (v := .bool false) rfl (by kernel_rfl) (by kernel_rfl) (by kernel_rfl) (fun _ _ _ h => h) (Or.inl ⟨by rfl, ?_⟩) (by assumption) ?_
                · intro wx hSw
                  try dsimp only at hSw
                  have u5 := hc5 wx hSw
                  go_simp
                  try with_reducible rfl
                try simp only [Act.put, List.setIfInBounds_toArray, List.set_cons_zero, List.set_cons_succ]
                refine wpAnyH_take (i := 7) (oi := ({ dst := some 112, op := Go.Op.fieldAddr 32 (Go.Operand.tmp 14) 4, type := 0, pos := "theorems.go:102", after := #[{ on := 6, ground := Go.Ground.guard }], guard := some (6, true) } : Go.Oper)) (v := undef) rfl (by kernel_rfl) (by kernel_rfl) (by kernel_rfl) (fun _ _ _ h => h) (Or.inr ⟨by rfl, rfl⟩) (by assumption) ?_
                try simp only [Act.put, List.setIfInBounds_toArray, List.set_cons_zero, List.set_cons_succ]
                refine wpAnyH_take (i := 8) (oi := ({ dst := some 113, op := Go.Op.load 3 (Go.Operand.tmp 112), type := 3, pos := "theorems.go:102", after := #[{ on := 7, ground := Go.Ground.data }, { on := 6, ground := Go.Ground.guard }], guard := some (6, true) } : Go.Oper)) (v := undef) rfl (by kernel_rfl) (by kernel_rfl) (by kernel_rfl) (fun _ _ _ h => h) (Or.inr ⟨by rfl, rfl⟩) (by assumption) ?_
                try simp only [Act.put, List.setIfInBounds_toArray, List.set_cons_zero, List.set_cons_succ]
                refine wpAnyH_take (i := 9) (oi := ({ dst := some 114, op := Go.Op.move (Go.Operand.tmp 12), type := 36, pos := "theorems.go:102", after := #[{ on := 6, ground := Go.Ground.guard }], guard := some (6, true) } : Go.Oper)) (v := undef) rfl (by kernel_rfl) (by kernel_rfl) (by kernel_rfl) (fun _ _ _ h => h) (Or.inr ⟨by rfl, rfl⟩) (by assumption) ?_
                try simp only [Act.put, List.setIfInBounds_toArray, List.set_cons_zero, List.set_cons_succ]
                refine wpAnyH_take (i := 10) (oi := ({ dst := some 115, op := Go.Op.move (Go.Operand.tmp 13), type := 3, pos := "theorems.go:102", after := #[{ on := 6, ground := Go.Ground.guard }], guard := some (6, true) } : Go.Oper)) (v := undef) rfl (by kernel_rfl) (by kernel_rfl) (by kernel_rfl) (fun _ _ _ h => h) (Or.inr ⟨by rfl, rfl⟩) (by assumption) ?_
                try simp only [Act.put, List.setIfInBounds_toArray, List.set_cons_zero, List.set_cons_succ]
                refine wpAnyH_take (i := 11) (oi := ({ dst := some 116, op := Go.Op.binOp Go.BinOp.sub 3 (Go.Operand.tmp 115) (Go.Operand.const (Go.Value.int Go.IntKind.i64 1)) 3, type := 3, pos := "theorems.go:102", after := #[{ on := 10, ground := Go.Ground.data }, { on := 6, ground := Go.Ground.guard }], guard := some (6, true) } : Go.Oper)) (v := undef) rfl (by kernel_rfl) (by kernel_rfl) (by kernel_rfl) (fun _ _ _ h => h) (Or.inr ⟨by rfl, rfl⟩) (by assumption) ?_
                try simp only [Act.put, List.setIfInBounds_toArray, List.set_cons_zero, List.set_cons_succ]
                refine wpAnyH_take (i := 12) (oi := ({ dst := some 117, op := Go.Op.indexAddr 36 (Go.Operand.tmp 114) (Go.Operand.tmp 116), type := 0, pos := "theorems.go:102", after := #[{ on := 9, ground := Go.Ground.data }, { on := 11, ground := Go.Ground.data }, { on := 6, ground := Go.Ground.guard }], guard := some (6, true) } : Go.Oper)) (v := undef) rfl (by kernel_rfl) (by kernel_rfl) (by kernel_rfl) (fun _ _ _ h => h) (Or.inr ⟨by rfl, rfl⟩) (by assumption) ?_
                try simp only [Act.put, List.setIfInBounds_toArray, List.set_cons_zero, List.set_cons_succ]
                refine wpAnyH_take (i := 13) (oi := ({ dst := some 118, op := Go.Op.fieldAddr 32 (Go.Operand.tmp 117) 4, type := 0, pos := "theorems.go:102", after := #[{ on := 12, ground := Go.Ground.data }, { on := 6, ground := Go.Ground.guard }], guard := some (6, true) } : Go.Oper)) (v := undef) rfl (by kernel_rfl) (by kernel_rfl) (by kernel_rfl) (fun _ _ _ h => h) (Or.inr ⟨by rfl, rfl⟩) (by assumption) ?_
                try simp only [Act.put, List.setIfInBounds_toArray, List.set_cons_zero, List.set_cons_succ]
                refine wpAnyH_take (i := 14) (oi := ({ dst := some 119, op := Go.Op.load 3 (Go.Operand.tmp 118), type := 3, pos := "theorems.go:102", after := #[{ on := 13, ground := Go.Ground.data }, { on := 6, ground := Go.Ground.guard }], guard := some (6, true) } : Go.Oper)) (v := undef) rfl (by kernel_rfl) (by kernel_rfl) (by kernel_rfl) (fun _ _ _ h => h) (Or.inr ⟨by rfl, rfl⟩) (by assumption) ?_
                try simp only [Act.put, List.setIfInBounds_toArray, List.set_cons_zero, List.set_cons_succ]
                refine wpAnyH_take (i := 15) (oi := ({ dst := some 120, op := Go.Op.binOp Go.BinOp.leq 3 (Go.Operand.tmp 113) (Go.Operand.tmp 119) 3, type := 4, pos := "theorems.go:102", after := #[{ on := 8, ground := Go.Ground.data }, { on := 14, ground := Go.Ground.data }, { on := 6, ground := Go.Ground.guard }], guard := some (6, true) } : Go.Oper)) (v := undef) rfl (by kernel_rfl) (by kernel_rfl) (by kernel_rfl) (fun _ _ _ h => h) (Or.inr ⟨by rfl, rfl⟩) (by assumption) ?_
                try simp only [Act.put, List.setIfInBounds_toArray, List.set_cons_zero, List.set_cons_succ]
                refine wpAnyH_take (i := 16) (oi := ({ dst := some 121, op := Go.Op.pick (Go.Operand.tmp 111) (Go.Operand.tmp 120) (Go.Operand.const (Go.Value.bool false)), type := 4, pos := "theorems.go:102", after := #[{ on := 6, ground := Go.Ground.data }, { on := 15, ground := Go.Ground.data }, { on := 3, ground := Go.Ground.guard }], guard := some (3, false) } : Go.Oper)) (v := .bool false) rfl (by kernel_rfl) (by kernel_rfl) (by kernel_rfl) (fun _ _ _ h => h) (Or.inl ⟨by rfl, ?_⟩) (by assumption) ?_
                · intro wx hSw
                  try dsimp only at hSw
                  have u5 := hc5 wx hSw
                  go_simp
                  try with_reducible rfl
                try simp only [Act.put, List.setIfInBounds_toArray, List.set_cons_zero, List.set_cons_succ]
                refine wpAnyH_take (i := 17) (oi := ({ dst := some 122, op := Go.Op.pick (Go.Operand.tmp 108) (Go.Operand.const (Go.Value.bool true)) (Go.Operand.tmp 121), type := 4, pos := "theorems.go:102", after := #[{ on := 3, ground := Go.Ground.data }, { on := 16, ground := Go.Ground.data }], guard := none } : Go.Oper)) (v := .bool false) rfl (by kernel_rfl) (by kernel_rfl) (by kernel_rfl) (fun _ _ _ h => h) (Or.inl ⟨by rfl, ?_⟩) (by assumption) ?_
                · intro wx hSw
                  try dsimp only at hSw
                  have u5 := hc5 wx hSw
                  go_simp
                  try with_reducible rfl
                try simp only [Act.put, List.setIfInBounds_toArray, List.set_cons_zero, List.set_cons_succ]
                refine wpAnyH_done (by kernel_rfl) ?_ _
                clear hc5
                have hb12 := bt hb11 hHeld
                go_wp2
                go_roundw
                case rel => exact ⟨j + 1, by omega, by first | rfl | simp, hb12⟩
                case measure => simp [intOf]; omega
              · obtain ⟨j', hjj⟩ : ∃ j', j = j' + 1 := ⟨j - 1, by omega⟩
                obtain ⟨q', hq'⟩ : ∃ q', G[j']? = some q' := ⟨G[j'], List.getElem?_eq_getElem (by omega)⟩
                have hlt' : q'.id < q.id := by
                  have := List.pairwise_iff_getElem.1 HID2.out.1 j' j (by omega) hlj (by omega)
                  rw [List.getElem?_eq_getElem (by omega)] at hq'
                  rw [List.getElem?_eq_getElem hlj] at hq
                  injection hq' with e1
                  injection hq with e2
                  rw [e1, e2] at this
                  exact this
                have z4 := later hb11 (hcl j' q' hq' 4 _ rfl)
                have hjp : (0 : Int) < (j : Int) := by omega
                have hjp2 : 0 < j := by omega
                have hjp3 : decide (0 < j) = true := decide_eq_true hjp2
                have hjp4 : decide ((0 : Int) < (j : Int)) = true := decide_eq_true hjp
                have hjm : IntKind.i64.wrap ((j : Int) - 1) = (j' : Int) := by rw [IntKind.wrap_i64]; omega
                have hj'0 : (0 : Int) ≤ (j' : Int) := by omega
                have HJJ : Hid (j = j' + 1) := hjj
                have hle : ¬ q.id ≤ q'.id := by omega
                have hj'1 : (j' : Int) < (G.length : Int) := by omega
                clear hrg hcl hq ht11 q11 hQ11 hb hq' hlt' hjj
                go_quiet (fail)
                go_wp2
                go_roundw
                case rel => exact ⟨j + 1, by omega, by first | rfl | simp, below_drewN hb11 _⟩
                case measure => simp [intOf]; omega
            · have hj1 : ¬ (j : Int) < (G.length : Int) := by omega
              have hcon2 := tick_any (HB8.out.later hb) 200 (by decide) (by decide) (by omega) (by omega) (by decide) (fun x hx => by cases hx) (fun x hx => by cases hx) List.Pairwise.nil (fun x hx => by cases hx) (by decide)
              go_wp2_with fail
              refine hcon2.mono ?_
              rintro e w12 ⟨v, rfl, hB12, hR12, ht12⟩
              have hb12 : Below w.heap.size w w12 := (bt hb8 hb).trans (ht12.below (by have := hb8.size; have := hb.size; omega) (fun k hk e => by omega))
              obtain ⟨vb, vd, hv⟩ := hR12.shape
              have hv0 : (lateL (([] : List Pile).filter (old 200 (1 + wm)))).length = 0 := rfl
              rw [hv0] at hv
              subst hv
              clear hcon2 hB12 hR12 ht12
              go_wp2
              go_ret
              exact ⟨rfl, hb12⟩
        · clear hxx hlt
          go_wp2_with fail
          refine hcon.mono ?_
          rintro e w8 ⟨v, rfl, hB8, hR8, ht8⟩
          clear hcon
          rw [ho.1] at hB8
          rw [ho.2] at hR8
          have hb8 : Below w.heap.size w w8 := hbW.trans (ht8.below hbW.size (fun k hk e => by omega))
          have hs8 := ht8.size
          clear ht8 hbW ho
          go_wp2_with fail
          refine (len_any hB8).mono ?_
          rintro e w9 ⟨rfl, rfl⟩
          obtain ⟨G, hG⟩ : ∃ G, G = lateL lp := ⟨_, rfl⟩
          rw [← hG] at hR8 hlla
          have HID2 : Hid (G.Pairwise (fun a b => a.id < b.id) ∧ ∀ q ∈ G, q.fr = 0) := by rw [hG]; exact HID.out
          clear HID hG
          obtain ⟨va, vc, hv⟩ := hR8.shape
          subst hv
          have HR8 : Hid (RW w9 wr.heap.size (.slice va G.length vc) G) := hR8
          have HB8 : Hid (BX w9 w6.heap.size (w2.heap.size + 1) w2.heap.size 64 (1 + wm) 100 tu []) := hB8
          have hGi : (G.length : Int) ≤ 64 := by omega
          clear hR8 hB8
          go_wp2
          go_loopw [100] (fun vi wq => ∃ (j : Nat), j ≤ G.length ∧ vi = .int .i64 (j : Int) ∧ Below w9.heap.size w9 wq) (fun vi _ => G.length - (intOf vi).toNat)
          case atStart => exact ⟨0, Nat.zero_le _, rfl, Below.refl _ _⟩
          case round =>
            obtain ⟨j, hj, rfl, hb⟩ := hrel
            obtain ⟨w9', hw9'⟩ : ∃ x, x = w9 := ⟨_, rfl⟩
            by_cases hlj : j < G.length
            · obtain ⟨q, hq⟩ : ∃ q, G[j]? = some q := ⟨G[j], List.getElem?_eq_getElem hlj⟩
              obtain ⟨lg, hvg, hcl⟩ : ∃ lg, va = some ⟨lg, 0, none⟩ ∧ ∀ k p, G[k]? = some p → ∀ s u, p.L[s]? = some u → w9.cell? ⟨lg, k * 10 + s, none⟩ = some u := by
                obtain ⟨lg, c', cur, hv, -⟩ := HR8.out.real (fun e => by rw [e] at hlj; exact absurd hlj (Nat.not_lt_zero _))
                injection hv with e1
                subst e1
                exact ⟨lg, rfl, fun k p hp s u hu => HR8.out.cells hp s u hu⟩
              subst hvg
              have hrg : wr.rangeAt lg (j * 10) [.int .i64 q.f, .int .i64 q.t, .int .i64 q.tl, .int .i64 q.pr, .int .i64 q.id, .int .i64 q.fr, .bool q.mo, .bool q.dn, .string q.op, .string q.da] := fun s u hu => later hb (hcl j q hq s u hu)
              have hqf : q.fr = 0 := HID2.out.2 q (List.mem_of_getElem? hq)
              have hfb : (q.fr != 0) = false := by simp [hqf]
              clear hqf
              have hj1 : (j : Int) < (G.length : Int) := by omega
              have hj3 : (0 : Int) ≤ (j : Int) := by omega
              go_upto_region 27 with (first
                | (refine wpList_load_mid rfl 32 _ rfl lg (j * 10) (by first | rfl | simp) _ _ hrg Try.underlying32 rfl (by kernel_rfl) ?_)
                | (refine wpList_store_at rfl 32 _ _ rfl _ wr.heap.size #[.int .i64 0, .int .i64 0, .int .i64 0, .int .i64 0, .int .i64 0, .int .i64 0, .bool false, .bool false, .string ⟨#[]⟩, .string ⟨#[]⟩] #[.int .i64 q.f, .int .i64 q.t, .int .i64 q.tl, .int .i64 q.pr, .int .i64 q.id, .int .i64 q.fr, .bool q.mo, .bool q.dn, .string q.op, .string q.da] rfl rfl (At.box wr #[.int .i64 0, .int .i64 0, .int .i64 0, .int .i64 0, .int .i64 0, .int .i64 0, .bool false, .bool false, .string ⟨#[]⟩, .string ⟨#[]⟩] 32) rfl (by kernel_rfl) (by simp [Value.oneCell']) ?_; intro w11 hQ11 ht11)
                | go_in)
              have q11 : Below wr.heap.size wr w11 := (bel1 wr (.cells #[.int .i64 0, .int .i64 0, .int .i64 0, .int .i64 0, .int .i64 0, .int .i64 0, .bool false, .bool false, .string ⟨#[]⟩, .string ⟨#[]⟩] 32)).trans (below_turn ht11 (Nat.le_refl _) (bel1 wr _).size)
              have hb11 := bt hb q11
              have y5 := (hQ11.2 5 _ rfl).1
              have y4 := (hQ11.2 4 _ rfl).1
              rcases Nat.eq_zero_or_pos j with hj0 | hj0
              · have hjn : ¬ (0 : Int) < (j : Int) := by omega
                have hjn2 : ¬ 0 < j := by omega
                have hjn3 : decide (0 < j) = false := decide_eq_false hjn2
                have hjn4 : decide ((0 : Int) < (j : Int)) = false := decide_eq_false hjn
                have hc5 : ∀ W, Below w11.heap.size w11 W → W.cell? ⟨wr.heap.size, 5, none⟩ = some (.int .i64 q.fr) := fun W hW => later hW y5
                clear hj0 hjn hjn2 y5 y4
                clear hrg hcl hq ht11 q11 hQ11 hb
                refine wp_region_held_drew (S := (fun W => Below w11.heap.size w11 W)) (by kernel_rfl) ?_ (fun hHeld => ?_)
                · first | exact (Below.refl _ _).drew | assumption
                refine wpAnyH_take (i := 0) (oi := ({ dst := some 105, op := Go.Op.fieldAddr 32 (Go.Operand.tmp 14) 5, type := 0, pos := "theorems.go:102", after := #[], guard := none } : Go.Oper)) (v := .pointer (some ⟨wr.heap.size, 5, none⟩)) rfl (by kernel_rfl) (by kernel_rfl) (by kernel_rfl) (fun _ _ _ h => h) (Or.inl ⟨by rfl, ?_⟩) (by assumption) ?_
                · intro wx hSw
                  try dsimp only at hSw
                  have u5 := hc5 wx hSw
                  go_simp
                  try with_reducible rfl
                try simp only [Act.put, List.setIfInBounds_toArray, List.set_cons_zero, List.set_cons_succ]
                refine wpAnyH_take (i := 1) (oi := ({ dst := some 106, op := Go.Op.load 3 (Go.Operand.tmp 105), type := 3, pos := "theorems.go:102", after := #[{ on := 0, ground := Go.Ground.data }], guard := none } : Go.Oper)) (v := .int .i64 q.fr) rfl (by kernel_rfl) (by kernel_rfl) (by kernel_rfl) (fun _ _ _ h => h) (Or.inl ⟨by rfl, ?_⟩) (by assumption) ?_
                · intro wx hSw
                  try dsimp only at hSw
                  have u5 := hc5 wx hSw
                  go_simp
                  try with_reducible rfl
                try simp only [Act.put, List.setIfInBounds_toArray, List.set_cons_zero, List.set_cons_succ]
                refine wpAnyH_take (i := 2) (oi := ({ dst := some 107, op := Go.Op.binOp Go.BinOp.neq 3 (Go.Operand.tmp 106) (Go.Operand.const (Go.Value.int Go.IntKind.i64 0)) 3, type := 4, pos := "theorems.go:102", after := #[{ on := 1, ground := Go.Ground.data }], guard := none } : Go.Oper)) (v := .bool false) rfl (by kernel_rfl) (by kernel_rfl) (by kernel_rfl) (fun _ _ _ h => h) (Or.inl ⟨by rfl, ?_⟩) (by assumption) ?_
                · intro wx hSw
                  try dsimp only at hSw
                  have u5 := hc5 wx hSw
                  go_simp
                  try with_reducible rfl
                try simp only [Act.put, List.setIfInBounds_toArray, List.set_cons_zero, List.set_cons_succ]
                refine wpAnyH_take (i := 3) (oi := ({ dst := some 108, op := Go.Op.move (Go.Operand.tmp 107), type := 4, pos := "theorems.go:102", after := #[{ on := 2, ground := Go.Ground.data }], guard := none } : Go.Oper)) (v := .bool false) rfl (by kernel_rfl) (by kernel_rfl) (by kernel_rfl) (fun _ _ _ h => h) (Or.inl ⟨by rfl, ?_⟩) (by assumption) ?_
                · intro wx hSw
                  try dsimp only at hSw
                  have u5 := hc5 wx hSw
                  go_simp
                  try with_reducible rfl
                try simp only [Act.put, List.setIfInBounds_toArray, List.set_cons_zero, List.set_cons_succ]
                refine wpAnyH_take (i := 4) (oi := ({ dst := some 109, op := Go.Op.move (Go.Operand.tmp 13), type := 3, pos := "theorems.go:102", after := #[{ on := 3, ground := Go.Ground.guard }], guard := some (3, false) } : Go.Oper)) (v := .int .i64 (j : Int)) rfl (by kernel_rfl) (by kernel_rfl) (by kernel_rfl) (fun _ _ _ h => h) (Or.inl ⟨by rfl, ?_⟩) (by assumption) ?_
                · intro wx hSw
                  try dsimp only at hSw
                  have u5 := hc5 wx hSw
                  go_simp
                  try with_reducible rfl
                try simp only [Act.put, List.setIfInBounds_toArray, List.set_cons_zero, List.set_cons_succ]
                refine wpAnyH_take (i := 5) (oi := ({ dst := some 110, op := Go.Op.binOp Go.BinOp.gtr 3 (Go.Operand.tmp 109) (Go.Operand.const (Go.Value.int Go.IntKind.i64 0)) 3, type := 4, pos := "theorems.go:102", after := #[{ on := 4, ground := Go.Ground.data }, { on := 3, ground := Go.Ground.guard }], guard := some (3, false) } : Go.Oper)) (v := .bool false) rfl (by kernel_rfl) (by kernel_rfl) (by kernel_rfl) (fun _ _ _ h => h) (Or.inl ⟨by rfl, ?_⟩) (by assumption) ?_
                · intro wx hSw
                  try dsimp only at hSw
                  have u5 := hc5 wx hSw
                  go_simp
                  try with_reducible rfl
                try simp only [Act.put, List.setIfInBounds_toArray, List.set_cons_zero, List.set_cons_succ]
                refine wpAnyH_take (i := 6) (oi := ({ dst := some 111, op := Go.Op.move (Go.Operand.tmp 110), type := 4, pos := "theorems.go:102", after := #[{ on := 5, ground := Go.Ground.data }, { on := 3, ground := Go.Ground.chain }, { on := 3, ground := Go.Ground.guard }], guard := some (3, false) } : Go.Oper)) (v := .bool false) rfl (by kernel_rfl) (by kernel_rfl) (by kernel_rfl) (fun _ _ _ h => h) (Or.inl ⟨by rfl, ?_⟩) (by assumption) ?_
                · intro wx hSw
                  try dsimp only at hSw
                  have u5 := hc5 wx hSw
                  go_simp
                  try with_reducible rfl
                try simp only [Act.put, List.setIfInBounds_toArray, List.set_cons_zero, List.set_cons_succ]
                refine wpAnyH_take (i := 7) (oi := ({ dst := some 112, op := Go.Op.fieldAddr 32 (Go.Operand.tmp 14) 4, type := 0, pos := "theorems.go:102", after := #[{ on := 6, ground := Go.Ground.guard }], guard := some (6, true) } : Go.Oper)) (v := undef) rfl (by kernel_rfl) (by kernel_rfl) (by kernel_rfl) (fun _ _ _ h => h) (Or.inr ⟨by rfl, rfl⟩) (by assumption) ?_
                try simp only [Act.put, List.setIfInBounds_toArray, List.set_cons_zero, List.set_cons_succ]
                refine wpAnyH_take (i := 8) (oi := ({ dst := some 113, op := Go.Op.load 3 (Go.Operand.tmp 112), type := 3, pos := "theorems.go:102", after := #[{ on := 7, ground := Go.Ground.data }, { on := 6, ground := Go.Ground.guard }], guard := some (6, true) } : Go.Oper)) (v := undef) rfl (by kernel_rfl) (by kernel_rfl) (by kernel_rfl) (fun _ _ _ h => h) (Or.inr ⟨by rfl, rfl⟩) (by assumption) ?_
                try simp only [Act.put, List.setIfInBounds_toArray, List.set_cons_zero, List.set_cons_succ]
                refine wpAnyH_take (i := 9) (oi := ({ dst := some 114, op := Go.Op.move (Go.Operand.tmp 12), type := 36, pos := "theorems.go:102", after := #[{ on := 6, ground := Go.Ground.guard }], guard := some (6, true) } : Go.Oper)) (v := undef) rfl (by kernel_rfl) (by kernel_rfl) (by kernel_rfl) (fun _ _ _ h => h) (Or.inr ⟨by rfl, rfl⟩) (by assumption) ?_
                try simp only [Act.put, List.setIfInBounds_toArray, List.set_cons_zero, List.set_cons_succ]
                refine wpAnyH_take (i := 10) (oi := ({ dst := some 115, op := Go.Op.move (Go.Operand.tmp 13), type := 3, pos := "theorems.go:102", after := #[{ on := 6, ground := Go.Ground.guard }], guard := some (6, true) } : Go.Oper)) (v := undef) rfl (by kernel_rfl) (by kernel_rfl) (by kernel_rfl) (fun _ _ _ h => h) (Or.inr ⟨by rfl, rfl⟩) (by assumption) ?_
                try simp only [Act.put, List.setIfInBounds_toArray, List.set_cons_zero, List.set_cons_succ]
                refine wpAnyH_take (i := 11) (oi := ({ dst := some 116, op := Go.Op.binOp Go.BinOp.sub 3 (Go.Operand.tmp 115) (Go.Operand.const (Go.Value.int Go.IntKind.i64 1)) 3, type := 3, pos := "theorems.go:102", after := #[{ on := 10, ground := Go.Ground.data }, { on := 6, ground := Go.Ground.guard }], guard := some (6, true) } : Go.Oper)) (v := undef) rfl (by kernel_rfl) (by kernel_rfl) (by kernel_rfl) (fun _ _ _ h => h) (Or.inr ⟨by rfl, rfl⟩) (by assumption) ?_
                try simp only [Act.put, List.setIfInBounds_toArray, List.set_cons_zero, List.set_cons_succ]
                refine wpAnyH_take (i := 12) (oi := ({ dst := some 117, op := Go.Op.indexAddr 36 (Go.Operand.tmp 114) (Go.Operand.tmp 116), type := 0, pos := "theorems.go:102", after := #[{ on := 9, ground := Go.Ground.data }, { on := 11, ground := Go.Ground.data }, { on := 6, ground := Go.Ground.guard }], guard := some (6, true) } : Go.Oper)) (v := undef) rfl (by kernel_rfl) (by kernel_rfl) (by kernel_rfl) (fun _ _ _ h => h) (Or.inr ⟨by rfl, rfl⟩) (by assumption) ?_
                try simp only [Act.put, List.setIfInBounds_toArray, List.set_cons_zero, List.set_cons_succ]
                refine wpAnyH_take (i := 13) (oi := ({ dst := some 118, op := Go.Op.fieldAddr 32 (Go.Operand.tmp 117) 4, type := 0, pos := "theorems.go:102", after := #[{ on := 12, ground := Go.Ground.data }, { on := 6, ground := Go.Ground.guard }], guard := some (6, true) } : Go.Oper)) (v := undef) rfl (by kernel_rfl) (by kernel_rfl) (by kernel_rfl) (fun _ _ _ h => h) (Or.inr ⟨by rfl, rfl⟩) (by assumption) ?_
                try simp only [Act.put, List.setIfInBounds_toArray, List.set_cons_zero, List.set_cons_succ]
                refine wpAnyH_take (i := 14) (oi := ({ dst := some 119, op := Go.Op.load 3 (Go.Operand.tmp 118), type := 3, pos := "theorems.go:102", after := #[{ on := 13, ground := Go.Ground.data }, { on := 6, ground := Go.Ground.guard }], guard := some (6, true) } : Go.Oper)) (v := undef) rfl (by kernel_rfl) (by kernel_rfl) (by kernel_rfl) (fun _ _ _ h => h) (Or.inr ⟨by rfl, rfl⟩) (by assumption) ?_
                try simp only [Act.put, List.setIfInBounds_toArray, List.set_cons_zero, List.set_cons_succ]
                refine wpAnyH_take (i := 15) (oi := ({ dst := some 120, op := Go.Op.binOp Go.BinOp.leq 3 (Go.Operand.tmp 113) (Go.Operand.tmp 119) 3, type := 4, pos := "theorems.go:102", after := #[{ on := 8, ground := Go.Ground.data }, { on := 14, ground := Go.Ground.data }, { on := 6, ground := Go.Ground.guard }], guard := some (6, true) } : Go.Oper)) (v := undef) rfl (by kernel_rfl) (by kernel_rfl) (by kernel_rfl) (fun _ _ _ h => h) (Or.inr ⟨by rfl, rfl⟩) (by assumption) ?_
                try simp only [Act.put, List.setIfInBounds_toArray, List.set_cons_zero, List.set_cons_succ]
                refine wpAnyH_take (i := 16) (oi := ({ dst := some 121, op := Go.Op.pick (Go.Operand.tmp 111) (Go.Operand.tmp 120) (Go.Operand.const (Go.Value.bool false)), type := 4, pos := "theorems.go:102", after := #[{ on := 6, ground := Go.Ground.data }, { on := 15, ground := Go.Ground.data }, { on := 3, ground := Go.Ground.guard }], guard := some (3, false) } : Go.Oper)) (v := .bool false) rfl (by kernel_rfl) (by kernel_rfl) (by kernel_rfl) (fun _ _ _ h => h) (Or.inl ⟨by rfl, ?_⟩) (by assumption) ?_
                · intro wx hSw
                  try dsimp only at hSw
                  have u5 := hc5 wx hSw
                  go_simp
                  try with_reducible rfl
                try simp only [Act.put, List.setIfInBounds_toArray, List.set_cons_zero, List.set_cons_succ]
                refine wpAnyH_take (i := 17) (oi := ({ dst := some 122, op := Go.Op.pick (Go.Operand.tmp 108) (Go.Operand.const (Go.Value.bool true)) (Go.Operand.tmp 121), type := 4, pos := "theorems.go:102", after := #[{ on := 3, ground := Go.Ground.data }, { on := 16, ground := Go.Ground.data }], guard := none } : Go.Oper)) (v := .bool false) rfl (by kernel_rfl) (by kernel_rfl) (by kernel_rfl) (fun _ _ _ h => h) (Or.inl ⟨by rfl, ?_⟩) (by assumption) ?_
                · intro wx hSw
                  try dsimp only at hSw
                  have u5 := hc5 wx hSw
                  go_simp
                  try with_reducible rfl
                try simp only [Act.put, List.setIfInBounds_toArray, List.set_cons_zero, List.set_cons_succ]
                refine wpAnyH_done (by kernel_rfl) ?_ _
                clear hc5
                have hb12 := bt hb11 hHeld
                go_wp2
                go_roundw
                case rel => exact ⟨j + 1, by omega, by first | rfl | simp, hb12⟩
                case measure => simp [intOf]; omega
              · obtain ⟨j', hjj⟩ : ∃ j', j = j' + 1 := ⟨j - 1, by omega⟩
                obtain ⟨q', hq'⟩ : ∃ q', G[j']? = some q' := ⟨G[j'], List.getElem?_eq_getElem (by omega)⟩
                have hlt' : q'.id < q.id := by
                  have := List.pairwise_iff_getElem.1 HID2.out.1 j' j (by omega) hlj (by omega)
                  rw [List.getElem?_eq_getElem (by omega)] at hq'
                  rw [List.getElem?_eq_getElem hlj] at hq
                  injection hq' with e1
                  injection hq with e2
                  rw [e1, e2] at this
                  exact this
                have z4 := later hb11 (hcl j' q' hq' 4 _ rfl)
                have hjp : (0 : Int) < (j : Int) := by omega
                have hjp2 : 0 < j := by omega
                have hjp3 : decide (0 < j) = true := decide_eq_true hjp2
                have hjp4 : decide ((0 : Int) < (j : Int)) = true := decide_eq_true hjp
                have hjm : IntKind.i64.wrap ((j : Int) - 1) = (j' : Int) := by rw [IntKind.wrap_i64]; omega
                have hj'0 : (0 : Int) ≤ (j' : Int) := by omega
                have HJJ : Hid (j = j' + 1) := hjj
                have hle : ¬ q.id ≤ q'.id := by omega
                have hj'1 : (j' : Int) < (G.length : Int) := by omega
                clear hrg hcl hq ht11 q11 hQ11 hb hq' hlt' hjj
                go_quiet (fail)
                go_wp2
                go_roundw
                case rel => exact ⟨j + 1, by omega, by first | rfl | simp, below_drewN hb11 _⟩
                case measure => simp [intOf]; omega
            · have hj1 : ¬ (j : Int) < (G.length : Int) := by omega
              have hcon2 := tick_any (HB8.out.later hb) 200 (by decide) (by decide) (by omega) (by omega) (by decide) (fun x hx => by cases hx) (fun x hx => by cases hx) List.Pairwise.nil (fun x hx => by cases hx) (by decide)
              go_wp2_with fail
              refine hcon2.mono ?_
              rintro e w12 ⟨v, rfl, hB12, hR12, ht12⟩
              have hb12 : Below w.heap.size w w12 := (bt hb8 hb).trans (ht12.below (by have := hb8.size; have := hb.size; omega) (fun k hk e => by omega))
              obtain ⟨vb, vd, hv⟩ := hR12.shape
              have hv0 : (lateL (([] : List Pile).filter (old 200 (1 + wm)))).length = 0 := rfl
              rw [hv0] at hv
              subst hv
              clear hcon2 hB12 hR12 ht12
              go_wp2
              go_ret
              exact ⟨rfl, hb12⟩
end Go.Proofs.Ytcjhniehbafhpaa
