/- the texts Ics, Ice, Icp, in part, merged by program -/
import Derived.Test.YtkpdmgoldngdaaaGreatDoorRows
import Derived.WalkKit
import Derived.WalkSpells
import Derived.Deep.RegionHeld3
import Derived.Deep.QuietTactic
import Derived.BigQuiet
import Derived.WalkSmall
import Derived.Deep.RegionWith
import Derived.LoopN
import Derived.Test.YtkpdmgoldngdaaaGreatDoorMA01
import Derived.Test.YtkpdmgoldngdaaaGreatDoorMA03
import Derived.Test.YtkpdmgoldngdaaaGreatDoorMB01
import Derived.Test.YtkpdmgoldngdaaaGreatDoorMD01
import Derived.Test.YtkpdmgoldngdaaaGreatDoorME01
import Derived.Test.YtkpdmgoldngdaaaGreatDoorMG01
import Derived.Test.YtkpdmgoldngdaaaGreatDoorMG02
import Derived.Test.YtkpdmgoldngdaaaGreatDoorMH01
import Derived.Test.YtkpdmgoldngdaaaGreatDoorMO01
import Derived.Test.YtkpdmgoldngdaaaGreatDoorMO03
namespace Go.Proofs.YtkpdmgoldngdaaaGreatDoor.Ip
open Go.RowKit
set_option maxRecDepth 100000

def mayJ (ty co x y : Int) (z : Nat) : Prop := (0 ≤ ty ∧ ty ≤ 255) ∧ (0 ≤ co ∧ co ≤ 255) ∧ (0 ≤ x ∧ x ≤ 65535) ∧ (0 ≤ y ∧ y ≤ 65535) ∧ z ≤ 65500
instance (ty co x y : Int) (z : Nat) : Decidable (mayJ ty co x y z) := by unfold mayJ; infer_instance
def mayI (ty co x y : Int) (z : Nat) : Bool := decide (mayJ ty co x y z)
theorem mayI_t {ty co x y : Int} {z : Nat} (h : mayJ ty co x y z) : mayI ty co x y z = true := decide_eq_true h
theorem mayI_f {ty co x y : Int} {z : Nat} (h : ¬ mayJ ty co x y z) : mayI ty co x y z = false := decide_eq_false h
theorem mayI_q {ty co x y : Int} {z : Nat} (h : mayI ty co x y z = true) : mayJ ty co x y z := of_decide_eq_true h
def codeI (b : Bool) : Int := if b = true then 0 else 60
theorem ifits_any (n m : Int) (w : World) : Calls Tryz.prog 98 #[.int .i64 n, .int .i64 m] w fun e w' => e = .returned (.bool (fitB n m)) ∧ w' = w := by
  by_cases h : 0 ≤ n
  · by_cases h2 : n ≤ m
    · rw [fitB_t ⟨h, h2⟩]
      go_enter Tryz.func98, Tryz.ntmps98
      go_wp2
      go_ret
      exact ⟨rfl, rfl⟩
    · rw [fitB_f fun e => h2 e.2]
      go_enter Tryz.func98, Tryz.ntmps98
      go_wp2
      go_ret
      exact ⟨rfl, rfl⟩
  · rw [fitB_f fun e => h e.1]
    go_enter Tryz.func98, Tryz.ntmps98
    go_wp2
    go_ret
    exact ⟨rfl, rfl⟩
theorem ifits_t {n m : Int} (h : fitB n m = true) (w : World) : Calls Tryz.prog 98 #[.int .i64 n, .int .i64 m] w fun e w' => e = .returned (.bool true) ∧ w' = w := by have := ifits_any n m w; rw [h] at this; exact this
theorem ifits_f {n m : Int} (h : fitB n m = false) (w : World) : Calls Tryz.prog 98 #[.int .i64 n, .int .i64 m] w fun e w' => e = .returned (.bool false) ∧ w' = w := by have := ifits_any n m w; rw [h] at this; exact this

theorem mayI_ways (ty co x y : Int) (z : Nat) :
    (mayI ty co x y z = false ∧ fitB ty 255 = false) ∨
    (mayI ty co x y z = false ∧ fitB ty 255 = true ∧ fitB co 255 = false) ∨
    (mayI ty co x y z = false ∧ fitB ty 255 = true ∧ fitB co 255 = true ∧ fitB x 65535 = false) ∨
    (mayI ty co x y z = false ∧ fitB ty 255 = true ∧ fitB co 255 = true ∧ fitB x 65535 = true ∧ fitB y 65535 = false) ∨
    (mayI ty co x y z = false ∧ fitB ty 255 = true ∧ fitB co 255 = true ∧ fitB x 65535 = true ∧ fitB y 65535 = true ∧ 65500 < (z : Int)) ∨
    (mayI ty co x y z = true ∧ fitB ty 255 = true ∧ fitB co 255 = true ∧ fitB x 65535 = true ∧ fitB y 65535 = true ∧ (z : Int) ≤ 65500) := by
  by_cases h1 : 0 ≤ ty ∧ ty ≤ 255
  · by_cases h2 : 0 ≤ co ∧ co ≤ 255
    · by_cases h3 : 0 ≤ x ∧ x ≤ 65535
      · by_cases h4 : 0 ≤ y ∧ y ≤ 65535
        · by_cases h5 : (z : Int) ≤ 65500
          · exact .inr (.inr (.inr (.inr (.inr ⟨mayI_t ⟨h1, h2, h3, h4, by omega⟩, fitB_t h1, fitB_t h2, fitB_t h3, fitB_t h4, h5⟩))))
          · exact .inr (.inr (.inr (.inr (.inl ⟨mayI_f fun h => h5 (by have := h.2.2.2.2; omega), fitB_t h1, fitB_t h2, fitB_t h3, fitB_t h4, by omega⟩))))
        · exact .inr (.inr (.inr (.inl ⟨mayI_f fun h => h4 h.2.2.2.1, fitB_t h1, fitB_t h2, fitB_t h3, fitB_f h4⟩)))
      · exact .inr (.inr (.inl ⟨mayI_f fun h => h3 h.2.2.1, fitB_t h1, fitB_t h2, fitB_f h3⟩))
    · exact .inr (.inl ⟨mayI_f fun h => h2 h.2.1, fitB_t h1, fitB_f h2⟩)
  · exact .inl ⟨mayI_f fun h => h1 h.1, fitB_f h1⟩

set_option maxRecDepth 100000 in
set_option maxHeartbeats 1000000 in
theorem look_m (ty co x y : Int) (da : ByteArray) (w : World) (hd : da.size ≤ 1125899906842624) :
    Calls Tryz.prog 53 #[.int .i64 1, .agg #[.int .i64 ty, .int .i64 co, .int .i64 x, .int .i64 y, .string da]] w fun e w' => e = .returned (.int .i64 (codeI (mayI ty co x y da.size))) ∧ Below w.heap.size w w' := by
  have hd' : (da.size : Int) ≤ 1125899906842624 := by omega
  rcases mayI_ways ty co x y da.size with ⟨hm, a1⟩ | ⟨hm, a1, a2⟩ | ⟨hm, a1, a2, a3⟩ | ⟨hm, a1, a2, a3, a4⟩ | ⟨hm, a1, a2, a3, a4, a5⟩ | ⟨hm, a1, a2, a3, a4, a5⟩
  all_goals
    rw [hm]; clear hm
    go_enter Tryz.func53, Tryz.ntmps53
    go_wp2_with (first | (go_at_call 98; refine (ifits_t (by assumption) _).mono ?_; rintro e w1 ⟨rfl, rfl⟩) | (go_at_call 98; refine (ifits_f (by assumption) _).mono ?_; rintro e w1 ⟨rfl, rfl⟩))
    go_ret
    exact ⟨rfl, bel1 _ _⟩
theorem lookm_t {ty co x y : Int} {da : ByteArray} (h : mayI ty co x y da.size = true) (w : World) (hd : da.size ≤ 1125899906842624) : Calls Tryz.prog 53 #[.int .i64 1, .agg #[.int .i64 ty, .int .i64 co, .int .i64 x, .int .i64 y, .string da]] w fun e w' => e = .returned (.int .i64 0) ∧ Below w.heap.size w w' := by
  have := look_m ty co x y da w hd; rw [h] at this; exact this
theorem lookm_f {ty co x y : Int} {da : ByteArray} (h : mayI ty co x y da.size = false) (w : World) (hd : da.size ≤ 1125899906842624) : Calls Tryz.prog 53 #[.int .i64 1, .agg #[.int .i64 ty, .int .i64 co, .int .i64 x, .int .i64 y, .string da]] w fun e w' => e = .returned (.int .i64 60) ∧ Below w.heap.size w w' := by
  have := look_m ty co x y da w hd; rw [h] at this; exact this
end Go.Proofs.YtkpdmgoldngdaaaGreatDoor.Ip

namespace Go.Proofs.YtkpdmgoldngdaaaGreatDoor.Ip
open Go.RowKit
set_option maxRecDepth 100000

theorem keepI {w W x : World} {a0 a1 a2 a3 a4 : Addr} {v0 v1 v2 v3 v4 : Value} (hb : Below W.heap.size W x) (h : Below w.heap.size w W ∧ W.cell? a0 = some v0 ∧ W.cell? a1 = some v1 ∧ W.cell? a2 = some v2 ∧ W.cell? a3 = some v3 ∧ W.cell? a4 = some v4) :
    Below w.heap.size w x ∧ x.cell? a0 = some v0 ∧ x.cell? a1 = some v1 ∧ x.cell? a2 = some v2 ∧ x.cell? a3 = some v3 ∧ x.cell? a4 = some v4 :=
  ⟨bt h.1 hb, later hb h.2.1, later hb h.2.2.1, later hb h.2.2.2.1, later hb h.2.2.2.2.1, later hb h.2.2.2.2.2⟩
def headI (ty co x y : Int) (da : ByteArray) : ByteArray := txt ty 1 ++ txt co 1 ++ txt 0 2 ++ txt x 2 ++ txt y 2 ++ da
def encI (ty co x y : Int) (da : ByteArray) : ByteArray := sealS (headI ty co x y da) 2
theorem headI_size (ty co x y : Int) (da : ByteArray) : (headI ty co x y da).size = 8 + da.size := by
  unfold headI
  simp only [ByteArray.size_append, txt_size]
theorem encI_size (ty co x y : Int) (da : ByteArray) : (encI ty co x y da).size = 8 + da.size := by
  unfold encI
  rw [sealS_size _ _ (by decide) (by rw [headI_size]; omega), headI_size]
theorem iput_c (n k : Int) (w : World) : Calls Tryz.prog 54 #[.int .i64 n, .int .i64 k] w fun e w' => e = .returned (.string (putV n k)) ∧ Below w.heap.size w w' := by
  go_enter Tryz.func54, Tryz.ntmps54
  go_wp2_with fail
  refine (pput_any n k _).mono ?_
  rintro e w1 ⟨rfl, hb⟩
  go_wp2
  go_ret
  exact ⟨rfl, hb⟩
theorem iputV_le (n k : Int) : (putV n k).size ≤ 6 := by
  unfold putV
  split
  · rename_i h
    have := of_decide_eq_true h
    rw [txt_size]; omega
  · exact Nat.zero_le _
theorem iputV_is (n k : Int) (j : Nat) (hk : k = j) (hj : 1 ≤ j ∧ j ≤ 6) (h0 : 0 ≤ n) (h1 : n < 2 ^ (8 * j)) : putV n k = txt n j := by
  subst hk
  unfold putV
  rw [putB_t ⟨by omega, by omega, h0, by simpa using h1⟩, if_pos rfl]
  rfl

theorem headI_is (ty co x y : Int) (da : ByteArray) (h : mayI ty co x y da.size = true) : (putV ty 1) ++ (putV co 1) ++ (putV 0 2) ++ (putV x 2) ++ (putV y 2) ++ da = headI ty co x y da := by
  obtain ⟨⟨t0, t1⟩, ⟨c0, c1⟩, ⟨x0, x1⟩, ⟨y0, y1⟩, hz⟩ := mayI_q h
  unfold headI
  rw [iputV_is ty 1 1 rfl (by decide) t0 (by simp; omega), iputV_is co 1 1 rfl (by decide) c0 (by simp; omega), iputV_is 0 2 2 rfl (by decide) (by omega) (by decide), iputV_is x 2 2 rfl (by decide) x0 (by simp; omega), iputV_is y 2 2 rfl (by decide) y0 (by simp; omega)]
theorem sealI_is (ty co x y : Int) (da : ByteArray) (h : mayI ty co x y da.size = true) : sealV ((putV ty 1) ++ (putV co 1) ++ (putV 0 2) ++ (putV x 2) ++ (putV y 2) ++ da) 2 = encI ty co x y da ∧ sealC ((putV ty 1) ++ (putV co 1) ++ (putV 0 2) ++ (putV x 2) ++ (putV y 2) ++ da) 2 = 0 := by
  rw [headI_is ty co x y da h]
  obtain ⟨-, -, -, -, hz⟩ := mayI_q h
  have hs := headI_size ty co x y da
  unfold sealV sealC encI
  rw [place_t (by rw [hs]; omega), if_pos rfl, if_pos rfl, if_pos (by omega), if_pos (by omega)]
  exact ⟨rfl, rfl⟩

set_option maxRecDepth 100000 in
set_option maxHeartbeats 4000000 in
theorem ienc_y {ty co x y : Int} {da : ByteArray} (h : mayI ty co x y da.size = true) (w : World) :
    Calls Tryz.prog 22 #[.agg #[.int .i64 ty, .int .i64 co, .int .i64 x, .int .i64 y, .string da]] w fun e w' => e = .returned (.tuple #[.string (encI ty co x y da), .int .i64 0]) ∧ Below w.heap.size w w' := by
  have hA := At.box w #[.int .i64 ty, .int .i64 co, .int .i64 x, .int .i64 y, .string da] 29
  have hl := bel1 w (.cells #[.int .i64 ty, .int .i64 co, .int .i64 x, .int .i64 y, .string da] 29)
  obtain ⟨-, -, -, -, hz⟩ := mayI_q h
  have hd : da.size ≤ 1125899906842624 := by omega
  have hsi := sealI_is ty co x y da h
  have y1 := iputV_le ty 1
  have y2 := iputV_le co 1
  have y3 := iputV_le 0 2
  have y4 := iputV_le x 2
  have y5 := iputV_le y 2
  have r1 : ∀ W, (Op.stringOp .add ((putV ty 1)) (putV co 1)).run Tryz.prog W = .ok (.string ((putV ty 1) ++ (putV co 1))) W := fun W => run_string_add_sum W _ _ (by omega)
  have r2 : ∀ W, (Op.stringOp .add ((putV ty 1) ++ (putV co 1)) (putV 0 2)).run Tryz.prog W = .ok (.string ((putV ty 1) ++ (putV co 1) ++ (putV 0 2))) W := fun W => run_string_add_sum W _ _ (by simp only [ByteArray.size_append]; omega)
  have r3 : ∀ W, (Op.stringOp .add ((putV ty 1) ++ (putV co 1) ++ (putV 0 2)) (putV x 2)).run Tryz.prog W = .ok (.string ((putV ty 1) ++ (putV co 1) ++ (putV 0 2) ++ (putV x 2))) W := fun W => run_string_add_sum W _ _ (by simp only [ByteArray.size_append]; omega)
  have r4 : ∀ W, (Op.stringOp .add ((putV ty 1) ++ (putV co 1) ++ (putV 0 2) ++ (putV x 2)) (putV y 2)).run Tryz.prog W = .ok (.string ((putV ty 1) ++ (putV co 1) ++ (putV 0 2) ++ (putV x 2) ++ (putV y 2))) W := fun W => run_string_add_sum W _ _ (by simp only [ByteArray.size_append]; omega)
  have r5 : ∀ W, (Op.stringOp .add ((putV ty 1) ++ (putV co 1) ++ (putV 0 2) ++ (putV x 2) ++ (putV y 2)) da).run Tryz.prog W = .ok (.string ((putV ty 1) ++ (putV co 1) ++ (putV 0 2) ++ (putV x 2) ++ (putV y 2) ++ da)) W := fun W => run_string_add_sum W _ _ (by simp only [ByteArray.size_append]; omega)
  have hzz : ((putV ty 1) ++ (putV co 1) ++ (putV 0 2) ++ (putV x 2) ++ (putV y 2) ++ da).size ≤ maxLen := by simp only [ByteArray.size_append]; unfold maxLen; omega
  have hse := fun W => seal_any ((putV ty 1) ++ (putV co 1) ++ (putV 0 2) ++ (putV x 2) ++ (putV y 2) ++ da) 2 W hzz
  rw [hsi.1, hsi.2] at hse
  have HSE : Hid (∀ W, Calls Tryz.prog 49 #[.string ((putV ty 1) ++ (putV co 1) ++ (putV 0 2) ++ (putV x 2) ++ (putV y 2) ++ da), .int .i64 2] W fun e w' => e = .returned (.tuple #[.string (encI ty co x y da), .int .i64 0]) ∧ Below W.heap.size W w') := hse
  clear hse hzz y1 y2 y3 y4 y5 hsi hz
  go_enter Tryz.func22, Tryz.ntmps22
  go_wp2_with fail
  refine (lookm_t h _ hd).mono ?_
  rintro e w1 ⟨rfl, hb⟩
  have hl := bt hl hb
  obtain ⟨hx, -, -⟩ := (hA.later hb).five
  have hx5 := And.intro hl hx
  clear hA hb hl hx
  go_wp2
  go_region_held3 (fun W => Below w.heap.size w W ∧ W.cell? ⟨w.heap.size, 0, none⟩ = some (.int .i64 ty) ∧ W.cell? ⟨w.heap.size, 1, none⟩ = some (.int .i64 co) ∧ W.cell? ⟨w.heap.size, 2, none⟩ = some (.int .i64 x) ∧ W.cell? ⟨w.heap.size, 3, none⟩ = some (.int .i64 y) ∧ W.cell? ⟨w.heap.size, 4, none⟩ = some (.string da)) (first | exact ⟨hx5.1.drew, hx5.2⟩ | (refine keepI hb ?_; assumption)) (first | (go_at_call 54; refine (iput_c _ _ _).mono ?_; rintro e w' ⟨rfl, hb⟩))
  all_goals
    rename_i hq
    go_wp2_with fail
    refine (HSE.out _).mono ?_
    rintro e w2 ⟨rfl, hb⟩
    go_wp2
    go_ret2
    exact ⟨rfl, bt hq.1 hb⟩
theorem ienc_n {ty co x y : Int} {da : ByteArray} (h : mayI ty co x y da.size = false) (w : World) (hd : da.size ≤ 1125899906842624) :
    Calls Tryz.prog 22 #[.agg #[.int .i64 ty, .int .i64 co, .int .i64 x, .int .i64 y, .string da]] w fun e w' => e = .returned (.tuple #[.string ⟨#[]⟩, .int .i64 60]) ∧ Below w.heap.size w w' := by
  have hl := bel1 w (.cells #[.int .i64 ty, .int .i64 co, .int .i64 x, .int .i64 y, .string da] 29)
  go_enter Tryz.func22, Tryz.ntmps22
  go_wp2_with fail
  refine (lookm_f h _ hd).mono ?_
  rintro e w1 ⟨rfl, hb⟩
  have hl := bt hl hb
  go_wp2
  go_ret2
  exact ⟨rfl, hl⟩
end Go.Proofs.YtkpdmgoldngdaaaGreatDoor.Ip

namespace Go.Proofs.YtkpdmgoldngdaaaGreatDoor.Ip
open Go.RowKit
set_option maxRecDepth 100000

theorem app4 (a b c d e f : ByteArray) : a ++ b ++ c ++ d ++ e ++ f = (a ++ b) ++ c ++ (d ++ e ++ f) := by simp only [ByteArray.append_assoc]
theorem encI_is (ty co x y : Int) (da : ByteArray) : ∃ c : Int, (0 ≤ c ∧ c ≤ 65535) ∧ encI ty co x y da = (txt ty 1 ++ txt co 1) ++ txt c 2 ++ (txt x 2 ++ txt y 2 ++ da) := by
  have h0 : headI ty co x y da = (txt ty 1 ++ txt co 1) ++ txt 0 2 ++ (txt x 2 ++ txt y 2 ++ da) := app4 _ _ _ _ _ _
  have hA : headS (headI ty co x y da) 2 = txt ty 1 ++ txt co 1 := by
    unfold headS
    rw [h0]
    have := mid_head (txt ty 1 ++ txt co 1) (txt 0 2) (txt x 2 ++ txt y 2 ++ da)
    rw [ByteArray.size_append, txt_size, txt_size] at this
    exact this
  have hB : tailS (headI ty co x y da) 2 = txt x 2 ++ txt y 2 ++ da := by
    unfold tailS
    rw [h0]
    exact mid_tail (txt ty 1 ++ txt co 1) (txt 0 2) (txt x 2 ++ txt y 2 ++ da) _ (by rw [ByteArray.size_append, txt_size, txt_size, txt_size]; rfl)
  refine ⟨missV (totS [headS (headI ty co x y da) 2, tailS (headI ty co x y da) 2]), missV_bd _, ?_⟩
  show sealS (headI ty co x y da) 2 = _
  unfold sealS
  rw [hA, hB]
theorem encI_list (ty co x y : Int) (da : ByteArray) : ∃ c : Int, (0 ≤ c ∧ c ≤ 65535) ∧ (encI ty co x y da).data.toList = txtL ty 1 ++ txtL co 1 ++ txtL c 2 ++ txtL x 2 ++ txtL y 2 ++ da.data.toList := by
  obtain ⟨c, hc, he⟩ := encI_is ty co x y da
  refine ⟨c, hc, ?_⟩
  rw [he]
  simp only [app_toList, txt_toList, List.append_assoc]
theorem encI_back {ty co x y : Int} {da : ByteArray} (h : mayI ty co x y da.size = true) : iTy (encI ty co x y da) = ty ∧ iCo (encI ty co x y da) = co ∧ iX (encI ty co x y da) = x ∧ iY (encI ty co x y da) = y ∧ iDa (encI ty co x y da) = da := by
  obtain ⟨⟨t0, t1⟩, ⟨c0, c1⟩, ⟨x0, x1⟩, ⟨y0, y1⟩, hz⟩ := mayI_q h
  obtain ⟨c, hc, he⟩ := encI_list ty co x y da
  have hL : ∀ n k, (txtL n k).length = k := fun n k => txtL_len n k
  refine ⟨?_, ?_, ?_, ?_, ?_⟩
  · exact num_at _ [] (txtL co 1 ++ txtL c 2 ++ txtL x 2 ++ txtL y 2 ++ da.data.toList) ty 1 0 1 (by rw [he]; simp only [List.append_assoc, List.nil_append]) rfl rfl t0 (by omega)
  · exact num_at _ (txtL ty 1) (txtL c 2 ++ txtL x 2 ++ txtL y 2 ++ da.data.toList) co 1 1 2 (by rw [he]; simp only [List.append_assoc]) (hL _ _) rfl c0 (by omega)
  · exact num_at _ (txtL ty 1 ++ txtL co 1 ++ txtL c 2) (txtL y 2 ++ da.data.toList) x 2 4 6 (by rw [he]; simp only [List.append_assoc]) (by simp only [List.length_append, hL]) rfl x0 (by omega)
  · exact num_at _ (txtL ty 1 ++ txtL co 1 ++ txtL c 2 ++ txtL x 2) (da.data.toList) y 2 6 8 (by rw [he]; simp only [List.append_assoc]) (by simp only [List.length_append, hL]) rfl y0 (by omega)
  · unfold iDa
    apply ba_toList
    rw [ext_toList, he, List.drop_left' (by simp only [List.length_append, hL])]
    rw [List.take_of_length_le]
    rw [len_toList, encI_size]
    omega
theorem encI_whole (ty co x y : Int) (da : ByteArray) : (sumS (encI ty co x y da) == 0) = true := by
  have h := sum_sealS (headI ty co x y da) 2 (by decide) (by rw [headI_size]; omega) (by decide)
  have : sumS (encI ty co x y da) = 0 := by
    show missV (ws true (sealS (headI ty co x y da) 2).data.toList) = 0
    unfold missV
    rw [h]
    rfl
  rw [this]; rfl
end Go.Proofs.YtkpdmgoldngdaaaGreatDoor.Ip
