/- The contracts of put and Encode of package icmp, and of the chapter's example: each returns just the values named here; nothing that was there turns. -/
import Derived.Test.YtbbeepkcejiafaaIcs
namespace Go.Proofs.Ytbbeepkcejiafaa
open Go.RowKit

theorem keepI {w W x : World} {a0 a1 a2 a3 a4 : Addr} {v0 v1 v2 v3 v4 : Value} (hb : Below W.heap.size W x) (h : Below w.heap.size w W ∧ W.cell? a0 = some v0 ∧ W.cell? a1 = some v1 ∧ W.cell? a2 = some v2 ∧ W.cell? a3 = some v3 ∧ W.cell? a4 = some v4) :
    Below w.heap.size w x ∧ x.cell? a0 = some v0 ∧ x.cell? a1 = some v1 ∧ x.cell? a2 = some v2 ∧ x.cell? a3 = some v3 ∧ x.cell? a4 = some v4 :=
  ⟨bt h.1 hb, later hb h.2.1, later hb h.2.2.1, later hb h.2.2.2.1, later hb h.2.2.2.2.1, later hb h.2.2.2.2.2⟩
def headI (ty co x y : Int) (da : ByteArray) : ByteArray := txt ty 1 ++ txt co 1 ++ txt 0 2 ++ txt x 2 ++ txt y 2 ++ da
def encI (ty co x y : Int) (da : ByteArray) : ByteArray := sealS (headI ty co x y da) 2
theorem headI_size (ty co x y : Int) (da : ByteArray) : (headI ty co x y da).size = 8 + da.size := by
  unfold headI
  simp only [ByteArray.size_append, txt_size]
theorem encI_size (ty co x y : Int) (da : ByteArray) : (encI ty co x y da).size = 8 + da.size := by
  unfold encI
  rw [sealS_size _ _ (by decide) (by rw [headI_size]; omega), headI_size]
theorem iput_c (n k : Int) (w : World) : Calls Try.prog 25 #[.int .i64 n, .int .i64 k] w fun e w' => e = .returned (.string (putV n k)) ∧ Below w.heap.size w w' := by
  go_enter Try.func25, Try.ntmps25
  go_wp2_with fail
  refine (pput_any n k _).mono ?_
  rintro e w1 ⟨rfl, hb⟩
  go_wp2
  go_ret
  exact ⟨rfl, hb⟩
theorem iputV_le (n k : Int) : (putV n k).size ≤ 6 := by
  unfold putV
  split
  · rename_i h
    have := of_decide_eq_true h
    rw [txt_size]; omega
  · exact Nat.zero_le _
theorem iputV_is (n k : Int) (j : Nat) (hk : k = j) (hj : 1 ≤ j ∧ j ≤ 6) (h0 : 0 ≤ n) (h1 : n < 2 ^ (8 * j)) : putV n k = txt n j := by
  subst hk
  unfold putV
  rw [putB_t ⟨by omega, by omega, h0, by simpa using h1⟩, if_pos rfl]
  rfl

theorem headI_is (ty co x y : Int) (da : ByteArray) (h : mayI ty co x y da.size = true) : (putV ty 1) ++ (putV co 1) ++ (putV 0 2) ++ (putV x 2) ++ (putV y 2) ++ da = headI ty co x y da := by
  obtain ⟨⟨t0, t1⟩, ⟨c0, c1⟩, ⟨x0, x1⟩, ⟨y0, y1⟩, hz⟩ := mayI_q h
  unfold headI
  rw [iputV_is ty 1 1 rfl (by decide) t0 (by simp; omega), iputV_is co 1 1 rfl (by decide) c0 (by simp; omega), iputV_is 0 2 2 rfl (by decide) (by omega) (by decide), iputV_is x 2 2 rfl (by decide) x0 (by simp; omega), iputV_is y 2 2 rfl (by decide) y0 (by simp; omega)]
theorem sealI_is (ty co x y : Int) (da : ByteArray) (h : mayI ty co x y da.size = true) : sealV ((putV ty 1) ++ (putV co 1) ++ (putV 0 2) ++ (putV x 2) ++ (putV y 2) ++ da) 2 = encI ty co x y da ∧ sealC ((putV ty 1) ++ (putV co 1) ++ (putV 0 2) ++ (putV x 2) ++ (putV y 2) ++ da) 2 = 0 := by
  rw [headI_is ty co x y da h]
  obtain ⟨-, -, -, -, hz⟩ := mayI_q h
  have hs := headI_size ty co x y da
  unfold sealV sealC encI
  rw [place_t (by rw [hs]; omega), if_pos rfl, if_pos rfl, if_pos (by omega), if_pos (by omega)]
  exact ⟨rfl, rfl⟩

set_option maxRecDepth 100000 in
set_option maxHeartbeats 4000000 in
theorem ienc_y {ty co x y : Int} {da : ByteArray} (h : mayI ty co x y da.size = true) (w : World) :
    Calls Try.prog 9 #[.agg #[.int .i64 ty, .int .i64 co, .int .i64 x, .int .i64 y, .string da]] w fun e w' => e = .returned (.tuple #[.string (encI ty co x y da), .int .i64 0]) ∧ Below w.heap.size w w' := by
  have hA := At.box w #[.int .i64 ty, .int .i64 co, .int .i64 x, .int .i64 y, .string da] 23
  have hl := bel1 w (.cells #[.int .i64 ty, .int .i64 co, .int .i64 x, .int .i64 y, .string da] 23)
  obtain ⟨-, -, -, -, hz⟩ := mayI_q h
  have hd : da.size ≤ 1125899906842624 := by omega
  have hsi := sealI_is ty co x y da h
  have y1 := iputV_le ty 1
  have y2 := iputV_le co 1
  have y3 := iputV_le 0 2
  have y4 := iputV_le x 2
  have y5 := iputV_le y 2
  have r1 : ∀ W, (Op.stringOp .add ((putV ty 1)) (putV co 1)).run Try.prog W = .ok (.string ((putV ty 1) ++ (putV co 1))) W := fun W => run_string_add_sum W _ _ (by omega)
  have r2 : ∀ W, (Op.stringOp .add ((putV ty 1) ++ (putV co 1)) (putV 0 2)).run Try.prog W = .ok (.string ((putV ty 1) ++ (putV co 1) ++ (putV 0 2))) W := fun W => run_string_add_sum W _ _ (by simp only [ByteArray.size_append]; omega)
  have r3 : ∀ W, (Op.stringOp .add ((putV ty 1) ++ (putV co 1) ++ (putV 0 2)) (putV x 2)).run Try.prog W = .ok (.string ((putV ty 1) ++ (putV co 1) ++ (putV 0 2) ++ (putV x 2))) W := fun W => run_string_add_sum W _ _ (by simp only [ByteArray.size_append]; omega)
  have r4 : ∀ W, (Op.stringOp .add ((putV ty 1) ++ (putV co 1) ++ (putV 0 2) ++ (putV x 2)) (putV y 2)).run Try.prog W = .ok (.string ((putV ty 1) ++ (putV co 1) ++ (putV 0 2) ++ (putV x 2) ++ (putV y 2))) W := fun W => run_string_add_sum W _ _ (by simp only [ByteArray.size_append]; omega)
  have r5 : ∀ W, (Op.stringOp .add ((putV ty 1) ++ (putV co 1) ++ (putV 0 2) ++ (putV x 2) ++ (putV y 2)) da).run Try.prog W = .ok (.string ((putV ty 1) ++ (putV co 1) ++ (putV 0 2) ++ (putV x 2) ++ (putV y 2) ++ da)) W := fun W => run_string_add_sum W _ _ (by simp only [ByteArray.size_append]; omega)
  have hzz : ((putV ty 1) ++ (putV co 1) ++ (putV 0 2) ++ (putV x 2) ++ (putV y 2) ++ da).size ≤ maxLen := by simp only [ByteArray.size_append]; unfold maxLen; omega
  have hse := fun W => seal_any ((putV ty 1) ++ (putV co 1) ++ (putV 0 2) ++ (putV x 2) ++ (putV y 2) ++ da) 2 W hzz
  rw [hsi.1, hsi.2] at hse
  have HSE : Hid (∀ W, Calls Try.prog 26 #[.string ((putV ty 1) ++ (putV co 1) ++ (putV 0 2) ++ (putV x 2) ++ (putV y 2) ++ da), .int .i64 2] W fun e w' => e = .returned (.tuple #[.string (encI ty co x y da), .int .i64 0]) ∧ Below W.heap.size W w') := hse
  clear hse hzz y1 y2 y3 y4 y5 hsi hz
  go_enter Try.func9, Try.ntmps9
  go_wp2_with fail
  refine (lookm_t h _ hd).mono ?_
  rintro e w1 ⟨rfl, hb⟩
  have hl := bt hl hb
  obtain ⟨hx, -, -⟩ := (hA.later hb).five
  have hx5 := And.intro hl hx
  clear hA hb hl hx
  go_wp2
  go_region_held3 (fun W => Below w.heap.size w W ∧ W.cell? ⟨w.heap.size, 0, none⟩ = some (.int .i64 ty) ∧ W.cell? ⟨w.heap.size, 1, none⟩ = some (.int .i64 co) ∧ W.cell? ⟨w.heap.size, 2, none⟩ = some (.int .i64 x) ∧ W.cell? ⟨w.heap.size, 3, none⟩ = some (.int .i64 y) ∧ W.cell? ⟨w.heap.size, 4, none⟩ = some (.string da)) (first | exact ⟨hx5.1.drew, hx5.2⟩ | (refine keepI hb ?_; assumption)) (first | (go_at_call 25; refine (iput_c _ _ _).mono ?_; rintro e w' ⟨rfl, hb⟩))
  all_goals
    rename_i hq
    go_wp2_with fail
    refine (HSE.out _).mono ?_
    rintro e w2 ⟨rfl, hb⟩
    go_wp2
    go_ret2
    exact ⟨rfl, bt hq.1 hb⟩
theorem ienc_n {ty co x y : Int} {da : ByteArray} (h : mayI ty co x y da.size = false) (w : World) (hd : da.size ≤ 1125899906842624) :
    Calls Try.prog 9 #[.agg #[.int .i64 ty, .int .i64 co, .int .i64 x, .int .i64 y, .string da]] w fun e w' => e = .returned (.tuple #[.string ⟨#[]⟩, .int .i64 60]) ∧ Below w.heap.size w w' := by
  have hl := bel1 w (.cells #[.int .i64 ty, .int .i64 co, .int .i64 x, .int .i64 y, .string da] 23)
  go_enter Try.func9, Try.ntmps9
  go_wp2_with fail
  refine (lookm_f h _ hd).mono ?_
  rintro e w1 ⟨rfl, hb⟩
  have hl := bt hl hb
  go_wp2
  go_ret2
  exact ⟨rfl, hl⟩
theorem iex_is : encI 8 0 1 2 ⟨#[]⟩ = ⟨#[8, 0, 247, 252, 0, 1, 0, 2]⟩ := by decide +kernel
theorem iex_may : mayI 8 0 1 2 (⟨#[]⟩ : ByteArray).size = true := by decide +kernel
theorem ienc_ex (w : World) :
    Calls Try.prog 9 #[.agg #[.int .i64 8, .int .i64 0, .int .i64 1, .int .i64 2, .string ⟨#[]⟩]] w fun e w' => e = .returned (.tuple #[.string ⟨#[8, 0, 247, 252, 0, 1, 0, 2]⟩, .int .i64 0]) ∧ Below w.heap.size w w' := by
  have := ienc_y iex_may w
  rw [iex_is] at this
  exact this
theorem iworks_any (w : World) :
    Calls Try.prog 15 #[] w fun e w' => e = .returned (.bool true) ∧ Below w.heap.size w w' := by
  go_enter Try.func15, Try.ntmps15
  go_wp2_with fail
  refine (ienc_ex _).mono ?_
  rintro e w1 ⟨rfl, hb1⟩
  go_wp2
  go_ret
  exact ⟨rfl, hb1⟩
end Go.Proofs.Ytbbeepkcejiafaa
