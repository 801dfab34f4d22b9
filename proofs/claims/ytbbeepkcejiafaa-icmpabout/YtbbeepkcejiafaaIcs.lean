/- Plain facts of ICMP packets: which may be; the contracts of fits, look, Check and Answer of package icmp, and of the document's: each returns just the values named here; nothing that was there turns. -/
import Derived.Test.YtbbeepkcejiafaaPks
namespace Go.Proofs.Ytbbeepkcejiafaa
open Go.RowKit

def mayJ (ty co x y : Int) (z : Nat) : Prop := (0 ≤ ty ∧ ty ≤ 255) ∧ (0 ≤ co ∧ co ≤ 255) ∧ (0 ≤ x ∧ x ≤ 65535) ∧ (0 ≤ y ∧ y ≤ 65535) ∧ z ≤ 65500
instance (ty co x y : Int) (z : Nat) : Decidable (mayJ ty co x y z) := by unfold mayJ; infer_instance
def mayI (ty co x y : Int) (z : Nat) : Bool := decide (mayJ ty co x y z)
theorem mayI_t {ty co x y : Int} {z : Nat} (h : mayJ ty co x y z) : mayI ty co x y z = true := decide_eq_true h
theorem mayI_f {ty co x y : Int} {z : Nat} (h : ¬ mayJ ty co x y z) : mayI ty co x y z = false := decide_eq_false h
theorem mayI_q {ty co x y : Int} {z : Nat} (h : mayI ty co x y z = true) : mayJ ty co x y z := of_decide_eq_true h
def codeI (b : Bool) : Int := if b = true then 0 else 60
def askB (ty co x y : Int) (z : Nat) : Bool := decide (ty = 8 ∧ co = 0) && mayI ty co x y z
theorem At.five {W : World} {b : Nat} {v0 v1 v2 v3 v4 : Value} (h : At W b #[v0, v1, v2, v3, v4]) : (W.cell? ⟨b, 0, none⟩ = some v0 ∧ W.cell? ⟨b, 1, none⟩ = some v1 ∧ W.cell? ⟨b, 2, none⟩ = some v2 ∧ W.cell? ⟨b, 3, none⟩ = some v3 ∧ W.cell? ⟨b, 4, none⟩ = some v4) ∧ (W.frozen? ⟨b, 0, none⟩ = false ∧ W.frozen? ⟨b, 1, none⟩ = false ∧ W.frozen? ⟨b, 2, none⟩ = false ∧ W.frozen? ⟨b, 3, none⟩ = false ∧ W.frozen? ⟨b, 4, none⟩ = false) ∧ b < W.heap.size :=
  ⟨⟨(h.2 0 _ rfl).1, (h.2 1 _ rfl).1, (h.2 2 _ rfl).1, (h.2 3 _ rfl).1, (h.2 4 _ rfl).1⟩, ⟨(h.2 0 _ rfl).2, (h.2 1 _ rfl).2, (h.2 2 _ rfl).2, (h.2 3 _ rfl).2, (h.2 4 _ rfl).2⟩, h.1⟩
theorem below5 {w W : World} {b : Nat} (h : Below w.heap.size w W) (hb : w.heap.size ≤ b) (v0 v1 v2 v3 v4 : Value) : Below w.heap.size w (((((W.setCell ⟨b, 0, none⟩ v0).setCell ⟨b, 1, none⟩ v1).setCell ⟨b, 2, none⟩ v2).setCell ⟨b, 3, none⟩ v3).setCell ⟨b, 4, none⟩ v4) :=
  ((((h.setCell hb _).setCell hb _).setCell hb _).setCell hb _).setCell hb _

theorem ifits_any (n m : Int) (w : World) : Calls Try.prog 32 #[.int .i64 n, .int .i64 m] w fun e w' => e = .returned (.bool (fitB n m)) ∧ w' = w := by
  by_cases h : 0 ≤ n
  · by_cases h2 : n ≤ m
    · rw [fitB_t ⟨h, h2⟩]
      go_enter Try.func32, Try.ntmps32
      go_wp2
      go_ret
      exact ⟨rfl, rfl⟩
    · rw [fitB_f fun e => h2 e.2]
      go_enter Try.func32, Try.ntmps32
      go_wp2
      go_ret
      exact ⟨rfl, rfl⟩
  · rw [fitB_f fun e => h e.1]
    go_enter Try.func32, Try.ntmps32
    go_wp2
    go_ret
    exact ⟨rfl, rfl⟩
theorem ifits_t {n m : Int} (h : fitB n m = true) (w : World) : Calls Try.prog 32 #[.int .i64 n, .int .i64 m] w fun e w' => e = .returned (.bool true) ∧ w' = w := by have := ifits_any n m w; rw [h] at this; exact this
theorem ifits_f {n m : Int} (h : fitB n m = false) (w : World) : Calls Try.prog 32 #[.int .i64 n, .int .i64 m] w fun e w' => e = .returned (.bool false) ∧ w' = w := by have := ifits_any n m w; rw [h] at this; exact this

theorem mayI_ways (ty co x y : Int) (z : Nat) :
    (mayI ty co x y z = false ∧ fitB ty 255 = false) ∨
    (mayI ty co x y z = false ∧ fitB ty 255 = true ∧ fitB co 255 = false) ∨
    (mayI ty co x y z = false ∧ fitB ty 255 = true ∧ fitB co 255 = true ∧ fitB x 65535 = false) ∨
    (mayI ty co x y z = false ∧ fitB ty 255 = true ∧ fitB co 255 = true ∧ fitB x 65535 = true ∧ fitB y 65535 = false) ∨
    (mayI ty co x y z = false ∧ fitB ty 255 = true ∧ fitB co 255 = true ∧ fitB x 65535 = true ∧ fitB y 65535 = true ∧ 65500 < (z : Int)) ∨
    (mayI ty co x y z = true ∧ fitB ty 255 = true ∧ fitB co 255 = true ∧ fitB x 65535 = true ∧ fitB y 65535 = true ∧ (z : Int) ≤ 65500) := by
  by_cases h1 : 0 ≤ ty ∧ ty ≤ 255
  · by_cases h2 : 0 ≤ co ∧ co ≤ 255
    · by_cases h3 : 0 ≤ x ∧ x ≤ 65535
      · by_cases h4 : 0 ≤ y ∧ y ≤ 65535
        · by_cases h5 : (z : Int) ≤ 65500
          · exact .inr (.inr (.inr (.inr (.inr ⟨mayI_t ⟨h1, h2, h3, h4, by omega⟩, fitB_t h1, fitB_t h2, fitB_t h3, fitB_t h4, h5⟩))))
          · exact .inr (.inr (.inr (.inr (.inl ⟨mayI_f fun h => h5 (by have := h.2.2.2.2; omega), fitB_t h1, fitB_t h2, fitB_t h3, fitB_t h4, by omega⟩))))
        · exact .inr (.inr (.inr (.inl ⟨mayI_f fun h => h4 h.2.2.2.1, fitB_t h1, fitB_t h2, fitB_t h3, fitB_f h4⟩)))
      · exact .inr (.inr (.inl ⟨mayI_f fun h => h3 h.2.2.1, fitB_t h1, fitB_t h2, fitB_f h3⟩))
    · exact .inr (.inl ⟨mayI_f fun h => h2 h.2.1, fitB_t h1, fitB_f h2⟩)
  · exact .inl ⟨mayI_f fun h => h1 h.1, fitB_f h1⟩

set_option maxRecDepth 100000 in
set_option maxHeartbeats 1000000 in
theorem look_m (ty co x y : Int) (da : ByteArray) (w : World) (hd : da.size ≤ 1125899906842624) :
    Calls Try.prog 24 #[.int .i64 1, .agg #[.int .i64 ty, .int .i64 co, .int .i64 x, .int .i64 y, .string da]] w fun e w' => e = .returned (.int .i64 (codeI (mayI ty co x y da.size))) ∧ Below w.heap.size w w' := by
  have hd' : (da.size : Int) ≤ 1125899906842624 := by omega
  rcases mayI_ways ty co x y da.size with ⟨hm, a1⟩ | ⟨hm, a1, a2⟩ | ⟨hm, a1, a2, a3⟩ | ⟨hm, a1, a2, a3, a4⟩ | ⟨hm, a1, a2, a3, a4, a5⟩ | ⟨hm, a1, a2, a3, a4, a5⟩
  all_goals
    rw [hm]; clear hm
    go_enter Try.func24, Try.ntmps24
    go_wp2_with (first | (go_at_call 32; refine (ifits_t (by assumption) _).mono ?_; rintro e w1 ⟨rfl, rfl⟩) | (go_at_call 32; refine (ifits_f (by assumption) _).mono ?_; rintro e w1 ⟨rfl, rfl⟩))
    go_ret
    exact ⟨rfl, bel1 _ _⟩
set_option maxRecDepth 100000 in
set_option maxHeartbeats 1000000 in
theorem look_q (ty co x y : Int) (da : ByteArray) (w : World) (hd : da.size ≤ 1125899906842624) :
    Calls Try.prog 24 #[.int .i64 0, .agg #[.int .i64 ty, .int .i64 co, .int .i64 x, .int .i64 y, .string da]] w fun e w' => e = .returned (.int .i64 (codeI (askB ty co x y da.size))) ∧ Below w.heap.size w w' := by
  have hd' : (da.size : Int) ≤ 1125899906842624 := by omega
  unfold askB
  by_cases h1 : ty = 8
  · by_cases h2 : co = 0
    · rw [decide_eq_true ⟨h1, h2⟩, Bool.true_and]
      have k1 : (ty != 8) = false := by simp [h1]
      have k2 : (co != 0) = false := by simp [h2]
      clear h1 h2
      rcases mayI_ways ty co x y da.size with ⟨hm, a1⟩ | ⟨hm, a1, a2⟩ | ⟨hm, a1, a2, a3⟩ | ⟨hm, a1, a2, a3, a4⟩ | ⟨hm, a1, a2, a3, a4, a5⟩ | ⟨hm, a1, a2, a3, a4, a5⟩
      all_goals
        rw [hm]; clear hm
        go_enter Try.func24, Try.ntmps24
        go_wp2_with (first | (go_at_call 32; refine (ifits_t (by assumption) _).mono ?_; rintro e w1 ⟨rfl, rfl⟩) | (go_at_call 32; refine (ifits_f (by assumption) _).mono ?_; rintro e w1 ⟨rfl, rfl⟩))
        go_ret
        exact ⟨rfl, bel1 _ _⟩
    · rw [decide_eq_false (fun e => h2 e.2), Bool.false_and]
      have k1 : (ty != 8) = false := by simp [h1]
      have k2 : (co != 0) = true := by simpa using h2
      clear h1 h2
      go_enter Try.func24, Try.ntmps24
      go_wp2
      go_ret
      exact ⟨rfl, bel1 _ _⟩
  · rw [decide_eq_false (fun e => h1 e.1), Bool.false_and]
    have k1 : (ty != 8) = true := by simpa using h1
    clear h1
    go_enter Try.func24, Try.ntmps24
    go_wp2
    go_ret
    exact ⟨rfl, bel1 _ _⟩
theorem lookm_t {ty co x y : Int} {da : ByteArray} (h : mayI ty co x y da.size = true) (w : World) (hd : da.size ≤ 1125899906842624) : Calls Try.prog 24 #[.int .i64 1, .agg #[.int .i64 ty, .int .i64 co, .int .i64 x, .int .i64 y, .string da]] w fun e w' => e = .returned (.int .i64 0) ∧ Below w.heap.size w w' := by
  have := look_m ty co x y da w hd; rw [h] at this; exact this
theorem lookm_f {ty co x y : Int} {da : ByteArray} (h : mayI ty co x y da.size = false) (w : World) (hd : da.size ≤ 1125899906842624) : Calls Try.prog 24 #[.int .i64 1, .agg #[.int .i64 ty, .int .i64 co, .int .i64 x, .int .i64 y, .string da]] w fun e w' => e = .returned (.int .i64 60) ∧ Below w.heap.size w w' := by
  have := look_m ty co x y da w hd; rw [h] at this; exact this
theorem lookq_t {ty co x y : Int} {da : ByteArray} (h : askB ty co x y da.size = true) (w : World) (hd : da.size ≤ 1125899906842624) : Calls Try.prog 24 #[.int .i64 0, .agg #[.int .i64 ty, .int .i64 co, .int .i64 x, .int .i64 y, .string da]] w fun e w' => e = .returned (.int .i64 0) ∧ Below w.heap.size w w' := by
  have := look_q ty co x y da w hd; rw [h] at this; exact this
theorem lookq_f {ty co x y : Int} {da : ByteArray} (h : askB ty co x y da.size = false) (w : World) (hd : da.size ≤ 1125899906842624) : Calls Try.prog 24 #[.int .i64 0, .agg #[.int .i64 ty, .int .i64 co, .int .i64 x, .int .i64 y, .string da]] w fun e w' => e = .returned (.int .i64 60) ∧ Below w.heap.size w w' := by
  have := look_q ty co x y da w hd; rw [h] at this; exact this
theorem ichk_t {ty co x y : Int} {da : ByteArray} (h : mayI ty co x y da.size = true) (w : World) (hd : da.size ≤ 1125899906842624) : Calls Try.prog 13 #[.agg #[.int .i64 ty, .int .i64 co, .int .i64 x, .int .i64 y, .string da]] w fun e w' => e = .returned (.int .i64 0) ∧ Below w.heap.size w w' := by
  have hl := bel1 w (.cells #[.int .i64 ty, .int .i64 co, .int .i64 x, .int .i64 y, .string da] 23)
  go_enter Try.func13, Try.ntmps13
  go_wp2_with fail
  refine (lookm_t h _ hd).mono ?_
  rintro e w1 ⟨rfl, hb⟩
  go_wp2
  go_ret
  exact ⟨rfl, bt hl hb⟩
theorem ichk_f {ty co x y : Int} {da : ByteArray} (h : mayI ty co x y da.size = false) (w : World) (hd : da.size ≤ 1125899906842624) : Calls Try.prog 13 #[.agg #[.int .i64 ty, .int .i64 co, .int .i64 x, .int .i64 y, .string da]] w fun e w' => e = .returned (.int .i64 60) ∧ Below w.heap.size w w' := by
  have hl := bel1 w (.cells #[.int .i64 ty, .int .i64 co, .int .i64 x, .int .i64 y, .string da] 23)
  go_enter Try.func13, Try.ntmps13
  go_wp2_with fail
  refine (lookm_f h _ hd).mono ?_
  rintro e w1 ⟨rfl, hb⟩
  go_wp2
  go_ret
  exact ⟨rfl, bt hl hb⟩

theorem ifit_no {n m : Int} (h : fitB n m = false) : n < 0 ∨ 0 ≤ n ∧ m < n := by have := of_decide_eq_false h; omega
theorem ifit_yes {n m : Int} (h : fitB n m = true) : 0 ≤ n ∧ n ≤ m := of_decide_eq_true h
set_option maxRecDepth 100000 in
set_option maxHeartbeats 4000000 in
theorem richk_any (ty co x y : Int) (da : ByteArray) (w : World) (hd : da.size ≤ 1125899906842624) : Calls Try.prog 14 #[.agg #[.int .i64 ty, .int .i64 co, .int .i64 x, .int .i64 y, .string da]] w fun e w' => e = .returned (.int .i64 (codeI (mayI ty co x y da.size))) ∧ Below w.heap.size w w' := by
  have hd' : (da.size : Int) ≤ 1125899906842624 := by omega
  have hw : (mayI ty co x y da.size = false ∧ ty < 0) ∨ (mayI ty co x y da.size = false ∧ 0 ≤ ty ∧ 255 < ty) ∨ (0 ≤ ty ∧ ty ≤ 255) ∧ ((mayI ty co x y da.size = false ∧ co < 0) ∨ (mayI ty co x y da.size = false ∧ 0 ≤ co ∧ 255 < co) ∨ (0 ≤ co ∧ co ≤ 255) ∧ ((mayI ty co x y da.size = false ∧ x < 0) ∨ (mayI ty co x y da.size = false ∧ 0 ≤ x ∧ 65535 < x) ∨ (0 ≤ x ∧ x ≤ 65535) ∧ ((mayI ty co x y da.size = false ∧ y < 0) ∨ (mayI ty co x y da.size = false ∧ 0 ≤ y ∧ 65535 < y) ∨ (0 ≤ y ∧ y ≤ 65535) ∧ ((mayI ty co x y da.size = false ∧ 65500 < (da.size : Int)) ∨ (mayI ty co x y da.size = true ∧ (da.size : Int) ≤ 65500))))) := by
    rcases mayI_ways ty co x y da.size with ⟨hm, a1⟩ | ⟨hm, a1, a2⟩ | ⟨hm, a1, a2, a3⟩ | ⟨hm, a1, a2, a3, a4⟩ | ⟨hm, a1, a2, a3, a4, a5⟩ | ⟨hm, a1, a2, a3, a4, a5⟩
    · rcases ifit_no a1 with q | q
      · exact .inl ⟨hm, q⟩
      · exact .inr (.inl ⟨hm, q⟩)
    · refine .inr (.inr ⟨ifit_yes a1, ?_⟩)
      rcases ifit_no a2 with q | q
      · exact .inl ⟨hm, q⟩
      · exact .inr (.inl ⟨hm, q⟩)
    · refine .inr (.inr ⟨ifit_yes a1, .inr (.inr ⟨ifit_yes a2, ?_⟩)⟩)
      rcases ifit_no a3 with q | q
      · exact .inl ⟨hm, q⟩
      · exact .inr (.inl ⟨hm, q⟩)
    · refine .inr (.inr ⟨ifit_yes a1, .inr (.inr ⟨ifit_yes a2, .inr (.inr ⟨ifit_yes a3, ?_⟩)⟩)⟩)
      rcases ifit_no a4 with q | q
      · exact .inl ⟨hm, q⟩
      · exact .inr (.inl ⟨hm, q⟩)
    · exact .inr (.inr ⟨ifit_yes a1, .inr (.inr ⟨ifit_yes a2, .inr (.inr ⟨ifit_yes a3, .inr (.inr ⟨ifit_yes a4, .inl ⟨hm, a5⟩⟩)⟩)⟩)⟩)
    · exact .inr (.inr ⟨ifit_yes a1, .inr (.inr ⟨ifit_yes a2, .inr (.inr ⟨ifit_yes a3, .inr (.inr ⟨ifit_yes a4, .inr ⟨hm, a5⟩⟩)⟩)⟩)⟩)
  rcases hw with ⟨hm, q⟩ | ⟨hm, q, q1⟩ | ⟨⟨q, q1⟩, ⟨hm, q2⟩ | ⟨hm, q2, q3⟩ | ⟨⟨q2, q3⟩, ⟨hm, q4⟩ | ⟨hm, q4, q5⟩ | ⟨⟨q4, q5⟩, ⟨hm, q6⟩ | ⟨hm, q6, q7⟩ | ⟨⟨q6, q7⟩, ⟨hm, q8⟩ | ⟨hm, q8⟩⟩⟩⟩⟩
  all_goals
    rw [hm]; clear hm
    go_enter Try.func14, Try.ntmps14
    go_wp2
    go_ret
    exact ⟨rfl, bel1 _ _⟩
theorem richk_t {ty co x y : Int} {da : ByteArray} (h : mayI ty co x y da.size = true) (w : World) (hd : da.size ≤ 1125899906842624) : Calls Try.prog 14 #[.agg #[.int .i64 ty, .int .i64 co, .int .i64 x, .int .i64 y, .string da]] w fun e w' => e = .returned (.int .i64 0) ∧ Below w.heap.size w w' := by
  have := richk_any ty co x y da w hd; rw [h] at this; exact this
theorem richk_f {ty co x y : Int} {da : ByteArray} (h : mayI ty co x y da.size = false) (w : World) (hd : da.size ≤ 1125899906842624) : Calls Try.prog 14 #[.agg #[.int .i64 ty, .int .i64 co, .int .i64 x, .int .i64 y, .string da]] w fun e w' => e = .returned (.int .i64 60) ∧ Below w.heap.size w w' := by
  have := richk_any ty co x y da w hd; rw [h] at this; exact this

theorem askB_t {x y : Int} {z : Nat} (h : mayI 8 0 x y z = true) : askB 8 0 x y z = true := by unfold askB; rw [h]; rfl
theorem ask_ways (ty co x y : Int) (z : Nat) : (askB ty co x y z = true ∧ ty = 8 ∧ co = 0 ∧ mayI 8 0 x y z = true) ∨ (askB ty co x y z = false ∧ mayI ty co x y z = false) ∨ (askB ty co x y z = false ∧ mayI ty co x y z = true ∧ (ty != 8) = true) ∨ (askB ty co x y z = false ∧ mayI ty co x y z = true ∧ (ty != 8) = false ∧ (co != 0) = true) := by
  unfold askB
  rcases Bool.eq_false_or_eq_true (mayI ty co x y z) with h | h
  · rw [h, Bool.and_true]
    by_cases h1 : ty = 8
    · by_cases h2 : co = 0
      · refine .inl ⟨decide_eq_true ⟨h1, h2⟩, h1, h2, ?_⟩
        rw [← h, h1, h2]
      · exact .inr (.inr (.inr ⟨decide_eq_false fun e => h2 e.2, rfl, by simp [h1], by simpa using h2⟩))
    · exact .inr (.inr (.inl ⟨decide_eq_false fun e => h1 e.1, rfl, by simpa using h1⟩))
  · rw [h, Bool.and_false]; exact .inr (.inl ⟨rfl, rfl⟩)

set_option maxHeartbeats 1000000 in
theorem ans_t {x y : Int} {da : ByteArray} (h : mayI 8 0 x y da.size = true) (w : World) (hd : da.size ≤ 1125899906842624) :
    Calls Try.prog 11 #[.agg #[.int .i64 8, .int .i64 0, .int .i64 x, .int .i64 y, .string da]] w fun e w' => e = .returned (.tuple #[.agg #[.int .i64 0, .int .i64 0, .int .i64 x, .int .i64 y, .string da], .int .i64 0]) ∧ Below w.heap.size w w' := by
  have hA := (At.box w #[.int .i64 8, .int .i64 0, .int .i64 x, .int .i64 y, .string da] 23).later (bel1 _ (.cells #[.int .i64 0, .int .i64 0, .int .i64 0, .int .i64 0, .string ⟨#[]⟩] 23))
  have hl := bt (bel1 w (.cells #[.int .i64 8, .int .i64 0, .int .i64 x, .int .i64 y, .string da] 23)) (bel1 _ (.cells #[.int .i64 0, .int .i64 0, .int .i64 0, .int .i64 0, .string ⟨#[]⟩] 23))
  have hR := At.box2 w (.cells #[.int .i64 8, .int .i64 0, .int .i64 x, .int .i64 y, .string da] 23) #[.int .i64 0, .int .i64 0, .int .i64 0, .int .i64 0, .string ⟨#[]⟩] 23
  go_enter Try.func11, Try.ntmps11
  go_wp2_with fail
  refine (lookq_t (askB_t h) _ hd).mono ?_
  rintro e w1 ⟨rfl, hb⟩
  have hl := bt hl hb
  obtain ⟨⟨c0, c1, c2, c3, c4⟩, ⟨g0, g1, g2, g3, g4⟩, hlt0⟩ := (hA.later hb).five
  obtain ⟨⟨r0, r1, r2, r3, r4⟩, ⟨f0, f1, f2, f3, f4⟩, hlt⟩ := (hR.later hb).five
  clear hA hR hb
  go_wp2
  exact bodyPost_ret (v := .tuple #[.agg #[.int .i64 0, .int .i64 0, .int .i64 x, .int .i64 y, .string da], .int .i64 0]) (by simp [results, Try.results11, go_sem, r0, r1, r2, r3, r4]) rfl ⟨rfl, below5 (hl.setCell (Nat.le_refl _) _) (Nat.le_succ _) _ _ _ _ _⟩
set_option maxHeartbeats 1000000 in
theorem ans_f {ty co x y : Int} {da : ByteArray} (h : askB ty co x y da.size = false) (w : World) (hd : da.size ≤ 1125899906842624) :
    Calls Try.prog 11 #[.agg #[.int .i64 ty, .int .i64 co, .int .i64 x, .int .i64 y, .string da]] w fun e w' => e = .returned (.tuple #[.agg #[.int .i64 0, .int .i64 0, .int .i64 0, .int .i64 0, .string ⟨#[]⟩], .int .i64 60]) ∧ Below w.heap.size w w' := by
  have hA := (At.box w #[.int .i64 ty, .int .i64 co, .int .i64 x, .int .i64 y, .string da] 23).later (bel1 _ (.cells #[.int .i64 0, .int .i64 0, .int .i64 0, .int .i64 0, .string ⟨#[]⟩] 23))
  have hl := bt (bel1 w (.cells #[.int .i64 ty, .int .i64 co, .int .i64 x, .int .i64 y, .string da] 23)) (bel1 _ (.cells #[.int .i64 0, .int .i64 0, .int .i64 0, .int .i64 0, .string ⟨#[]⟩] 23))
  have hR := At.box2 w (.cells #[.int .i64 ty, .int .i64 co, .int .i64 x, .int .i64 y, .string da] 23) #[.int .i64 0, .int .i64 0, .int .i64 0, .int .i64 0, .string ⟨#[]⟩] 23
  go_enter Try.func11, Try.ntmps11
  go_wp2_with fail
  refine (lookq_f h _ hd).mono ?_
  rintro e w1 ⟨rfl, hb⟩
  have hl := bt hl hb
  obtain ⟨⟨c0, c1, c2, c3, c4⟩, ⟨g0, g1, g2, g3, g4⟩, hlt0⟩ := (hA.later hb).five
  obtain ⟨⟨r0, r1, r2, r3, r4⟩, ⟨f0, f1, f2, f3, f4⟩, hlt⟩ := (hR.later hb).five
  clear hA hR hb
  go_wp2
  exact bodyPost_ret (v := .tuple #[.agg #[.int .i64 0, .int .i64 0, .int .i64 0, .int .i64 0, .string ⟨#[]⟩], .int .i64 60]) (by simp [results, Try.results11, go_sem, r0, r1, r2, r3, r4]) rfl ⟨rfl, below5 hl (Nat.le_succ _) _ _ _ _ _⟩
set_option maxHeartbeats 1000000 in
theorem rans_t {x y : Int} {da : ByteArray} (h : mayI 8 0 x y da.size = true) (w : World) (hd : da.size ≤ 1125899906842624) :
    Calls Try.prog 12 #[.agg #[.int .i64 8, .int .i64 0, .int .i64 x, .int .i64 y, .string da]] w fun e w' => e = .returned (.tuple #[.agg #[.int .i64 0, .int .i64 0, .int .i64 x, .int .i64 y, .string da], .int .i64 0]) ∧ Below w.heap.size w w' := by
  have hA := (At.box w #[.int .i64 8, .int .i64 0, .int .i64 x, .int .i64 y, .string da] 23).later (bel1 _ (.cells #[.int .i64 0, .int .i64 0, .int .i64 0, .int .i64 0, .string ⟨#[]⟩] 23))
  have hl := bt (bel1 w (.cells #[.int .i64 8, .int .i64 0, .int .i64 x, .int .i64 y, .string da] 23)) (bel1 _ (.cells #[.int .i64 0, .int .i64 0, .int .i64 0, .int .i64 0, .string ⟨#[]⟩] 23))
  have hR := At.box2 w (.cells #[.int .i64 8, .int .i64 0, .int .i64 x, .int .i64 y, .string da] 23) #[.int .i64 0, .int .i64 0, .int .i64 0, .int .i64 0, .string ⟨#[]⟩] 23
  go_enter Try.func12, Try.ntmps12
  go_wp2_with fail
  refine (richk_t h _ hd).mono ?_
  rintro e w1 ⟨rfl, hb⟩
  have hl := bt hl hb
  obtain ⟨⟨c0, c1, c2, c3, c4⟩, ⟨g0, g1, g2, g3, g4⟩, hlt0⟩ := (hA.later hb).five
  obtain ⟨⟨r0, r1, r2, r3, r4⟩, ⟨f0, f1, f2, f3, f4⟩, hlt⟩ := (hR.later hb).five
  clear hA hR hb
  go_wp2
  exact bodyPost_ret (v := .tuple #[.agg #[.int .i64 0, .int .i64 0, .int .i64 x, .int .i64 y, .string da], .int .i64 0]) (by simp [results, Try.results12, go_sem, r0, r1, r2, r3, r4]) rfl ⟨rfl, below5 hl (Nat.le_succ _) _ _ _ _ _⟩
set_option maxHeartbeats 1000000 in
theorem rans_f {ty co x y : Int} {da : ByteArray} (h : askB ty co x y da.size = false) (w : World) (hd : da.size ≤ 1125899906842624) :
    Calls Try.prog 12 #[.agg #[.int .i64 ty, .int .i64 co, .int .i64 x, .int .i64 y, .string da]] w fun e w' => e = .returned (.tuple #[.agg #[.int .i64 0, .int .i64 0, .int .i64 0, .int .i64 0, .string ⟨#[]⟩], .int .i64 60]) ∧ Below w.heap.size w w' := by
  have hA := (At.box w #[.int .i64 ty, .int .i64 co, .int .i64 x, .int .i64 y, .string da] 23).later (bel1 _ (.cells #[.int .i64 0, .int .i64 0, .int .i64 0, .int .i64 0, .string ⟨#[]⟩] 23))
  have hl := bt (bel1 w (.cells #[.int .i64 ty, .int .i64 co, .int .i64 x, .int .i64 y, .string da] 23)) (bel1 _ (.cells #[.int .i64 0, .int .i64 0, .int .i64 0, .int .i64 0, .string ⟨#[]⟩] 23))
  have hR := At.box2 w (.cells #[.int .i64 ty, .int .i64 co, .int .i64 x, .int .i64 y, .string da] 23) #[.int .i64 0, .int .i64 0, .int .i64 0, .int .i64 0, .string ⟨#[]⟩] 23
  rcases ask_ways ty co x y da.size with ⟨k, -, -, -⟩ | ⟨-, k⟩ | ⟨-, k, k1⟩ | ⟨-, k, k1, k2⟩
  · rw [h] at k; cases k
  all_goals
    clear h
    go_enter Try.func12, Try.ntmps12
    go_wp2_with fail
    first | refine (richk_t k _ hd).mono ?_ | refine (richk_f k _ hd).mono ?_
    rintro e w1 ⟨rfl, hb⟩
    have hl := bt hl hb
    obtain ⟨⟨c0, c1, c2, c3, c4⟩, ⟨g0, g1, g2, g3, g4⟩, hlt0⟩ := (hA.later hb).five
    obtain ⟨⟨r0, r1, r2, r3, r4⟩, ⟨f0, f1, f2, f3, f4⟩, hlt⟩ := (hR.later hb).five
    clear hA hR hb
    go_wp2
    exact bodyPost_ret (v := .tuple #[.agg #[.int .i64 0, .int .i64 0, .int .i64 0, .int .i64 0, .string ⟨#[]⟩], .int .i64 60]) (by simp [results, Try.results12, go_sem, r0, r1, r2, r3, r4]) rfl ⟨rfl, below5 hl (Nat.le_succ _) _ _ _ _ _⟩
end Go.Proofs.Ytbbeepkcejiafaa
