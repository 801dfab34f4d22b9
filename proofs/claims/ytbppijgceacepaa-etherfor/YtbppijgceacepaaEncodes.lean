/- The contracts of Encode of package ether and of the document's, and of the chapter's example: the bytes of a frame that may be; nothing that was there turns. -/
import Derived.Test.YtbppijgceacepaaChecks
import Derived.Deep.RegionHeld3
namespace Go.Proofs.Ytbppijgceacepaa
open Go.RowKit

theorem later {w x : World} {a : Addr} {v : Value} (hb : Below w.heap.size w x) (h : w.cell? a = some v) : x.cell? a = some v := (hb.cell (World.block_lt_of_cell? _ _ h)).trans h
theorem box4 (w : World) (v0 v1 v2 v3 : Value) (t : TypeId) : (w.alloc (.cells #[v0, v1, v2, v3] t)).cell? ⟨w.heap.size, 0, none⟩ = some v0 ∧ (w.alloc (.cells #[v0, v1, v2, v3] t)).cell? ⟨w.heap.size, 1, none⟩ = some v1 ∧
    (w.alloc (.cells #[v0, v1, v2, v3] t)).cell? ⟨w.heap.size, 2, none⟩ = some v2 ∧ (w.alloc (.cells #[v0, v1, v2, v3] t)).cell? ⟨w.heap.size, 3, none⟩ = some v3 := by
  refine ⟨?_, ?_, ?_, ?_⟩ <;> simp [World.cell?_alloc_new]

theorem keep4 {w W x : World} {a b c d : Addr} {v0 v1 v2 v3 : Value} (hb : Below W.heap.size W x) (h : Below w.heap.size w W ∧ W.cell? a = some v0 ∧ W.cell? b = some v1 ∧ W.cell? c = some v2 ∧ W.cell? d = some v3) :
    Below w.heap.size w x ∧ x.cell? a = some v0 ∧ x.cell? b = some v1 ∧ x.cell? c = some v2 ∧ x.cell? d = some v3 :=
  ⟨bt h.1 hb, later hb h.2.1, later hb h.2.2.1, later hb h.2.2.2.1, later hb h.2.2.2.2⟩

theorem may_parts {t f k : Int} {z : Nat} (h : mayB t f k z = true) : (0 ≤ t ∧ t ≤ 281474976710655) ∧ (0 ≤ f ∧ f ≤ 281474976710655) ∧ f / 1099511627776 % 2 = 0 ∧ (1536 ≤ k ∧ k ≤ 65535) ∧ z ≤ 1500 := of_decide_eq_true h

theorem put_six (n : Int) (w : World) (h : 0 ≤ n ∧ n ≤ 281474976710655) :
    Calls Try.prog 22 #[.int .i64 n, .int .i64 6] w fun e w' => e = .returned (.tuple #[.string (txt n 6), .int .i64 0]) ∧ Below w.heap.size w w' := by
  have hp : putB n 6 = true := putB_t ⟨by decide, by decide, h.1, by have := h.2; simp; omega⟩
  have := pput_any n 6 w
  unfold putV at this
  rw [hp] at this
  exact this
theorem put_two (n : Int) (w : World) (h : 0 ≤ n ∧ n ≤ 65535) :
    Calls Try.prog 22 #[.int .i64 n, .int .i64 2] w fun e w' => e = .returned (.tuple #[.string (txt n 2), .int .i64 0]) ∧ Below w.heap.size w w' := by
  have hp : putB n 2 = true := putB_t ⟨by decide, by decide, h.1, by have := h.2; simp; omega⟩
  have := pput_any n 2 w
  unfold putV at this
  rw [hp] at this
  exact this

set_option maxHeartbeats 1000000 in
theorem enc_any (t f k : Int) (d : ByteArray) (w : World) (hd : d.size ≤ maxLen) :
    Calls Try.prog 7 #[.agg #[.int .i64 t, .int .i64 f, .int .i64 k, .string d]] w fun e w' => e = .returned (.tuple #[.string (encV t f k d), .int .i64 (codeE (mayB t f k d.size))]) ∧ Below w.heap.size w w' := by
  obtain ⟨c0, c1, c2, c3⟩ := box4 w (.int .i64 t) (.int .i64 f) (.int .i64 k) (.string d) 23
  have hbel := bel1 w
  unfold encV
  rcases Bool.eq_false_or_eq_true (mayB t f k d.size) with h | h
  · obtain ⟨ht, hf, _, ⟨k0, k1⟩, z⟩ := may_parts h
    have H : Hid (mayB t f k d.size = true) := h
    rw [h, if_pos rfl]
    have z1 := txt_size t 6
    have z2 := txt_size f 6
    have z3 := txt_size k 2
    go_enter Try.func7, Try.ntmps7
    go_wp2_with fail
    refine (may_any _ _ _ _ _ hd).mono ?_
    rintro e w1 ⟨rfl, hb1⟩
    have c0' := later hb1 c0
    go_wp2_with fail
    refine (put_six _ _ ht).mono ?_
    rintro e w2 ⟨rfl, hb2⟩
    have c1' := later hb2 (later hb1 c1)
    go_wp2_with fail
    refine (put_six _ _ hf).mono ?_
    rintro e w3 ⟨rfl, hb3⟩
    have c2' := later hb3 (later hb2 (later hb1 c2))
    go_wp2_with fail
    refine (put_two _ _ ⟨by omega, k1⟩).mono ?_
    rintro e w4 ⟨rfl, hb4⟩
    have c3' := later hb4 (later hb3 (later hb2 (later hb1 c3)))
    go_wp2
    go_ret2
    exact ⟨rfl, bt (bt (bt (bt (hbel _) hb1) hb2) hb3) hb4⟩
  · rw [h, if_neg (by simp)]
    go_enter Try.func7, Try.ntmps7
    go_wp2_with fail
    refine (may_any _ _ _ _ _ hd).mono ?_
    rintro e w1 ⟨rfl, hb1⟩
    go_wp2
    go_ret2
    exact ⟨rfl, bt (hbel _) hb1⟩

end Go.Proofs.Ytbppijgceacepaa
