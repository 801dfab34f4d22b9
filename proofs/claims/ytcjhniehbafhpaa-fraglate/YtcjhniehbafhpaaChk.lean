/- The contracts of the document's Check and Whole of IP packets, and of package ip's Check, Whole and Hop: each returns just the values named here; nothing that was there turns. -/
import Derived.Test.YtcjhniehbafhpaaPks
namespace Go.Proofs.Ytcjhniehbafhpaa
open Go.RowKit
set_option maxRecDepth 100000

theorem codeP_no {b : Bool} (h : b = false) : 50 = codeP b := by rw [h]; rfl
theorem codeP_yes {b : Bool} (h : b = true) : 0 = codeP b := by rw [h]; rfl
theorem ric_t {n : Int} (h : fitB n 4294967295 = true) (w : World) : Calls Try.prog 41 #[.int .i64 n] w fun e w' => e = .returned (.int .i64 0) ∧ w' = w := by
  have := rcheck_any n w; rw [outB_f (of_decide_eq_true h)] at this; exact this
theorem ric_f {n : Int} (h : fitB n 4294967295 = false) (w : World) : Calls Try.prog 41 #[.int .i64 n] w fun e w' => e = .returned (.int .i64 1) ∧ w' = w := by
  have := rcheck_any n w; rw [outB_t (by have := of_decide_eq_false h; omega)] at this; exact this
theorem fit_no {n m : Int} (h : fitB n m = false) : n < 0 ∨ 0 ≤ n ∧ m < n := by have := of_decide_eq_false h; omega
theorem fit_yes {n m : Int} (h : fitB n m = true) : 0 ≤ n ∧ n ≤ m := of_decide_eq_true h

set_option maxRecDepth 100000 in
set_option maxHeartbeats 4000000 in
theorem rchk_bad (f t tl pr id fr : Int) (mo dn : Bool) (op da : ByteArray) (w : World) (h : fitB f 4294967295 = false ∨ fitB f 4294967295 = true ∧ fitB t 4294967295 = false) :
    Calls Try.prog 24 #[.agg #[.int .i64 f, .int .i64 t, .int .i64 tl, .int .i64 pr, .int .i64 id, .int .i64 fr, .bool mo, .bool dn, .string op, .string da]] w fun e w' => e = .returned (.int .i64 50) ∧ Below w.heap.size w w' := by
  rcases h with h1 | ⟨h1, h2⟩
  all_goals
    go_enter Try.func24, Try.ntmps24
    go_wp2_with (first | (go_at_call 41; refine (ric_f (by assumption) _).mono ?_; rintro e w1 ⟨rfl, rfl⟩) | (go_at_call 41; refine (ric_t (by assumption) _).mono ?_; rintro e w1 ⟨rfl, rfl⟩))
    all_goals
      go_ret
      exact ⟨rfl, bel1 _ _⟩

set_option maxRecDepth 100000 in
set_option maxHeartbeats 4000000 in
theorem rchk_mid (f t tl pr id fr : Int) (mo dn : Bool) (op da : ByteArray) (w : World) (ho : op.size ≤ 1125899906842624) (h1 : fitB f 4294967295 = true) (h2 : fitB t 4294967295 = true)
    (h : tl < 0 ∨ (0 ≤ tl ∧ 255 < tl) ∨ (0 ≤ tl ∧ tl ≤ 255) ∧ (pr < 0 ∨ (0 ≤ pr ∧ 255 < pr) ∨ (0 ≤ pr ∧ pr ≤ 255) ∧ (id < 0 ∨ (0 ≤ id ∧ 65535 < id) ∨ (0 ≤ id ∧ id ≤ 65535) ∧ (fr < 0 ∨ (0 ≤ fr ∧ 8191 < fr) ∨ (0 ≤ fr ∧ fr ≤ 8191) ∧ (((op.size : Int) % 4 != 0) = true ∨ ((op.size : Int) % 4 != 0) = false ∧ 40 < (op.size : Int)))))) :
    Calls Try.prog 24 #[.agg #[.int .i64 f, .int .i64 t, .int .i64 tl, .int .i64 pr, .int .i64 id, .int .i64 fr, .bool mo, .bool dn, .string op, .string da]] w fun e w' => e = .returned (.int .i64 50) ∧ Below w.heap.size w w' := by
  have ho' : (op.size : Int) ≤ 1125899906842624 := by omega
  rcases h with q | ⟨q, q1⟩ | ⟨⟨q, q1⟩, q2 | ⟨q2, q3⟩ | ⟨⟨q2, q3⟩, q4 | ⟨q4, q5⟩ | ⟨⟨q4, q5⟩, q6 | ⟨q6, q7⟩ | ⟨⟨q6, q7⟩, q8 | ⟨q8, q9⟩⟩⟩⟩⟩
  all_goals
    go_enter Try.func24, Try.ntmps24
    go_wp2_with (first | (go_at_call 41; refine (ric_t (by assumption) _).mono ?_; rintro e w1 ⟨rfl, rfl⟩))
    go_ret
    exact ⟨rfl, bel1 _ _⟩

set_option maxRecDepth 100000 in
set_option maxHeartbeats 4000000 in
theorem rchk_end (f t tl pr id fr : Int) (mo dn : Bool) (op da : ByteArray) (w : World) (b : Bool) (ho : op.size ≤ 1125899906842624) (hd : da.size ≤ 1125899906842624) (h1 : fitB f 4294967295 = true) (h2 : fitB t 4294967295 = true) (q0 : 0 ≤ tl) (q1 : tl ≤ 255) (q2 : 0 ≤ pr) (q3 : pr ≤ 255) (q4 : 0 ≤ id) (q5 : id ≤ 65535) (q6 : 0 ≤ fr) (q7 : fr ≤ 8191) (q8 : ((op.size : Int) % 4 != 0) = false) (q9 : (op.size : Int) ≤ 40)
    (h : b = false ∧ 65515 - (op.size : Int) < (da.size : Int) ∨ (da.size : Int) ≤ 65515 - (op.size : Int) ∧ (b = false ∧ mo = true ∧ (da.size : Int) = 0 ∨ b = false ∧ mo = true ∧ ((da.size : Int) == 0) = false ∧ ((da.size : Int) % 8 != 0) = true ∨ (mo = false ∨ mo = true ∧ ((da.size : Int) == 0) = false ∧ ((da.size : Int) % 8 != 0) = false) ∧ (b = false ∧ 65535 - 8 * fr < (da.size : Int) ∨ b = true ∧ (da.size : Int) ≤ 65535 - 8 * fr))) :
    Calls Try.prog 24 #[.agg #[.int .i64 f, .int .i64 t, .int .i64 tl, .int .i64 pr, .int .i64 id, .int .i64 fr, .bool mo, .bool dn, .string op, .string da]] w fun e w' => e = .returned (.int .i64 (codeP b)) ∧ Below w.heap.size w w' := by
  have ho' : (op.size : Int) ≤ 1125899906842624 := by omega
  have hd' : (da.size : Int) ≤ 1125899906842624 := by omega
  rcases h with ⟨rfl, a1⟩ | ⟨a1, ⟨rfl, rfl, a2⟩ | ⟨rfl, rfl, a2, a3⟩ | ⟨rfl | ⟨rfl, a2, a3⟩, ⟨rfl, a4⟩ | ⟨rfl, a4⟩⟩⟩
  all_goals
    go_enter Try.func24, Try.ntmps24
    go_wp2_with (first | (go_at_call 41; refine (ric_t (by assumption) _).mono ?_; rintro e w1 ⟨rfl, rfl⟩))
    go_ret
    exact ⟨rfl, bel1 _ _⟩

theorem rchk_any (f t tl pr id fr : Int) (mo dn : Bool) (op da : ByteArray) (w : World) (ho : op.size ≤ 1125899906842624) (hd : da.size ≤ 1125899906842624) :
    Calls Try.prog 24 #[.agg #[.int .i64 f, .int .i64 t, .int .i64 tl, .int .i64 pr, .int .i64 id, .int .i64 fr, .bool mo, .bool dn, .string op, .string da]] w fun e w' => e = .returned (.int .i64 (codeP (mayP f t tl pr id fr mo op.size da.size))) ∧ Below w.heap.size w w' := by
  rcases may_ways f t tl pr id fr mo op.size da.size with ⟨hm, a1⟩ | ⟨hm, a1, a2⟩ | ⟨hm, a1, a2, a3⟩ | ⟨hm, a1, a2, a3, a4⟩ | ⟨hm, a1, a2, a3, a4, a5⟩ | ⟨hm, a1, a2, a3, a4, a5, a6⟩ | ⟨hm, a1, a2, a3, a4, a5, a6, a7⟩ | ⟨hm, a1, a2, a3, a4, a5, a6, a7, a8⟩ | ⟨hm, a1, a2, a3, a4, a5, a6, a7, a8, a9, b0⟩
  · rw [hm]; exact rchk_bad f t tl pr id fr mo dn op da w (.inl a1)
  · rw [hm]; exact rchk_bad f t tl pr id fr mo dn op da w (.inr ⟨a1, a2⟩)
  · rw [hm]; refine rchk_mid f t tl pr id fr mo dn op da w ho a1 a2 ?_
    rcases fit_no a3 with q | q
    · exact .inl q
    · exact .inr (.inl q)
  · rw [hm]; refine rchk_mid f t tl pr id fr mo dn op da w ho a1 a2 (.inr (.inr ⟨fit_yes a3, ?_⟩))
    rcases fit_no a4 with q | q
    · exact .inl q
    · exact .inr (.inl q)
  · rw [hm]; refine rchk_mid f t tl pr id fr mo dn op da w ho a1 a2 (.inr (.inr ⟨fit_yes a3, .inr (.inr ⟨fit_yes a4, ?_⟩)⟩))
    rcases fit_no a5 with q | q
    · exact .inl q
    · exact .inr (.inl q)
  · rw [hm]; refine rchk_mid f t tl pr id fr mo dn op da w ho a1 a2 (.inr (.inr ⟨fit_yes a3, .inr (.inr ⟨fit_yes a4, .inr (.inr ⟨fit_yes a5, ?_⟩)⟩)⟩))
    rcases fit_no a6 with q | q
    · exact .inl q
    · exact .inr (.inl q)
  · rw [hm]; refine rchk_mid f t tl pr id fr mo dn op da w ho a1 a2 (.inr (.inr ⟨fit_yes a3, .inr (.inr ⟨fit_yes a4, .inr (.inr ⟨fit_yes a5, .inr (.inr ⟨fit_yes a6, .inl ?_⟩)⟩)⟩)⟩))
    simpa using a7
  · rw [hm]; refine rchk_mid f t tl pr id fr mo dn op da w ho a1 a2 (.inr (.inr ⟨fit_yes a3, .inr (.inr ⟨fit_yes a4, .inr (.inr ⟨fit_yes a5, .inr (.inr ⟨fit_yes a6, .inr ⟨?_, a8⟩⟩)⟩)⟩)⟩))
    simpa using a7
  · rw [hm]
    refine rchk_end f t tl pr id fr mo dn op da w _ ho hd a1 a2 (fit_yes a3).1 (fit_yes a3).2 (fit_yes a4).1 (fit_yes a4).2 (fit_yes a5).1 (fit_yes a5).2 a9 b0 (by simpa using a7) a8 ?_
    by_cases g1 : 65515 - (op.size : Int) < (da.size : Int)
    · exact .inl ⟨dataB_f (fun h => by have := h.2.1; omega), g1⟩
    · refine .inr ⟨by omega, ?_⟩
      by_cases g2 : mo = true ∧ (da.size : Int) = 0
      · exact .inl ⟨dataB_f (fun h => by have := (h.1 g2.1).1; omega), g2.1, g2.2⟩
      · by_cases g3 : mo = true ∧ ((da.size : Int) % 8 != 0) = true
        · refine .inr (.inl ⟨dataB_f (fun h => ?_), g3.1, ?_, g3.2⟩)
          · have := (h.1 g3.1).2
            have g4 := g3.2
            rw [bne_iff_ne] at g4
            omega
          · rw [beq_eq_false_iff_ne]; exact fun e => g2 ⟨g3.1, e⟩
        · have hmo : mo = false ∨ mo = true ∧ ((da.size : Int) == 0) = false ∧ ((da.size : Int) % 8 != 0) = false := by
            cases mo
            · exact .inl rfl
            · refine .inr ⟨rfl, by rw [beq_eq_false_iff_ne]; exact fun e => g2 ⟨rfl, e⟩, ?_⟩
              simpa using g3
          refine .inr (.inr ⟨hmo, ?_⟩)
          by_cases g5 : 65535 - 8 * fr < (da.size : Int)
          · exact .inl ⟨dataB_f (fun h => by have := h.2.2; omega), g5⟩
          · refine .inr ⟨dataB_t ⟨fun e => ?_, by omega, by omega⟩, by omega⟩
            rcases hmo with h | ⟨_, k1, k2⟩
            · rw [h] at e; cases e
            · rw [beq_eq_false_iff_ne] at k1
              rw [bne_eq_false_iff_eq] at k2
              omega
theorem rchk_t {f t tl pr id fr : Int} {mo dn : Bool} {op da : ByteArray} (h : mayP f t tl pr id fr mo op.size da.size = true) (w : World) (ho : op.size ≤ 1125899906842624) (hd : da.size ≤ 1125899906842624) : Calls Try.prog 24 #[.agg #[.int .i64 f, .int .i64 t, .int .i64 tl, .int .i64 pr, .int .i64 id, .int .i64 fr, .bool mo, .bool dn, .string op, .string da]] w fun e w' => e = .returned (.int .i64 0) ∧ Below w.heap.size w w' := by
  have := rchk_any f t tl pr id fr mo dn op da w ho hd; rw [h] at this; exact this
theorem rchk_f {f t tl pr id fr : Int} {mo dn : Bool} {op da : ByteArray} (h : mayP f t tl pr id fr mo op.size da.size = false) (w : World) (ho : op.size ≤ 1125899906842624) (hd : da.size ≤ 1125899906842624) : Calls Try.prog 24 #[.agg #[.int .i64 f, .int .i64 t, .int .i64 tl, .int .i64 pr, .int .i64 id, .int .i64 fr, .bool mo, .bool dn, .string op, .string da]] w fun e w' => e = .returned (.int .i64 50) ∧ Below w.heap.size w w' := by
  have := rchk_any f t tl pr id fr mo dn op da w ho hd; rw [h] at this; exact this

theorem chk_t {f t tl pr id fr : Int} {mo dn : Bool} {op da : ByteArray} (h : mayP f t tl pr id fr mo op.size da.size = true) (w : World) (ho : op.size ≤ 1125899906842624) (hd : da.size ≤ 1125899906842624) : Calls Try.prog 17 #[.agg #[.int .i64 f, .int .i64 t, .int .i64 tl, .int .i64 pr, .int .i64 id, .int .i64 fr, .bool mo, .bool dn, .string op, .string da]] w fun e w' => e = .returned (.int .i64 0) ∧ Below w.heap.size w w' := by
  have hl := bel1 w (.cells #[.int .i64 f, .int .i64 t, .int .i64 tl, .int .i64 pr, .int .i64 id, .int .i64 fr, .bool mo, .bool dn, .string op, .string da] 32)
  go_enter Try.func17, Try.ntmps17
  go_wp2_with fail
  refine (mp_t h _ ho hd).mono ?_
  rintro e w1 ⟨rfl, hb⟩
  go_wp2
  go_ret
  exact ⟨rfl, bt hl hb⟩
theorem chk_f {f t tl pr id fr : Int} {mo dn : Bool} {op da : ByteArray} (h : mayP f t tl pr id fr mo op.size da.size = false) (w : World) (ho : op.size ≤ 1125899906842624) (hd : da.size ≤ 1125899906842624) : Calls Try.prog 17 #[.agg #[.int .i64 f, .int .i64 t, .int .i64 tl, .int .i64 pr, .int .i64 id, .int .i64 fr, .bool mo, .bool dn, .string op, .string da]] w fun e w' => e = .returned (.int .i64 50) ∧ Below w.heap.size w w' := by
  have hl := bel1 w (.cells #[.int .i64 f, .int .i64 t, .int .i64 tl, .int .i64 pr, .int .i64 id, .int .i64 fr, .bool mo, .bool dn, .string op, .string da] 32)
  go_enter Try.func17, Try.ntmps17
  go_wp2_with fail
  refine (mp_f h _ ho hd).mono ?_
  rintro e w1 ⟨rfl, hb⟩
  go_wp2
  go_ret
  exact ⟨rfl, bt hl hb⟩
def wholeB (fr : Int) (mo : Bool) : Bool := decide (fr = 0) && !mo
theorem whl_any (f t tl pr id fr : Int) (mo dn : Bool) (op da : ByteArray) (w : World) : Calls Try.prog 22 #[.agg #[.int .i64 f, .int .i64 t, .int .i64 tl, .int .i64 pr, .int .i64 id, .int .i64 fr, .bool mo, .bool dn, .string op, .string da]] w fun e w' => e = .returned (.bool (wholeB fr mo)) ∧ Below w.heap.size w w' := by
  unfold wholeB
  by_cases h : fr = 0
  · rw [decide_eq_true h]
    go_enter Try.func22, Try.ntmps22
    go_wp2
    go_ret
    exact ⟨ret_bool (by simp), bel1 _ _⟩
  · rw [decide_eq_false h]
    have h' : (fr == 0) = false := by simpa using h
    go_enter Try.func22, Try.ntmps22
    go_wp2
    go_ret
    exact ⟨rfl, bel1 _ _⟩
theorem rwhl_any (f t tl pr id fr : Int) (mo dn : Bool) (op da : ByteArray) (w : World) : Calls Try.prog 25 #[.agg #[.int .i64 f, .int .i64 t, .int .i64 tl, .int .i64 pr, .int .i64 id, .int .i64 fr, .bool mo, .bool dn, .string op, .string da]] w fun e w' => e = .returned (.bool (wholeB fr mo)) ∧ Below w.heap.size w w' := by
  unfold wholeB
  by_cases h : fr = 0
  · rw [decide_eq_true h]
    go_enter Try.func25, Try.ntmps25
    go_wp2
    go_ret
    exact ⟨ret_bool (by simp), bel1 _ _⟩
  · rw [decide_eq_false h]
    have h' : (fr == 0) = false := by simpa using h
    go_enter Try.func25, Try.ntmps25
    go_wp2
    go_ret
    exact ⟨rfl, bel1 _ _⟩

end Go.Proofs.Ytcjhniehbafhpaa
