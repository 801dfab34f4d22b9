/- A call of both queues: the same answer, and they say the same still. -/
import Derived.Test.YtlbdecjppgjdiaaDTk
namespace Go.Proofs.Ytlbdecjppgjdiaa
open Go.RowKit Go.Maps Go.Lib
set_option maxRecDepth 100000
set_option linter.unusedVariables false
set_option linter.unusedSimpArgs false


def DN (w w2 : World) (R : Bk) (q r : Nat) : Prop := ∃ Q' U' vb' vp' vg', PX w2 R q r Q' U' vb' vp' vg' ∧ TB R w w2
section
variable {w : World} {R : Bk} {q r : Nat} {Q : Qu} {U : Ru} {vb vp vg : Value}
theorem pair_write (h : PX w R q r Q U vb vp vg) (t : ByteArray) (ht : t.size ≤ 1000000) :
    ∃ x c : Int, Calls Try.prog 13 #[PQ q, .string t] w fun e w1 => e = .returned (.tuple #[.int .i64 x, .int .i64 c]) ∧ TB R w w1 ∧ Calls Try.prog 29 #[PR r, .string t] w1 fun e w2 => e = .returned (.tuple #[.int .i64 x, .int .i64 c]) ∧ DN w w2 R q r := by
  cases hb : fullB Q t with
  | true =>
    refine ⟨0, 150, (write_full h.x h.f t hb).mono ?_⟩
    rintro e w1 ⟨rfl, b1⟩
    have h1 := h.later b1
    refine ⟨rfl, TY.of_below b1, (rwrite_full h1.y (h.l.fine h.f) t (by rw [h.l.full]; exact hb)).mono ?_⟩
    rintro e w2 ⟨rfl, b2⟩
    exact ⟨rfl, Q, U, vb, vp, vg, h1.later b2, (TY.of_below b1).later b2⟩
  | false =>
    refine ⟨(wrN Q t : Int), 0, (write_t h.x h.f h.sz t ht hb).mono ?_⟩
    rintro e w1 ⟨rfl, ⟨vb1, x1⟩, t1⟩
    have y1 := h.y.keep t1 (by decide) (by decide)
    have hc := rwrite_t y1 (h.l.fine h.f) (h.sz.up t1.size) t ht (by rw [h.l.full]; exact hb)
    rw [h.l.wrN] at hc
    refine ⟨rfl, TK.tb t1, hc.mono ?_⟩
    rintro e w2 ⟨rfl, ⟨vg2, y2⟩, t2⟩
    exact ⟨rfl, _, _, _, _, _, ⟨x1.keep t2 (by decide) (by decide) (by decide), y2, h.l.write h.f t, wrQ_fine h.f t, (h.sz.up t1.size).up t2.size⟩, (TK.tb t1).trans (TD.tb t2)⟩
theorem pair_ack (h : PX w R q r Q U vb vp vg) (n : Int) :
    ∃ x c : Int, Calls Try.prog 20 #[PQ q, .int .i64 n] w fun e w1 => e = .returned (.tuple #[.int .i64 x, .int .i64 c]) ∧ TB R w w1 ∧ Calls Try.prog 30 #[PR r, .int .i64 n] w1 fun e w2 => e = .returned (.tuple #[.int .i64 x, .int .i64 c]) ∧ DN w w2 R q r := by
  cases hb : placeB Q n with
  | false =>
    refine ⟨0, 1, (ack_f h.x h.f n hb).mono ?_⟩
    rintro e w1 ⟨rfl, b1⟩
    have h1 := h.later b1
    refine ⟨rfl, TY.of_below b1, (rack_f h1.y (h.l.fine h.f) n (by rw [h.l.roB]; exact hb)).mono ?_⟩
    rintro e w2 ⟨rfl, rfl⟩
    exact ⟨rfl, Q, U, vb, vp, vg, h1, TY.of_below b1⟩
  | true =>
    refine ⟨(offN Q n : Int), 0, (ack_t h.x h.f n hb).mono ?_⟩
    rintro e w1 ⟨rfl, ⟨vb1, vp1, x1⟩, t1⟩
    have y1 := h.y.keep t1 (by decide) (by decide)
    have hc := rack_t y1 (h.l.fine h.f) (h.sz.up t1.size) n (by rw [h.l.roB]; exact hb)
    rw [h.l.roN] at hc
    refine ⟨rfl, TK.tb t1, hc.mono ?_⟩
    rintro e w2 ⟨rfl, ⟨vg2, y2⟩, t2⟩
    exact ⟨rfl, _, _, _, _, _, ⟨x1.keep t2 (by decide) (by decide) (by decide), y2, h.l.ack n, ackQ_fine h.f hb, (h.sz.up t1.size).up t2.size⟩, (TK.tb t1).trans (TD.tb t2)⟩
theorem snd0 {Q : Qu} {M : Int} (hM : M ≤ 0) : sndQ Q M = Q ∧ sndS Q M = [] := by
  have e : sndN Q M = 0 := by unfold sndN; omega
  obtain ⟨a, b, c, d, f⟩ := Q
  unfold sndQ sndS
  rw [e]
  exact ⟨rfl, rfl⟩
theorem pair_next (h : PX w R q r Q U vb vp vg) (n m : Int) (hn : n ≤ 9223372036854775807) (hm : -9223372036854775808 ≤ m) :
    ∃ (x : Int) (s : ByteArray), Calls Try.prog 18 #[PQ q, .int .i64 n, .int .i64 m] w fun e w1 => e = .returned (.tuple #[.int .i64 x, .string s]) ∧ TB R w w1 ∧ Calls Try.prog 31 #[PR r, .int .i64 n, .int .i64 m] w1 fun e w2 => e = .returned (.tuple #[.int .i64 x, .string s]) ∧ DN w w2 R q r := by
  refine ⟨nxA Q, strB (sndS Q (min (max n 0 - (Q.sent : Int)) m)), (next_any h.x h.f n m hn hm).mono ?_⟩
  rintro e w1 ⟨rfl, x1, t1⟩
  have y1 := h.y.keep t1 (by decide) (by decide)
  have eA : rnA U = nxA Q := by show (U.left + (U.sent : Int)) % _ = _; rw [h.l.left, h.l.sent]
  refine ⟨rfl, TK.tb t1, ?_⟩
  by_cases hno : n < 1 ∨ m < 1 ∨ n ≤ (U.sent : Int)
  · have hM : min (max n 0 - (Q.sent : Int)) m ≤ 0 := by have := h.l.sent; omega
    obtain ⟨e1, e2⟩ := snd0 (Q := Q) hM
    refine (rnext_no y1 (h.l.fine h.f) n m hno).mono ?_
    rintro e w2 ⟨rfl, b2⟩
    rw [eA, e2]
    refine ⟨rfl, Q, U, vb, vp, vg, ⟨(x1.eq e1).later b2, y1.later b2, h.l, h.f, (h.sz.up t1.size).up b2.size⟩, (TK.tb t1).later b2⟩
  · have hc := rnext_yes y1 (h.l.fine h.f) n m (by omega) (by omega) (by omega) hn
    rw [eA, h.l.rsS, h.l.sent] at hc
    refine hc.mono ?_
    rintro e w2 ⟨rfl, y2, t2⟩
    exact ⟨rfl, _, _, _, _, _, ⟨x1.keep t2 (by decide) (by decide) (by decide), y2, h.l.send _, sndQ_fine h.f _, (h.sz.up t1.size).up t2.size⟩, (TK.tb t1).trans (TD.tb t2)⟩
theorem pair_apart (h : PX w R q r Q U vb vp vg) {v : Value} {rs : List Rg} (hr : RR w v rs) (hl : rs.length ≤ 100000) :
    ∃ W : World → Prop, Calls Try.prog 23 #[PQ q, v] w fun e w1 => ∃ x : Int, e = .returned (.int .i64 x) ∧ TB R w w1 ∧ Calls Try.prog 32 #[PR r, v] w1 fun e w2 => e = .returned (.int .i64 x) ∧ DN w w2 R q r := by
  refine ⟨fun _ => True, (apart_any h.x h.f h.sz hr hl).mono ?_⟩
  rintro e w1 ⟨L, vp1, rfl, hA, x1, t1⟩
  have y1 := h.y.keep t1 (by decide) (by decide)
  have hr1 := hr.keep t1 (by decide)
  refine ⟨_, rfl, TK.tb t1, (rapart_any y1 (h.l.fine h.f) hr1 hl).mono ?_⟩
  rintro e w2 ⟨G, rfl, hG, y2, t2⟩
  have hl2 := h.l.apart h.f hA hG
  have hf2 : ({ Q with ps := L } : Qu).Fine := ⟨h.f.r0, h.f.r1, h.f.l0, h.f.l1, h.f.ln, h.f.sn, hA.1⟩
  have hcnt := hl2.count hf2
  refine ⟨?_, _, _, _, _, _, ⟨x1.keep t2 (by decide) (by decide) (by decide), y2, hl2, hf2, (h.sz.up t1.size).up t2.size⟩, (TK.tb t1).trans (TD.tb t2)⟩
  have : cntG G U.sent = sumP L := hcnt
  rw [this]
theorem pair_hole (h : PX w R q r Q U vb vp vg) (m : Int) (hm : -9223372036854775808 ≤ m) :
    ∃ (x : Int) (s : ByteArray), Calls Try.prog 21 #[PQ q, .int .i64 m] w fun e w1 => e = .returned (.tuple #[.int .i64 x, .string s]) ∧ TB R w w1 ∧ Calls Try.prog 33 #[PR r, .int .i64 m] w1 fun e w2 => e = .returned (.tuple #[.int .i64 x, .string s]) ∧ DN w w2 R q r := by
  refine ⟨hlA Q m, strB (hlS Q m), (Hole_any h.x h.f m).mono ?_⟩
  rintro e w1 ⟨rfl, b1⟩
  have h1 := h.later b1
  have hc := rhole_any h1.y (h.l.fine h.f) (h.l.hole h.f) m hm
  rw [h.l.left, h.l.bs] at hc
  refine ⟨rfl, TY.of_below b1, hc.mono ?_⟩
  rintro e w2 ⟨rfl, b2⟩
  exact ⟨rfl, Q, U, vb, vp, vg, h1.later b2, (TY.of_below b1).later b2⟩
theorem pair_probe (h : PX w R q r Q U vb vp vg) :
    ∃ (x : Int) (s : ByteArray), Calls Try.prog 14 #[PQ q] w fun e w1 => e = .returned (.tuple #[.int .i64 x, .string s]) ∧ TB R w w1 ∧ Calls Try.prog 34 #[PR r] w1 fun e w2 => e = .returned (.tuple #[.int .i64 x, .string s]) ∧ DN w w2 R q r := by
  have hl0 := h.f.l0
  have hl1 := h.f.l1
  rcases Nat.eq_zero_or_pos Q.sent with h0 | h0
  · have eA : nxA Q = Q.left := by show (Q.left + (Q.sent : Int)) % _ = _; rw [h0]; omega
    refine ⟨Q.left, strB (sndS Q 1), ?_⟩
    have hc0 := probe_no h.x h.f h0
    rw [eA] at hc0
    refine hc0.mono ?_
    rintro e w1 ⟨rfl, x1, t1⟩
    have y1 := h.y.keep t1 (by decide) (by decide)
    have hu0 : U.sent = 0 := by rw [h.l.sent]; exact h0
    refine ⟨rfl, TK.tb t1, ?_⟩
    by_cases hb : Q.bs = []
    · have hbl : Q.bs.length = 0 := by rw [hb]; rfl
      have hn : sndN Q 1 = 0 := by unfold sndN; omega
      have e1 : sndQ Q 1 = Q := by obtain ⟨a, b, c, d, f⟩ := Q; unfold sndQ; rw [hn]; rfl
      have e2 : sndS Q 1 = [] := by unfold sndS; rw [hn]; rfl
      refine (rprobe_none y1 hu0 (by rw [h.l.bs]; exact hb)).mono ?_
      rintro e w2 ⟨rfl, b2⟩
      rw [h.l.left, e2]
      exact ⟨rfl, Q, U, vb, vp, vg, ⟨(x1.eq e1).later b2, y1.later b2, h.l, h.f, (h.sz.up t1.size).up b2.size⟩, (TK.tb t1).later b2⟩
    · have hpos : 0 < Q.bs.length := List.length_pos_iff.2 hb
      have hn : sndN Q 1 = 1 := by unfold sndN; rw [h0]; omega
      have e2 : sndS Q 1 = Q.bs.take 1 := by unfold sndS; rw [hn, h0]; rfl
      refine (rprobe_new y1 (h.l.fine h.f) hu0 (by rw [h.l.bs]; exact hb)).mono ?_
      rintro e w2 ⟨rfl, y2, t2⟩
      rw [h.l.left, h.l.bs, e2]
      refine ⟨rfl, _, _, _, _, _, ⟨x1.keep t2 (by decide) (by decide) (by decide), y2, ?_, sndQ_fine h.f 1, (h.sz.up t1.size).up t2.size⟩, (TK.tb t1).trans (TD.tb t2)⟩
      exact ⟨h.l.room, h.l.left, by show 1 = Q.sent + sndN Q 1; rw [h0, hn], h.l.bs, h.l.gl, h.l.iff⟩
  · refine ⟨Q.left, strB (Q.bs.take 1), (probe_yes h.x h.f h0).mono ?_⟩
    rintro e w1 ⟨rfl, b1⟩
    have h1 := h.later b1
    have hc := rprobe_yes h1.y (h.l.fine h.f) (by rw [h.l.sent]; exact h0)
    rw [h.l.left, h.l.bs] at hc
    refine ⟨rfl, TY.of_below b1, hc.mono ?_⟩
    rintro e w2 ⟨rfl, b2⟩
    exact ⟨rfl, Q, U, vb, vp, vg, h1.later b2, (TY.of_below b1).later b2⟩
end
end Go.Proofs.Ytlbdecjppgjdiaa
