/- Two queues of two layers side by side; the example. -/
import Derived.Test.YtkclookpdngkoaaKb
namespace Go.Proofs.Ytkclookpdngkoaa
open Go.RowKit Go.Maps Go.Lib
set_option maxRecDepth 100000
set_option linter.unusedVariables false
set_option linter.unusedSimpArgs false

abbrev PQ (q : Nat) : Value := .pointer (some ⟨q, 0, none⟩)
/-- What one of the calls leaves alone. -/
structure Kp (base : Nat) (A : V.Bk) (W W' : World) : Prop where
  below : Below base W W'
  kd : ∀ b t, S.Kd W b t → t ∉ ([53, 5, 58] : List TypeId) → ¬ A b → W'.heap[b]? = W.heap[b]?
theorem Kp.of_below {base : Nat} {A : V.Bk} {W W' : World} (h : Below W.heap.size W W') (hb : base ≤ W.heap.size) : Kp base A W W' := ⟨h.mono hb, fun b t hk _ _ => h.block b hk.lt⟩
theorem Kp.of_v {base : Nat} {A : V.Bk} {W W' : World} (h : V.Turn A W W') (hb : base ≤ W.heap.size) (lo : ∀ k, A k → base ≤ k) : Kp base A W W' := ⟨V.below_of_turn h hb lo, fun b t hk _ hn => h.block b hk.lt hn⟩
theorem Kp.of_s {base : Nat} {A : V.Bk} {W W' : World} (h : S.TK (fun k => base ≤ k ∧ ¬ A k) W W') (hb : base ≤ W.heap.size) : Kp base A W W' := ⟨h.below hb (fun k hk => hk.1), fun b t hk ht _ => h.kd hk ht⟩
/-- A box of the walk's own. -/
structure BX (W : World) (A : V.Bk) (b : Nat) (vs : Array Value) : Prop where
  at_ : S.At W b vs
  kd : S.Kd W b 33
  na : ¬ A b
theorem At.heap {W W' : World} {b : Nat} {vs : Array Value} (h : S.At W b vs) (hs : W.heap.size ≤ W'.heap.size) (he : W'.heap[b]? = W.heap[b]?) : S.At W' b vs :=
  ⟨Nat.lt_of_lt_of_le h.1 hs, fun i v hv => by
    obtain ⟨h1, h2⟩ := h.2 i v hv
    exact ⟨(World.cell?_of_block he).trans h1, (World.frozen?_of_block he).trans h2⟩⟩
theorem BX.keep {base : Nat} {A A' : V.Bk} {W W' : World} {b : Nat} {vs : Array Value} (h : BX W A b vs) (k : Kp base A W W') (g : V.Gr W.heap.size A A') : BX W' A' b vs := by
  have he := k.kd b 33 h.kd (by decide) h.na
  refine ⟨At.heap h.at_ k.below.size he, ?_, fun ha => ?_⟩
  · obtain ⟨c, fz, hc⟩ := h.kd
    exact ⟨c, fz, he.trans hc⟩
  · rcases g b ha with q | q
    · exact h.na q
    · have := h.kd.lt; omega
theorem BX.box {A : V.Bk} {W : World} (vs : Array Value) (lw : V.Lw W A) : BX (W.alloc (.cells vs 33)) A W.heap.size vs :=
  ⟨S.At.box _ _ _, S.Kd.box _ _ _, fun h => by have := lw _ h; omega⟩
theorem BX.later {A : V.Bk} {W W' : World} {b : Nat} {vs : Array Value} (h : BX W A b vs) (hb : Below W.heap.size W W') : BX W' A b vs := ⟨h.at_.later hb, h.kd.later hb, h.na⟩
/-- Both queues. -/
structure PJ (base : Nat) (W : World) (A : V.Bk) (q g : Nat) (Q : S.Qu) (P : V.Rq) : Prop where
  sx : ∃ vb vp, S.QX W (fun k => base ≤ k ∧ ¬ A k) q Q vb vp
  sf : Q.Fine
  vx : V.QX W A g P
  vf : P.Fine
  lo : ∀ k, A k → base ≤ k
  bs : base ≤ W.heap.size
theorem own_move {w : World} {R R' : V.Bk} {e : TypeId} {size : Nat} {v : Value} {n : Nat} {xs : List Value} (h : S.OwnP w R e size v n xs) (hm : ∀ k, R k → k < w.heap.size → R' k) : S.OwnP w R' e size v n xs :=
  ⟨h.1, h.2.imp id (fun ⟨g, cap, cur, hv, hg, hb, r⟩ => ⟨g, cap, cur, hv, hm g hg (Array.getElem?_eq_some_iff.1 hb).1, hb, r⟩)⟩
theorem sx_move {w : World} {R R' : V.Bk} {q : Nat} {Q : S.Qu} {vb vp : Value} (h : S.QX w R q Q vb vp) (hm : ∀ k, R k → k < w.heap.size → R' k) : S.QX w R' q Q vb vp := ⟨h.at5, h.kd, hm q h.ge h.kd.lt, own_move h.bo hm, own_move h.po hm⟩
theorem sx_v {W W' : World} {base : Nat} {A A' : V.Bk} {q : Nat} {Q : S.Qu} {vb vp : Value} (h : S.QX W (fun k => base ≤ k ∧ ¬ A k) q Q vb vp) (ht : V.Turn A W W') (hg : V.Gr W.heap.size A A') : S.QX W' (fun k => base ≤ k ∧ ¬ A' k) q Q vb vp := by
  have h1 : S.QX W (fun k => base ≤ k ∧ ¬ A' k ∧ ¬ A k) q Q vb vp := sx_move h (fun k hk hl => ⟨hk.1, fun ha => by
    rcases hg k ha with q1 | q1
    · exact hk.2 q1
    · omega, hk.2⟩)
  have ht' : S.Turn A W W' := ⟨ht.os, ht.tape, ht.output, ht.size, ht.block⟩
  have hn : ∀ k, (base ≤ k ∧ ¬ A' k ∧ ¬ A k) → ¬ A k := fun k hk => hk.2.2
  have hkd : S.Kd W' q 53 := by
    obtain ⟨c, fz, hc⟩ := h.kd
    exact ⟨c, fz, (ht.block q h.kd.lt h.ge.2).trans hc⟩
  have h2 : S.QX W' (fun k => base ≤ k ∧ ¬ A' k ∧ ¬ A k) q Q vb vp := ⟨h1.at5.turn ht' h.ge.2, hkd, h1.ge, S.row_turn h1.bo ht' (fun k hk => hn k (h1.bo.blk k hk)), S.row_turn h1.po ht' (fun k hk => hn k (h1.po.blk k hk))⟩
  exact sx_move h2 (fun k hk _ => ⟨hk.1, hk.2.1⟩)
theorem vx_s {W W' : World} {base : Nat} {A : V.Bk} {g : Nat} {P : V.Rq} (h : V.QX W A g P) (ht : S.TK (fun k => base ≤ k ∧ ¬ A k) W W') : V.QX W' A g P := by
  have ht' : V.Turn (fun k => (base ≤ k ∧ ¬ A k) ∧ ∃ t ∈ ([53, 5, 58] : List TypeId), S.Kd W k t) W W' := ⟨ht.os, ht.tape, ht.output, ht.size, ht.block⟩
  exact h.turn ht' (fun k hk ha => hk.1.2 ha)
theorem PJ.later {base : Nat} {W W' : World} {A : V.Bk} {q g : Nat} {Q : S.Qu} {P : V.Rq} (h : PJ base W A q g Q P) (hb : Below W.heap.size W W') : PJ base W' A q g Q P := by
  obtain ⟨⟨vb, vp, hs⟩, hf, hv, hf2, lo, bs⟩ := h
  exact ⟨⟨vb, vp, hs.later hb⟩, hf, hv.later hb, hf2, lo, Nat.le_trans bs hb.size⟩
section
variable {base : Nat} {W : World} {A : V.Bk} {q g : Nat} {Q : S.Qu} {P : V.Rq}
theorem PJ.up (h : PJ base W A q g Q P) : S.UpR (fun k => base ≤ k ∧ ¬ A k) W := fun k hk => ⟨Nat.le_trans h.bs hk, fun ha => by have := h.vx.lw k ha; omega⟩
theorem full_is {Q : S.Qu} {b : ByteArray} (hf : S.fullB Q b = true) (hq : Q.Fine) : S.wrN Q b = 0 ∧ S.wrQ Q b = Q := by
  unfold S.fullB at hf
  rw [Bool.and_eq_true, decide_eq_true_eq, decide_eq_true_eq] at hf
  have h0 : S.wrN Q b = 0 := by unfold S.wrN; omega
  refine ⟨h0, ?_⟩
  unfold S.wrQ
  rw [h0, List.take_zero, List.append_nil]
theorem pj_write (h : PJ base W A q g Q P) (b : ByteArray) (hs : b.size ≤ 1000000) :
    Calls Try.prog 8 #[PQ q, .string b] W fun e W' => ∃ c : Int, e = .returned (.tuple #[.int .i64 (S.wrN Q b : Int), .int .i64 c]) ∧ PJ base W' A q g (S.wrQ Q b) P ∧ Kp base A W W' := by
  obtain ⟨vb, vp, hx⟩ := h.sx
  cases hb : S.fullB Q b with
  | true =>
    obtain ⟨e1, e2⟩ := full_is hb h.sf
    refine (S.write_full hx h.sf b hb).mono ?_
    rintro e W' ⟨rfl, hb'⟩
    rw [e1, e2]
    exact ⟨_, rfl, h.later hb', Kp.of_below hb' h.bs⟩
  | false =>
    refine (S.write_t hx h.sf h.up b hs hb).mono ?_
    rintro e W' ⟨rfl, ⟨vb', hx'⟩, ht⟩
    exact ⟨_, rfl, ⟨⟨vb', vp, hx'⟩, S.wrQ_fine h.sf b, vx_s h.vx ht, h.vf, h.lo, Nat.le_trans h.bs ht.size⟩, Kp.of_s ht h.bs⟩
theorem pj_window (h : PJ base W A q g Q P) :
    Calls Try.prog 10 #[PQ g] W fun e W' => e = .returned (.int .i64 ((P.room - P.bs.length : Nat) : Int)) ∧ PJ base W' A q g Q P ∧ Kp base A W W' := by
  refine (V.window_any h.vx h.vf).mono ?_
  rintro e W' ⟨rfl, hb⟩
  exact ⟨rfl, h.later hb, Kp.of_below hb h.bs⟩
theorem pj_next (h : PJ base W A q g Q P) (win m : Int) (hwin : win ≤ 9223372036854775807) (hm : -9223372036854775808 ≤ m) :
    Calls Try.prog 9 #[PQ q, .int .i64 win, .int .i64 m] W fun e W' => e = .returned (.tuple #[.int .i64 (S.nxA Q), .string (S.strB (S.sndS Q (min (max win 0 - (Q.sent : Int)) m)))]) ∧ PJ base W' A q g (S.sndQ Q (min (max win 0 - (Q.sent : Int)) m)) P ∧ Kp base A W W' := by
  obtain ⟨vb, vp, hx⟩ := h.sx
  refine (S.next_any hx h.sf win m hwin hm).mono ?_
  rintro e W' ⟨rfl, hx', ht⟩
  exact ⟨rfl, ⟨⟨vb, vp, hx'⟩, S.sndQ_fine h.sf _, vx_s h.vx ht, h.vf, h.lo, Nat.le_trans h.bs ht.size⟩, Kp.of_s ht h.bs⟩
theorem pj_hole (h : PJ base W A q g Q P) (m : Int) :
    Calls Try.prog 11 #[PQ q, .int .i64 m] W fun e W' => e = .returned (.tuple #[.int .i64 (S.hlA Q m), .string (S.strB (S.hlS Q m))]) ∧ PJ base W' A q g Q P ∧ Kp base A W W' := by
  obtain ⟨vb, vp, hx⟩ := h.sx
  refine (S.Hole_any hx h.sf m).mono ?_
  rintro e W' ⟨rfl, hb⟩
  exact ⟨rfl, h.later hb, Kp.of_below hb h.bs⟩
theorem pj_told (h : PJ base W A q g Q P) (m : Int) :
    Calls Try.prog 12 #[PQ g, .int .i64 m] W fun e W' => ∃ v, e = .returned v ∧ V.RO W' W.heap.size v (V.apartL P m) ∧ PJ base W' A q g Q P ∧ Kp base A W W' ∧ Below W.heap.size W W' := by
  refine (V.apart_any h.vx h.vf m).mono ?_
  rintro e W' ⟨v, rfl, hr, hb⟩
  exact ⟨v, rfl, hr, h.later hb, Kp.of_below hb h.bs, hb⟩
theorem pj_put (h : PJ base W A q g Q P) (at_ : Int) (s : ByteArray) (hs : s.size ≤ 65536) (a0 : 0 ≤ at_) (a1 : at_ ≤ 4294967295) :
    Calls Try.prog 13 #[PQ g, .int .i64 at_, .string s] W fun e W' => ∃ L A', e = .returned (.tuple #[.int .i64 (L.length : Int), .int .i64 0]) ∧ V.Run (V.putA P at_ s.data.toList) L ∧ PJ base W' A' q g Q (V.goQ P (V.putA P at_ s.data.toList) L) ∧ Kp base A W W' ∧ V.Gr W.heap.size A A' := by
  have hsz : s.data.toList.length = s.size := Array.length_toList
  obtain ⟨L, hL, -⟩ := V.Run.ex _ _ (V.putA_win h.vf a0 a1 (s := s.data.toList) (by omega))
  obtain ⟨vb, vp, hx⟩ := h.sx
  refine (V.put_t h.vx h.vf at_ s hs a0 a1 L hL).mono ?_
  rintro e W' ⟨rfl, A', hX', ht, hg⟩
  refine ⟨L, A', rfl, hL, ⟨⟨vb, vp, sx_v hx ht hg⟩, h.sf, hX', V.put_fine h.vf a0 a1 (by omega) hL, fun k hk => ?_, Nat.le_trans h.bs ht.size⟩, Kp.of_v ht h.bs h.lo, hg⟩
  rcases hg k hk with q1 | q1
  · exact h.lo k q1
  · exact Nat.le_trans h.bs q1
theorem pj_read (h : PJ base W A q g Q P) (m : Int) :
    Calls Try.prog 14 #[PQ g, .int .i64 m] W fun e W' => e = .returned (.string (V.strB (P.bs.take (V.readN P m)))) ∧ PJ base W' A q g Q (V.readQ P (V.readN P m)) ∧ Kp base A W W' := by
  obtain ⟨vb, vp, hx⟩ := h.sx
  refine (V.read_any h.vx h.vf m).mono ?_
  rintro e W' ⟨rfl, hX', ht⟩
  exact ⟨rfl, ⟨⟨vb, vp, sx_v hx ht (V.Gr.refl _ _)⟩, h.sf, hX', V.readQ_fine h.vf _, h.lo, Nat.le_trans h.bs ht.size⟩, Kp.of_v ht h.bs h.lo⟩
theorem pj_exp (h : PJ base W A q g Q P) : Calls Try.prog 16 #[PQ g] W fun e W' => e = .returned (.int .i64 P.next) ∧ W' = W := V.next_any h.vx
theorem pj_ack (h : PJ base W A q g Q P) (n : Int) (hp : S.placeB Q n = true) :
    Calls Try.prog 15 #[PQ q, .int .i64 n] W fun e W' => e = .returned (.tuple #[.int .i64 (S.offN Q n : Int), .int .i64 0]) ∧ PJ base W' A q g (S.ackQ Q n) P ∧ Kp base A W W' := by
  obtain ⟨vb, vp, hx⟩ := h.sx
  refine (S.ack_t hx h.sf n hp).mono ?_
  rintro e W' ⟨rfl, ⟨vb', vp', hx'⟩, ht⟩
  exact ⟨rfl, ⟨⟨vb', vp', hx'⟩, S.ackQ_fine h.sf hp, vx_s h.vx ht, h.vf, h.lo, Nat.le_trans h.bs ht.size⟩, Kp.of_s ht h.bs⟩
theorem rr_of {w : World} {base : Nat} {v : Value} {rs : List V.Rg} (h : V.RO w base v rs) : S.RR w v rs := by
  obtain ⟨a, c, rfl, -⟩ := h.shape
  refine ⟨a, c, rfl, fun i r hi => ?_⟩
  rcases h.2 with ⟨-, h0⟩ | ⟨b, cap, cur, hv, hg, hb, -⟩
  · rw [List.length_eq_zero_iff.1 h0] at hi; simp at hi
  · cases hv
    obtain ⟨c1, c2⟩ := V.RO.cell h hi
    exact ⟨b, 0, rfl, ⟨_, _, hb⟩, by rw [Nat.zero_add]; exact c1, by rw [Nat.zero_add]; exact c2⟩
theorem pj_apart (h : PJ base W A q g Q P) {v : Value} {rs : List V.Rg} {b : Nat} (hr : V.RO W b v rs) (hn : rs.length ≤ 100000) :
    Calls Try.prog 17 #[PQ q, v] W fun e W' => ∃ (x : Int) (L : List S.Pt), e = .returned (.int .i64 x) ∧ S.AI Q rs L ∧ PJ base W' A q g { Q with ps := L } P ∧ Kp base A W W' := by
  obtain ⟨vb, vp, hx⟩ := h.sx
  refine (S.apart_any hx h.sf h.up (rr_of hr) hn).mono ?_
  rintro e W' ⟨L, vp', rfl, hA, hx', ht⟩
  have hf := h.sf
  exact ⟨_, L, rfl, hA, ⟨⟨vb, vp', hx'⟩, ⟨hf.r0, hf.r1, hf.l0, hf.l1, hf.ln, hf.sn, hA.1⟩, vx_s h.vx ht, h.vf, h.lo, Nat.le_trans h.bs ht.size⟩, Kp.of_s ht h.bs⟩
end
theorem pj_made {w w1 w2 : World} {f1 f2 : Int} {r1 r2 : Nat} (h1 : S.QX w1 (fun k => w.heap.size ≤ k) w.heap.size ⟨(r1 : Int), f1, 0, [], []⟩ (.slice none 0 0) (.slice none 0 0)) (hb1 : Below w.heap.size w w1) (h2 : V.QX w2 (fun k => w1.heap.size ≤ k ∧ k < w2.heap.size) (w1.heap.size + 1) (V.emptyQ r2 f2)) (hb2 : Below w1.heap.size w1 w2)
    (sf : (⟨(r1 : Int), f1, 0, [], []⟩ : S.Qu).Fine) (vf : (V.emptyQ r2 f2).Fine) : PJ w.heap.size w2 (fun k => w1.heap.size ≤ k ∧ k < w2.heap.size) w.heap.size (w1.heap.size + 1) ⟨(r1 : Int), f1, 0, [], []⟩ (V.emptyQ r2 f2) :=
  ⟨⟨_, _, (sx_move h1 (R' := fun k => w.heap.size ≤ k ∧ ¬ (w1.heap.size ≤ k ∧ k < w2.heap.size)) (fun k hk hl => ⟨hk, fun e => by omega⟩)).later hb2⟩, sf, h2, vf, fun k hk => Nat.le_trans hb1.size hk.1, Nat.le_trans hb1.size hb2.size⟩
def sX : ByteArray := ⟨#[120]⟩
theorem x_run : V.Run (V.putA (V.emptyQ 9 1) 1 sX.data.toList) [120] := by
  refine ⟨fun i b h => ?_, by decide +kernel⟩
  have hi := (List.getElem?_eq_some_iff.1 h).1
  simp only [List.length_cons, List.length_nil] at hi
  obtain rfl : i = 0 := by omega
  simp at h; subst h; decide +kernel
set_option maxHeartbeats 1000000 in
theorem queues_any (w : World) : Calls Try.prog 7 #[] w fun e w' => e = .returned (.bool true) ∧ Below w.heap.size w w' := by
  have hc1 := S.new_t 1 9 w (by decide) (by decide) (by decide) (by decide)
  have sf : (⟨((9 : Nat) : Int), 1, 0, [], []⟩ : S.Qu).Fine := ⟨by decide, by decide, by decide, by decide, by decide, Nat.le_refl _, List.Pairwise.nil, fun e he => by cases he⟩
  have vf : (V.emptyQ 9 1).Fine := V.emptyQ_fine (by omega) (by omega) (by omega) (by omega)
  go_enter Try.func7, Try.ntmps7
  go_wp2_with fail
  refine hc1.mono ?_
  rintro e w1 ⟨rfl, hX1, hb1⟩
  have hc2 := V.new_t 1 9 w1 (by decide) (by decide) (by decide) (by decide)
  rw [show ((9 : Nat) : Int) = 9 from rfl] at hc2
  clear hc1
  go_wp2_with fail
  refine hc2.mono ?_
  rintro e w2 ⟨rfl, hX2, hb2⟩
  have hP := pj_made (r1 := 9) (r2 := 9) hX1 hb1 hX2 hb2 sf vf
  have hbw : Below w.heap.size w w2 := S.bt hb1 hb2
  generalize hz : w.heap.size = z at *
  generalize hg : w1.heap.size + 1 = g at *
  obtain ⟨A, hA⟩ : ∃ A : V.Bk, A = fun k => w1.heap.size ≤ k ∧ k < w2.heap.size := ⟨_, rfl⟩
  rw [← hA] at hP
  clear hA hX1 hX2 hb1 hb2 hc2 sf vf hg
  have hc3 := pj_write hP sX (by decide)
  rw [show ((S.wrN (⟨((9 : Nat) : Int), 1, 0, [], []⟩ : S.Qu) sX : Nat) : Int) = 1 from rfl, show S.wrQ (⟨((9 : Nat) : Int), 1, 0, [], []⟩ : S.Qu) sX = ⟨9, 1, 0, [120], []⟩ from rfl] at hc3
  go_wp2_with fail
  refine hc3.mono ?_
  rintro e w3 ⟨c, rfl, hP3, hk3⟩
  have hc4 := pj_next hP3 9 9 (by decide) (by decide)
  rw [show S.nxA (⟨9, 1, 0, [120], []⟩ : S.Qu) = 1 by decide, show S.strB (S.sndS (⟨9, 1, 0, [120], []⟩ : S.Qu) (min (max 9 0 - (((⟨9, 1, 0, [120], []⟩ : S.Qu).sent : Nat) : Int)) 9)) = sX from rfl] at hc4
  clear hc3
  go_wp2_with fail
  refine hc4.mono ?_
  rintro e w4 ⟨rfl, hP4, hk4⟩
  have hc5 := pj_put hP4 1 sX (by decide) (by decide) (by decide)
  clear hc4
  go_wp2_with fail
  refine hc5.mono ?_
  rintro e w5 ⟨L, A', rfl, hL, hP5, hk5, -⟩
  obtain rfl : L = [120] := hL.one x_run
  have hc6 := pj_read hP5 9
  rw [show V.strB ((V.goQ (V.emptyQ 9 1) (V.putA (V.emptyQ 9 1) 1 sX.data.toList) [120]).bs.take (V.readN (V.goQ (V.emptyQ 9 1) (V.putA (V.emptyQ 9 1) 1 sX.data.toList) [120]) 9)) = ⟨#[120]⟩ by decide +kernel] at hc6
  clear hc5
  go_wp2_with fail
  refine hc6.mono ?_
  rintro e w6 ⟨rfl, hP6, hk6⟩
  have hb := hbw.trans (hk3.below.trans (hk4.below.trans (hk5.below.trans hk6.below)))
  clear hc6 hP hP3 hP4 hP5 hP6 hk3 hk4 hk5 hk6 hbw
  go_wp2
  go_ret
  subst hz
  exact ⟨rfl, hb⟩
end Go.Proofs.Ytkclookpdngkoaa
