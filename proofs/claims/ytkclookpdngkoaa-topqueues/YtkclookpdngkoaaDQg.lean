/- Ack. -/
import Derived.Test.YtkclookpdngkoaaDQf
namespace Go.Proofs.Ytkclookpdngkoaa.S
open Go.RowKit Go.Maps Go.Lib
set_option maxRecDepth 100000
set_option linter.unusedVariables false
set_option linter.unusedSimpArgs false


theorem del_any {w : World} {R : Bk} {vb : Value} {bs : List UInt8} (d : Nat) (h : BO w R vb bs) (hd : d ≤ bs.length) (hl : bs.length ≤ 65536) :
    Calls Try.prog 26 #[vb, .int .i64 0, .int .i64 (d : Int)] w fun e w' => ∃ vb', e = .returned vb' ∧ BO w' R vb' (bs.drop d) ∧ Turn (fun k => vb.ownBlock = some k) w w' := by
  rcases Nat.eq_zero_or_pos d with rfl | hd0
  · refine (del_zero h hl).mono ?_
    rintro e w' ⟨rfl, rfl⟩
    exact ⟨vb, rfl, by rw [List.drop_zero]; exact h, Turn.refl _⟩
  · obtain ⟨a, c, rfl, h0, hcl, hcz⟩ := h.shape
    rcases h.2 with ⟨e, e0⟩ | ⟨g, cap, cur, hv, -⟩
    · omega
    · cases hv
      refine (del_some d h hd hd0 hl).mono ?_
      rintro e w' ⟨rfl, h1, h2⟩
      exact ⟨_, rfl, h1, h2.mono (fun k hk => by rw [hk]; rfl)⟩
theorem behind_any {w : World} {R : Bk} {vp : Value} {ps : List Pt} (d : Nat) (h : PO w R vp ps) (hps : ∀ e ∈ ps, e.1 ≤ 65536 ∧ e.2 ≤ 65536) (hl : ps.length ≤ 65536) (hd : d ≤ 65536) :
    Calls Try.prog 28 #[vp, .int .i64 (d : Int)] w fun e w' => ∃ vp', e = .returned vp' ∧ PO w' R vp' (bhL ps d) ∧ Turn (fun k => vp.ownBlock = some k) w w' := by
  obtain ⟨a, c, rfl, h0, hcl, hcz⟩ := h.shape
  cases a with
  | none =>
    obtain rfl := h0 rfl
    obtain rfl := hcz rfl
    refine (behind_nil d w).mono ?_
    rintro e w' ⟨rfl, rfl⟩
    exact ⟨_, rfl, h, Turn.refl _⟩
  | some A =>
    rcases h.2 with ⟨e, e0⟩ | ⟨g, cap, cur, hv, -⟩
    · cases e
    · cases hv
      refine (behind_some d h hps hl hd).mono ?_
      rintro e w' ⟨rfl, h1, h2⟩
      exact ⟨_, rfl, h1, h2.mono (fun k hk => by rw [hk]; rfl)⟩
theorem psOk_len {n : Nat} {ps : List Pt} (h : PsOk n ps) : ps.length ≤ n := by
  suffices ∀ (l : List Pt) (m : Nat), l.Pairwise (fun x y => x.2 < y.1) → (∀ e ∈ l, m ≤ e.1 ∧ e.1 < e.2 ∧ e.2 ≤ n) → m + l.length ≤ max m n by
    have := this ps 0 h.1 (fun e he => ⟨Nat.zero_le _, h.2 e he⟩)
    omega
  intro l
  induction l with
  | nil => intro m _ _; simp; omega
  | cons x r ih =>
    intro m hp hb
    have hx := hb x (List.mem_cons_self ..)
    have hp' := List.pairwise_cons.1 hp
    have := ih (x.2) hp'.2 (fun e he => ⟨by have := hp'.1 e he; omega, (hb e (List.mem_cons_of_mem _ he)).2⟩)
    rw [List.length_cons]
    omega
theorem psOk_bh {n : Nat} {ps : List Pt} (h : PsOk n ps) (d : Nat) : PsOk (n - d) (bhL ps d) := by
  unfold bhL
  refine ⟨?_, ?_⟩
  · rw [List.pairwise_map]
    have h1 := h.1.filter (fun e => decide (d < e.2))
    refine (List.Pairwise.and_mem.1 h1).imp ?_
    rintro x y ⟨hx, hy, hxy⟩
    have h2 := (List.mem_filter.1 hx).2
    simp at h2
    show x.2 - d < y.1 - d
    omega
  · intro e he
    obtain ⟨x, hx, rfl⟩ := List.mem_map.1 he
    have h1 := h.2 x (List.mem_filter.1 hx).1
    have h2 := (List.mem_filter.1 hx).2
    simp at h2
    show x.1 - d < x.2 - d ∧ x.2 - d ≤ n - d
    omega
def offN (Q : Qu) (n : Int) : Nat := ((n - Q.left) % 4294967296).toNat
def ackQ (Q : Qu) (n : Int) : Qu := { Q with left := n, sent := Q.sent - offN Q n, bs := Q.bs.drop (offN Q n), ps := bhL Q.ps (offN Q n) }
theorem offN_is (Q : Qu) (n : Int) : (n - Q.left) % 4294967296 = (offN Q n : Int) := by unfold offN; have := Int.emod_nonneg (n - Q.left) (show (4294967296 : Int) ≠ 0 by omega); omega
theorem placeB_t {Q : Qu} {n : Int} (h : placeB Q n = true) : numB n = true ∧ offN Q n ≤ Q.sent := by
  unfold placeB at h
  rw [Bool.and_eq_true, decide_eq_true_eq, offN_is] at h
  exact ⟨h.1, by omega⟩
theorem ackQ_fine {Q : Qu} (h : Q.Fine) {n : Int} (hp : placeB Q n = true) : (ackQ Q n).Fine := by
  obtain ⟨hn, ho⟩ := placeB_t hp
  obtain ⟨n0, n1⟩ := numB_t hn
  refine ⟨h.r0, h.r1, n0, n1, ?_, ?_, psOk_bh h.ok _⟩
  · show ((Q.bs.drop (offN Q n)).length : Int) ≤ Q.room
    rw [List.length_drop]
    have := h.ln
    omega
  · show Q.sent - offN Q n ≤ (Q.bs.drop (offN Q n)).length
    rw [List.length_drop]
    have := h.sn
    omega
theorem distV_is {Q : Qu} (hf : Q.Fine) {n : Int} (hn : numB n = true) : distV Q.left n = (offN Q n : Int) := by
  unfold distV
  rw [hn, show numB Q.left = true from decide_eq_true ⟨hf.l0, hf.l1⟩]
  exact offN_is Q n
theorem ack_f {w : World} {R : Bk} {q : Nat} {Q : Qu} {vb vp : Value} (h : QX w R q Q vb vp) (hf : Q.Fine) (n : Int) (hp : placeB Q n = false) :
    Calls Try.prog 15 #[PQ q, .int .i64 n] w fun e w' => e = .returned (.tuple #[.int .i64 0, .int .i64 1]) ∧ Below w.heap.size w w' := by
  have hc := place_any h hf n
  rw [hp] at hc
  clear h
  go_enter Try.func15, Try.ntmps15
  go_wp2_with fail
  refine hc.mono ?_
  rintro e w' ⟨rfl, hb⟩
  go_wp2
  go_ret2
  exact ⟨rfl, hb⟩
set_option maxHeartbeats 1000000 in
theorem ack_t {w : World} {R : Bk} {q : Nat} {Q : Qu} {vb vp : Value} (h : QX w R q Q vb vp) (hf : Q.Fine) (n : Int) (hp : placeB Q n = true) :
    Calls Try.prog 15 #[PQ q, .int .i64 n] w fun e w' => e = .returned (.tuple #[.int .i64 (offN Q n : Int), .int .i64 0]) ∧ (∃ vb' vp', QX w' R q (ackQ Q n) vb' vp') ∧ TK R w w' := by
  have hc := place_any h hf n
  obtain ⟨hn, ho⟩ := placeB_t hp
  rw [hp, distV_is hf hn] at hc
  have hs1 : (Q.sent : Int) ≤ 65536 := by have := hf.sn; have := hf.ln; have := hf.r1; omega
  have ho' : (offN Q n : Int) ≤ (Q.sent : Int) := by omega
  have hsn := hf.sn
  have hln := hf.ln
  have hr1 := hf.r1
  have HF : Hid (Q.Fine) := hf
  have HX : Hid (QX w R q Q vb vp) := h
  clear h hf
  obtain ⟨d, hd⟩ : ∃ d, d = offN Q n := ⟨_, rfl⟩
  have HD : Hid (d = offN Q n) := hd
  rw [← hd] at hc ho ho' ⊢
  clear hd
  have hsub : (Q.sent : Int) - (d : Int) = ((Q.sent - d : Nat) : Int) := by omega
  have HSB : Hid ((Q.sent : Int) - (d : Int) = ((Q.sent - d : Nat) : Int)) := hsub
  clear hsub
  go_enter Try.func15, Try.ntmps15
  go_wp2_with fail
  refine hc.mono ?_
  rintro e w1 ⟨rfl, hb1⟩
  have hX1 := HX.out.later hb1
  obtain ⟨⟨c0, c1, c2, c3, c4⟩, f0, f1, f2, f3, f4⟩ := hX1.at5.five
  go_upto_region 6 with fail
  rw [HSB.out]
  obtain ⟨w2, hw2⟩ : ∃ x, x = (w1.setCell ⟨q, 1, none⟩ (.int .i64 n)).setCell ⟨q, 2, none⟩ (.int .i64 ((Q.sent - d : Nat) : Int)) := ⟨_, rfl⟩
  have hX2 : At w2 q #[.int .i64 Q.room, .int .i64 n, .int .i64 ((Q.sent - d : Nat) : Int), vb, vp] ∧ Kd w2 q 53 ∧ BO w2 R vb Q.bs ∧ PO w2 R vp Q.ps ∧ TK R w1 w2 := by
    rw [hw2]
    have k1 := hX1.kd.set ⟨q, 1, none⟩ (.int .i64 n)
    exact ⟨(hX1.at5.set 1 _).set 2 _, k1.set _ _, row_set (row_set hX1.bo hX1.kd (by decide) _ _) k1 (by decide) _ _, row_set (row_set hX1.po hX1.kd (by decide) _ _) k1 (by decide) _ _, (TY.set hX1.kd (by decide) hX1.ge _ _).trans (TY.set k1 (by decide) hX1.ge _ _)⟩
  rw [← hw2]
  clear hw2
  obtain ⟨hA2, hk2, hB2, hP2, ht2⟩ := hX2
  clear c0 c1 c2 c3 c4 f0 f1 f2 f3 f4
  have c3 := (hA2.2 3 _ rfl).1
  go_wp2_with fail
  refine (del_any d hB2 (by omega) (by omega)).mono ?_
  rintro e w3 ⟨vb', rfl, hB3, ht3⟩
  have hne : ∀ k, vb.ownBlock = some k → k ≠ q := fun k hk e => by subst e; exact absurd ((row_kd hB2 k hk).2.one hk2) (by decide)
  have hA3 := hA2.turn ht3 (fun e => hne q e rfl)
  have hk3 : Kd w3 q 53 := by obtain ⟨cc, fz, hk⟩ := hk2; exact ⟨cc, fz, (ht3.block q hA2.1 (fun e => hne q e rfl)).trans hk⟩
  have hP3 : PO w3 R vp Q.ps := row_turn hP2 ht3 (fun k hk e => absurd ((row_kd hP2 k hk).2.one (row_kd hB2 k e).2) (by decide))
  have htk3 : TK R w2 w3 := ht3.mono (fun k hk => by obtain ⟨p1, p2⟩ := row_kd hB2 k hk; exact ⟨p1, 5, by decide, p2⟩)
  obtain ⟨a3, b3, e3, -⟩ := hB3.shape
  subst e3
  generalize (Q.bs.drop d).length = nb at hB3 ⊢
  clear c3
  have c3 := (hA3.2 3 _ rfl).1
  have f3 := (hA3.2 3 _ rfl).2
  go_upto_region 7 with fail
  obtain ⟨w4, hw4⟩ : ∃ x, x = w3.setCell ⟨q, 3, none⟩ (.slice a3 nb b3) := ⟨_, rfl⟩
  have hX4 : At w4 q #[.int .i64 Q.room, .int .i64 n, .int .i64 ((Q.sent - d : Nat) : Int), .slice a3 nb b3, vp] ∧ Kd w4 q 53 ∧ BO w4 R (.slice a3 nb b3) (Q.bs.drop d) ∧ PO w4 R vp Q.ps ∧ TK R w3 w4 := by
    rw [hw4]
    exact ⟨hA3.set 3 _, hk3.set _ _, row_set hB3 hk3 (by decide) _ _, row_set hP3 hk3 (by decide) _ _, TY.set hk3 (by decide) HX.out.ge _ _⟩
  rw [← hw4]
  clear hw4
  obtain ⟨hA4, hk4, hB4, hP4, ht4⟩ := hX4
  clear c3 f3
  have c4 := (hA4.2 4 _ rfl).1
  go_wp2_with fail
  refine (behind_any d hP4 (fun e he => by have := HF.out.ok.2 e he; have := HF.out.sn; omega) (by have := psOk_len HF.out.ok; omega) (by omega)).mono ?_
  rintro e w5 ⟨vp', rfl, hP5, ht5⟩
  have hne5 : ∀ k, vp.ownBlock = some k → k ≠ q := fun k hk e => by subst e; exact absurd ((row_kd hP4 k hk).2.one hk4) (by decide)
  have hA5 := hA4.turn ht5 (fun e => hne5 q e rfl)
  have hk5 : Kd w5 q 53 := by obtain ⟨cc, fz, hk⟩ := hk4; exact ⟨cc, fz, (ht5.block q hA4.1 (fun e => hne5 q e rfl)).trans hk⟩
  have hB5 : BO w5 R (.slice a3 nb b3) (Q.bs.drop d) := row_turn hB4 ht5 (fun k hk e => absurd ((row_kd hB4 k hk).2.one (row_kd hP4 k e).2) (by decide))
  have htk5 : TK R w4 w5 := ht5.mono (fun k hk => by obtain ⟨p1, p2⟩ := row_kd hP4 k hk; exact ⟨p1, 58, by decide, p2⟩)
  obtain ⟨a5, b5, e5, -⟩ := hP5.shape
  subst e5
  clear c4
  have c4 := (hA5.2 4 _ rfl).1
  have f4 := (hA5.2 4 _ rfl).2
  go_wp2
  go_ret2
  refine ⟨rfl, ⟨.slice a3 nb b3, .slice a5 (bhL Q.ps d).length b5, ?_⟩, ?_⟩
  · unfold ackQ
    rw [← HD.out]
    exact ⟨hA5.set 4 _, hk5.set _ _, HX.out.ge, row_set hB5 hk5 (by decide) _ _, row_set hP5 hk5 (by decide) _ _⟩
  · exact (TY.of_below hb1).trans (ht2.trans (htk3.trans (ht4.trans (htk5.trans (TY.set hk5 (by decide) HX.out.ge _ _)))))
end Go.Proofs.Ytkclookpdngkoaa.S
