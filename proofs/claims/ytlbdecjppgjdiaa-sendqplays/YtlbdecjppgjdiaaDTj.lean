/- The program's queue and the document's say the same: plain facts. -/
import Derived.Test.YtlbdecjppgjdiaaDTh
import Derived.Test.YtlbdecjppgjdiaaDTg
import Derived.Test.YtlbdecjppgjdiaaDTf
import Derived.Test.YtlbdecjppgjdiaaDSa
import Derived.Test.YtlbdecjppgjdiaaDTi
namespace Go.Proofs.Ytlbdecjppgjdiaa
open Go.RowKit Go.Maps Go.Lib
set_option maxRecDepth 100000
set_option linter.unusedVariables false
set_option linter.unusedSimpArgs false


structure RL (Q : Qu) (U : Ru) : Prop where
  room : U.room = Q.room
  left : U.left = Q.left
  sent : U.sent = Q.sent
  bs : U.bs = Q.bs
  gl : U.G.length = Q.bs.length
  iff : ∀ k, k < Q.bs.length → (U.G[k]? = some true ↔ inP Q.ps k)
theorem RL.fine {Q : Qu} {U : Ru} (h : RL Q U) (hf : Q.Fine) : U.Fine := ⟨by rw [h.room]; exact hf.r0, by rw [h.room]; exact hf.r1, by rw [h.left]; exact hf.l0, by rw [h.left]; exact hf.l1, by rw [h.room, h.bs]; exact hf.ln, by rw [h.sent, h.bs]; exact hf.sn, by rw [h.gl, h.bs]⟩
theorem RL.new (room left : Int) : RL ⟨room, left, 0, [], []⟩ ⟨room, left, 0, [], []⟩ := ⟨rfl, rfl, rfl, rfl, rfl, fun k hk => absurd hk (Nat.not_lt_zero _)⟩
theorem RL.full {Q : Qu} {U : Ru} (h : RL Q U) (s : ByteArray) : rfullB U s = fullB Q s := by unfold rfullB fullB; rw [h.room, h.bs]
theorem RL.wrN {Q : Qu} {U : Ru} (h : RL Q U) (s : ByteArray) : rwN U s = Ytlbdecjppgjdiaa.wrN Q s := by unfold rwN Ytlbdecjppgjdiaa.wrN; rw [h.room, h.bs]
theorem RL.write {Q : Qu} {U : Ru} (h : RL Q U) (hf : Q.Fine) (s : ByteArray) : RL (wrQ Q s) (rwQ U s) := by
  have hn := h.wrN s
  have hsl : s.data.toList.length = s.size := Array.length_toList
  have hn1 : Ytlbdecjppgjdiaa.wrN Q s ≤ s.size := Nat.min_le_left _ _
  refine ⟨h.room, h.left, h.sent, by show U.bs ++ _ = Q.bs ++ _; rw [hn, h.bs], ?_, fun k hk => ?_⟩
  · show (U.G ++ List.replicate (rwN U s) false).length = (Q.bs ++ s.data.toList.take (Ytlbdecjppgjdiaa.wrN Q s)).length
    rw [List.length_append, List.length_append, List.length_replicate, List.length_take, h.gl, hn]
    omega
  · show (U.G ++ List.replicate (rwN U s) false)[k]? = some true ↔ inP Q.ps k
    rcases Nat.lt_or_ge k Q.bs.length with h1 | h1
    · rw [List.getElem?_append_left (by rw [h.gl]; exact h1)]
      exact h.iff k h1
    · rw [List.getElem?_append_right (by rw [h.gl]; exact h1)]
      constructor
      · intro h2
        have := List.mem_of_getElem? h2
        have := List.eq_of_mem_replicate this
        cases this
      · rintro ⟨e, he, h2⟩
        have := hf.ok.2 e he
        have := hf.sn
        omega
theorem RL.roB {Q : Qu} {U : Ru} (h : RL Q U) (n : Int) : Ytlbdecjppgjdiaa.roB U n = placeB Q n := by unfold Ytlbdecjppgjdiaa.roB placeB; rw [h.left, h.sent]
theorem RL.roN {Q : Qu} {U : Ru} (h : RL Q U) (n : Int) : Ytlbdecjppgjdiaa.roN U n = offN Q n := by unfold Ytlbdecjppgjdiaa.roN offN; rw [h.left]
theorem inP_bh {ps : List Pt} {d k : Nat} : inP (bhL ps d) k ↔ inP ps (k + d) := by
  unfold inP bhL
  constructor
  · rintro ⟨e, he, h1, h2⟩
    obtain ⟨x, hx, rfl⟩ := List.mem_map.1 he
    have h3 := (List.mem_filter.1 hx)
    have h4 := h3.2
    simp at h4
    dsimp only at h1 h2
    exact ⟨x, h3.1, by omega, by omega⟩
  · rintro ⟨x, hx, h1, h2⟩
    exact ⟨(x.1 - d, x.2 - d), List.mem_map.2 ⟨x, List.mem_filter.2 ⟨hx, by simp; omega⟩, rfl⟩, by dsimp only; omega, by dsimp only; omega⟩
theorem RL.ack {Q : Qu} {U : Ru} (h : RL Q U) (n : Int) : RL (ackQ Q n) (rakQ U n) := by
  have hn := h.roN n
  refine ⟨h.room, rfl, by show U.sent - _ = Q.sent - _; rw [hn, h.sent], by show U.bs.drop _ = Q.bs.drop _; rw [hn, h.bs], ?_, fun k hk => ?_⟩
  · show (U.G.drop _).length = (Q.bs.drop _).length
    rw [List.length_drop, List.length_drop, h.gl, hn]
  · have hk' : k < (Q.bs.drop (offN Q n)).length := hk
    rw [List.length_drop] at hk'
    show (U.G.drop (Ytlbdecjppgjdiaa.roN U n))[k]? = some true ↔ inP (bhL Q.ps (offN Q n)) k
    rw [hn, List.getElem?_drop, inP_bh, Nat.add_comm]
    exact h.iff _ (by omega)
theorem RL.rsN {Q : Qu} {U : Ru} (h : RL Q U) (m : Int) : Ytlbdecjppgjdiaa.rsN U m = sndN Q m := by unfold Ytlbdecjppgjdiaa.rsN sndN; rw [h.bs, h.sent]
theorem RL.rsS {Q : Qu} {U : Ru} (h : RL Q U) (m : Int) : Ytlbdecjppgjdiaa.rsS U m = sndS Q m := by unfold Ytlbdecjppgjdiaa.rsS sndS; rw [h.rsN, h.bs, h.sent]
theorem RL.send {Q : Qu} {U : Ru} (h : RL Q U) (m : Int) : RL (sndQ Q m) (rsQ U m) := ⟨h.room, h.left, by show U.sent + _ = Q.sent + _; rw [h.rsN, h.sent], h.bs, h.gl, h.iff⟩
theorem RL.okD {Q : Qu} {U : Ru} (h : RL Q U) (hf : Q.Fine) (r : Rg) (k : Nat) : Ytlbdecjppgjdiaa.okD U r k ↔ okI Q r k := by
  unfold Ytlbdecjppgjdiaa.okD okI
  rw [h.roB, h.roB, h.roN, h.roN]
  constructor
  · rintro ⟨h1, h2, -, h3, h4⟩
    exact ⟨h1, h2, h3, h4⟩
  · rintro ⟨h1, h2, h3, h4⟩
    refine ⟨h1, h2, ?_, h3, h4⟩
    obtain ⟨n1, o1⟩ := placeB_t h1
    obtain ⟨n2, o2⟩ := placeB_t h2
    have e1 := offN_is Q r.1
    have e2 := offN_is Q r.2
    have hs : Q.sent ≤ 65536 := by have := hf.sn; have := hf.ln; have := hf.r1; omega
    obtain ⟨a0, a1⟩ := numB_t n1
    obtain ⟨b0, b1⟩ := numB_t n2
    have hl0 := hf.l0
    have hl1 := hf.l1
    unfold aheadV
    rw [n1, n2, Bool.true_and, Bool.true_and, decide_eq_true_eq]
    omega
theorem RL.apart {Q : Qu} {U : Ru} (h : RL Q U) (hf : Q.Fine) {rs : List Rg} {L : List Pt} {G : List Bool} (hA : AI Q rs L) (hG : GA U rs G) : RL { Q with ps := L } { U with G := G } := by
  refine ⟨h.room, h.left, h.sent, h.bs, by show G.length = Q.bs.length; rw [hG.len, h.gl], fun k hk => ?_⟩
  show G[k]? = some true ↔ inP L k
  have hk' : k < U.G.length := by rw [h.gl]; exact hk
  rw [hG.iff k hk', hA.2 k, h.iff k hk]
  constructor
  · rintro (h1 | ⟨r, hr, h1⟩)
    · exact Or.inl h1
    · exact Or.inr ⟨r, hr, (h.okD hf r k).1 h1⟩
  · rintro (h1 | ⟨r, hr, h1⟩)
    · exact Or.inl h1
    · exact Or.inr ⟨r, hr, (h.okD hf r k).2 h1⟩
theorem get_false {G : List Bool} {k : Nat} (hk : k < G.length) (h : ¬ G[k]? = some true) : G[k]? = some false := by
  rw [List.getElem?_eq_getElem hk] at h ⊢
  cases hb : G[k] with
  | true => exact absurd (by rw [hb]) h
  | false => rfl
theorem RL.hole {Q : Qu} {U : Ru} (h : RL Q U) (hf : Q.Fine) : RH U.sent U.G (holeL Q).1 (holeL Q).2 := by
  obtain ⟨f1, f2, f3, f4⟩ := hole_facts hf
  obtain ⟨g1, g2⟩ := holeL_ok hf
  have hsn := hf.sn
  refine ⟨g1, by rw [h.sent]; exact g2, fun k hk => (h.iff k (by omega)).2 (f1 k hk), fun k h1 h2 => get_false (by rw [h.gl]; omega) (fun h3 => f2 k h1 h2 ((h.iff k (by omega)).1 h3)), fun h1 => (h.iff _ (by rw [h.sent] at h1; omega)).2 (f3 (by rw [h.sent] at h1; exact h1)), fun h1 => by rw [h.sent]; exact f4 h1⟩
/-- How many bytes are received apart: by the parts, and one by one. -/
theorem cnt_lt {G : List Bool} {n m : Nat} (hnm : n ≤ m) (hz : ∀ k, n ≤ k → k < m → G[k]? = some false) : cntG G m = cntG G n := by
  induction m with
  | zero => obtain rfl : n = 0 := by omega
            rfl
  | succ m ih =>
    rcases Nat.lt_or_ge n (m + 1) with h1 | h1
    · rw [cntG_succ (hz m (by omega) (by omega)), ih (by omega) (fun k h2 h3 => hz k h2 (by omega))]
      simp
    · obtain rfl : n = m + 1 := by omega
      rfl
theorem cnt_tt {G : List Bool} {n m : Nat} (hnm : n ≤ m) (hz : ∀ k, n ≤ k → k < m → G[k]? = some true) : cntG G m = cntG G n + (m - n) := by
  induction m with
  | zero => obtain rfl : n = 0 := by omega
            simp
  | succ m ih =>
    rcases Nat.lt_or_ge n (m + 1) with h1 | h1
    · rw [cntG_succ (hz m (by omega) (by omega)), ih (by omega) (fun k h2 h3 => hz k h2 (by omega))]
      simp
      omega
    · obtain rfl : n = m + 1 := by omega
      simp
theorem cnt_sum {N : Nat} {G : List Bool} (hN : N ≤ G.length) : ∀ (L : List Pt) (n : Nat), L.Pairwise (fun x y => x.2 < y.1) → (∀ e ∈ L, n ≤ e.1 ∧ e.1 < e.2 ∧ e.2 ≤ N) → n ≤ N → (∀ k, n ≤ k → k < N → (G[k]? = some true ↔ inP L k)) → cntG G N = cntG G n + sumP L
  | [], n, _, _, hn, hk => by
    rw [cnt_lt hn (fun k h1 h2 => get_false (by omega) (fun h3 => by obtain ⟨e, he, _⟩ := (hk k h1 h2).1 h3; cases he))]
    simp [sumP]
  | x :: r, n, hp, hb, hn, hk => by
    have hx := hb x (List.mem_cons_self ..)
    have hpw := List.pairwise_cons.1 hp
    have h1 : cntG G x.1 = cntG G n := cnt_lt hx.1 (fun k h1 h2 => get_false (by omega) (fun h3 => by
      obtain ⟨e, he, h4, h5⟩ := (hk k h1 (by omega)).1 h3
      rcases List.mem_cons.1 he with rfl | he
      · omega
      · have := hpw.1 e he
        omega))
    have h2 : cntG G x.2 = cntG G x.1 + (x.2 - x.1) := cnt_tt (Nat.le_of_lt hx.2.1) (fun k h1 h2 => (hk k (by omega) (by omega)).2 ⟨x, List.mem_cons_self .., h1, h2⟩)
    have h3 := cnt_sum hN r x.2 hpw.2 (fun e he => by
      have := hpw.1 e he
      have := hb e (List.mem_cons_of_mem _ he)
      omega) hx.2.2 (fun k h1 h2 => (hk k (by omega) h2).trans ⟨fun ⟨e, he, h4⟩ => by
        rcases List.mem_cons.1 he with rfl | he
        · omega
        · exact ⟨e, he, h4⟩, fun ⟨e, he, h4⟩ => ⟨e, List.mem_cons_of_mem _ he, h4⟩⟩)
    rw [h3, h2, h1]
    simp [sumP]
    omega
theorem RL.count {Q : Qu} {U : Ru} (h : RL Q U) (hf : Q.Fine) : cntG U.G U.sent = sumP Q.ps := by
  have hsn := hf.sn
  have := cnt_sum (N := Q.sent) (G := U.G) (by rw [h.gl]; exact hsn) Q.ps 0 hf.ok.1 (fun e he => ⟨Nat.zero_le _, hf.ok.2 e he⟩) (Nat.zero_le _) (fun k _ hk => h.iff k (by omega))
  rw [h.sent, this]
  simp [cntG]
end Go.Proofs.Ytlbdecjppgjdiaa
