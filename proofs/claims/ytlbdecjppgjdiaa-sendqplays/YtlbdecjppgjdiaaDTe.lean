/- The document's Ack, Next, Probe. -/
import Derived.Test.YtlbdecjppgjdiaaDTd
namespace Go.Proofs.Ytlbdecjppgjdiaa
open Go.RowKit Go.Maps Go.Lib
set_option maxRecDepth 100000
set_option linter.unusedVariables false
set_option linter.unusedSimpArgs false


theorem from_run {w : World} {R : Bk} {v : Value} {G : List Bool} (h : GO w R v G) {d : Nat} (hd : d ≤ G.length) :
    ∃ vs, (∀ W, (Instr.slice 43 v (some (.int .i64 (d : Int))) none none).run Try.prog W = .ok vs W) ∧ GRd w vs (G.drop d) := by
  obtain ⟨a, c, rfl, h0, hc, hcz⟩ := h.shape
  cases a with
  | none =>
    obtain rfl := h0 rfl
    obtain rfl := hcz rfl
    obtain rfl : d = 0 := by simpa using hd
    exact ⟨.slice none 0 0, fun W => by simp [Instr.slice, Instr.sliceBounds, Instr.sliceBound, asIntOf, run_underlying Try.underlying43, Result.andThen], none, 0, rfl, fun _ => rfl, fun j b hj => by simp at hj⟩
  | some A =>
    obtain ⟨g, rfl⟩ : ∃ g, A = ⟨g, 0, none⟩ := by
      rcases h.2 with ⟨e, -⟩ | ⟨g, cap, cur, hv, -⟩
      · cases e
      · cases hv; exact ⟨g, rfl⟩
    refine ⟨.slice (if c = d then some ⟨g, 0, none⟩ else some ⟨g, d, none⟩) (G.length - d) (c - d), fun W => ?_, ?_⟩
    · (simp [Instr.slice, Instr.sliceBounds, Instr.sliceBound, asIntOf, run_underlying Try.underlying43, Try.sizeOf4, Result.andThen, Addr.add_mid, show d ≤ c by omega, hd]; try (split <;> simp [Addr.add_mid, *]))
    · refine ⟨_, _, by rw [List.length_drop], (fun e => by split at e <;> cases e), (fun j b hj => ?_)⟩
      have hlt := (List.getElem?_eq_some_iff.1 hj).1
      rw [List.length_drop] at hlt
      rw [List.getElem?_drop] at hj
      refine ⟨⟨g, d, none⟩, by rw [if_neg (by omega)], ?_⟩
      rw [Addr.add_mid]
      exact h.cell hj
theorem wpList_from_eq {w : World} {ops : Array Oper} {rest : List Oper} {o : Oper} {a : Act} {Q : Exit → Act → World → Prop} {v v' i : Value} (hgd : o.guard = none) (x y : Operand) (ho : o.op = .slice 43 x (some y) none none) (hx : a.eval x = v) (hy : a.eval y = i) (hr : ∀ W, (Instr.slice 43 v (some i) none none).run Try.prog W = .ok v' W) (h : wpList Try.prog ops Q rest (a.put o.dst v') w) : wpList Try.prog ops Q (o :: rest) a w := by
  refine wpList_plain hgd fun K hK => ?_
  unfold Oper.wp execOp
  simp only [ho, Option.map, hx, hy, Sem.run_bind, Sem.run_pure]
  simp [Instr.sliceAt, run_underlying Try.underlying43, hr, Result.andThen]
  exact hK _ _ h
def rakQ (Q : Ru) (n : Int) : Ru := { Q with left := n, sent := Q.sent - roN Q n, bs := Q.bs.drop (roN Q n), G := Q.G.drop (roN Q n) }
theorem roB_t {Q : Ru} {n : Int} (h : roB Q n = true) : numB n = true ∧ roN Q n ≤ Q.sent := by
  unfold roB at h
  rw [Bool.and_eq_true, decide_eq_true_eq] at h
  exact ⟨h.1, by unfold roN; omega⟩
theorem rakQ_fine {Q : Ru} (h : Q.Fine) {n : Int} (hp : roB Q n = true) : (rakQ Q n).Fine := by
  obtain ⟨hn, ho⟩ := roB_t hp
  obtain ⟨n0, n1⟩ := numB_t hn
  refine ⟨h.r0, h.r1, n0, n1, ?_, ?_, ?_⟩
  · show ((Q.bs.drop (roN Q n)).length : Int) ≤ Q.room
    rw [List.length_drop]
    have := h.ln
    omega
  · show Q.sent - roN Q n ≤ (Q.bs.drop (roN Q n)).length
    rw [List.length_drop]
    have := h.sn
    omega
  · show (Q.G.drop (roN Q n)).length = (Q.bs.drop (roN Q n)).length
    rw [List.length_drop, List.length_drop, h.gl]
theorem rack_f {w : World} {R : Bk} {r : Nat} {Q : Ru} {vg : Value} (h : RX w R r Q vg) (hf : Q.Fine) (n : Int) (hp : roB Q n = false) :
    Calls Try.prog 30 #[PR r, .int .i64 n] w fun e w' => e = .returned (.tuple #[.int .i64 0, .int .i64 1]) ∧ w' = w := by
  have hc := off_any h hf n
  rw [hp, if_neg (by decide)] at hc
  clear h
  go_enter Try.func30, Try.ntmps30
  go_wp2_with fail
  refine hc.mono ?_
  rintro e w' ⟨rfl, rfl⟩
  go_wp2
  go_ret2
  exact ⟨rfl, rfl⟩
set_option maxHeartbeats 2000000 in
theorem rack_t {w : World} {R : Bk} {r : Nat} {Q : Ru} {vg : Value} (h : RX w R r Q vg) (hf : Q.Fine) (hR : UpR R w) (n : Int) (hp : roB Q n = true) :
    Calls Try.prog 30 #[PR r, .int .i64 n] w fun e w' => e = .returned (.tuple #[.int .i64 (roN Q n : Int), .int .i64 0]) ∧ (∃ vg', RX w' R r (rakQ Q n) vg') ∧ TD R w w' := by
  have hc := off_any h hf n
  rw [hp, if_pos rfl] at hc
  obtain ⟨hn, ho⟩ := roB_t hp
  have hgl := hf.gl
  have hsn := hf.sn
  have hBL : Q.bs.length ≤ 65536 := by have := hf.ln; have := hf.r1; omega
  have HX : Hid (RX w R r Q vg) := h
  obtain ⟨d, hd⟩ : ∃ d, d = roN Q n := ⟨_, rfl⟩
  have HQ : Hid (rakQ Q n = ⟨Q.room, n, Q.sent - d, Q.bs.drop d, Q.G.drop d⟩) := by show _ = _; rw [hd]; rfl
  rw [← hd] at hc ho ⊢
  clear hd h hf
  have hss : (strB Q.bs).size = Q.bs.length := strB_size _
  have hex : (strB Q.bs).extract d (strB Q.bs).size = strB (Q.bs.drop d) := by
    rw [strB_extract, hss]
    show strB ((List.drop d Q.bs).take (Q.bs.length - d)) = _
    rw [List.take_of_length_le (by rw [List.length_drop]; exact Nat.le_refl _)]
  obtain ⟨⟨c0, c1, c2, c3, c4⟩, f0, f1, f2, f3, f4⟩ := HX.out.at5.five
  have hdS : (d : Int) ≤ ((strB Q.bs).size : Int) := by rw [hss]; omega
  have hdS2 : d ≤ (strB Q.bs).size := by rw [hss]; omega
  have hsI : (Q.sent : Int) - (d : Int) = ((Q.sent - d : Nat) : Int) := by omega
  have HSI : Hid ((Q.sent : Int) - (d : Int) = ((Q.sent - d : Nat) : Int)) := hsI
  have hs6 : (Q.sent : Int) ≤ 65536 := by omega
  have hd6 : (d : Int) ≤ 65536 := by omega
  have hdn : ¬ (d : Int) < 0 := by omega
  have HEX : Hid ((strB Q.bs).extract d (strB Q.bs).size = strB (Q.bs.drop d)) := hex
  clear hsI hex hss
  go_enter Try.func30, Try.ntmps30
  go_wp2_with fail
  refine hc.mono ?_
  rintro e w1 ⟨rfl, rfl⟩
  clear hc
  go_upto_region 5 with fail
  rw [HEX.out]
  have hAs := HX.out.at5.set 3 (.string (strB (Q.bs.drop d)))
  have hKs := HX.out.kd.set ⟨r, 3, none⟩ (.string (strB (Q.bs.drop d)))
  have hGs : GO (w1.setCell ⟨r, 3, none⟩ (.string (strB (Q.bs.drop d)))) R vg Q.G := row_set HX.out.go HX.out.kd (by decide) 3 _
  have hTs : TD R w1 (w1.setCell ⟨r, 3, none⟩ (.string (strB (Q.bs.drop d)))) := TY.set HX.out.kd (by decide) HX.out.ge 3 _
  clear c0 c1 c2 c3 c4 f0 f1 f2 f3 f4
  generalize w1.setCell ⟨r, 3, none⟩ (.string (strB (Q.bs.drop d))) = ws at *
  have bq := bel1 ws (.cells #[] 4)
  obtain ⟨vs, hrs, hrd⟩ := from_run hGs (d := d) (by omega)
  obtain ⟨v1, w2, hr1, hg1, hb1, -⟩ := clone_run (w := ws) (hrd.later bq) (by rw [List.length_drop]; omega) 43
  obtain ⟨a2, b2, e2, -⟩ := hg1.shape
  subst e2
  generalize (Q.G.drop d).length = ln at *
  have hA2 := hAs.later hb1
  have hK2 := hKs.later hb1
  have hRs : UpR R ws := hR.up hTs.size
  have HG2 : Hid (GO w2 R (.slice a2 ln b2) (Q.G.drop d)) := row_low hg1 hRs
  have HT2 : Hid (TD R w1 w2) := hTs.later hb1
  obtain ⟨s4a, s4b⟩ := (hAs.later bq).2 4 _ rfl
  obtain ⟨d0, d0f⟩ := hA2.2 0 _ rfl
  obtain ⟨d1, d1f⟩ := hA2.2 1 _ rfl
  obtain ⟨d4, d4f⟩ := hA2.2 4 _ rfl
  have HA2 : Hid (At w2 r #[.int .i64 Q.left, .int .i64 (Q.sent : Int), .int .i64 Q.room, .string (strB (Q.bs.drop d)), vg] ∧ Kd w2 r 45) := ⟨hA2, hK2⟩
  clear hA2 hK2 hTs hGs hKs hAs hg1 hb1 hrd
  go_wp2_with (first
    | (refine wpList_from_eq rfl _ _ rfl rfl rfl hrs ?_)
    | (at_builtin; refine wpList_append_eq2 rfl _ _ rfl rfl rfl hr1 ?_)
    | go_in)
  go_ret2
  rw [HSI.out]
  obtain ⟨q1, q2⟩ := HA2.out
  have k1 := q2.set ⟨r, 4, none⟩ (.slice a2 ln b2)
  have k2 := k1.set ⟨r, 1, none⟩ (.int .i64 ((Q.sent - d : Nat) : Int))
  refine ⟨rfl, ⟨.slice a2 ln b2, ?_⟩, ?_⟩
  · rw [HQ.out]
    exact ⟨((q1.set 4 (.slice a2 ln b2)).set 1 (.int .i64 ((Q.sent - d : Nat) : Int))).set 0 (.int .i64 n), k2.set _ _, HX.out.ge, row_set (row_set (row_set HG2.out q2 (by decide) _ _) k1 (by decide) _ _) k2 (by decide) _ _⟩
  · exact HT2.out.trans ((TY.set q2 (by decide) HX.out.ge _ _).trans ((TY.set k1 (by decide) HX.out.ge _ _).trans (TY.set k2 (by decide) HX.out.ge _ _)))
end Go.Proofs.Ytlbdecjppgjdiaa
