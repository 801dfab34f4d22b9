/- FragMixed, walked. -/
import Derived.Test.YtcjhniehbafhpaaGc
import Derived.Test.YtcjhniehbafhpaaFz
import Derived.Test.YtcjhniehbafhpaaFlat
import Derived.Deep.Cut
import Derived.Deep.CutRange
import Derived.Deep.QuietTactic
import Derived.BigQuiet
import Derived.Great.BuildSlice
namespace Go.Proofs.Ytcjhniehbafhpaa
open Go.RowKit Go.Maps
set_option maxRecDepth 100000
set_option linter.unusedVariables false
set_option linter.unusedSimpArgs false

theorem len_qn {w : World} {R B M : Nat} {ro pa la tu : Int} (h : BX w R B M ro pa la tu []) (n : Nat) : Calls Try.prog 15 #[.pointer (some ⟨B, 0, none⟩)] (w.drewN n) fun e w' => e = .returned (.int .i64 0) ∧ ∃ q, w' = (w.drewN n).drewN q := len_q (h.later (below_drewN (Below.refl _ _) n))
theorem bsP (q : Pk) (w : World) : (Instr.buildSlice 36 1 #[(0, .agg #[.int .i64 q.f, .int .i64 q.t, .int .i64 q.tl, .int .i64 q.pr, .int .i64 q.id, .int .i64 q.fr, .bool q.mo, .bool q.dn, .string q.op, .string q.da])]).run Try.prog w = .ok (.slice (some ⟨w.heap.size, 0, none⟩) 1 1) (w.alloc (.cells #[.int .i64 q.f, .int .i64 q.t, .int .i64 q.tl, .int .i64 q.pr, .int .i64 q.id, .int .i64 q.fr, .bool q.mo, .bool q.dn, .string q.op, .string q.da] 32)) := by
  obtain ⟨i0, hi, hz0, hz1, hz2⟩ := info_parts infoP
  refine run_buildSlice w 36 32 1 _ _ i0 _ Try.underlying36 hi hz0 (by rw [hz1]; decide) (by rw [hz1]; decide) ?_
  rw [hz1]; kernel_rfl
/-- []Packet{q}. -/
theorem wpList_bsliceP {w : World} {ops : Array Oper} {rest : List Oper} {op : Oper} {a : Act} {Q : Exit → Act → World → Prop} (hgd : op.guard = none) (i : Operand) (ho : op.op = .buildSlice 36 1 #[(0, i)]) (q : Pk) (vs : Array Value) (hvs : vs = #[.int .i64 q.f, .int .i64 q.t, .int .i64 q.tl, .int .i64 q.pr, .int .i64 q.id, .int .i64 q.fr, .bool q.mo, .bool q.dn, .string q.op, .string q.da]) (hi : a.eval i = .agg vs)
    (h : wpList Try.prog ops Q rest (a.put op.dst (.slice (some ⟨w.heap.size, 0, none⟩) 1 1)) (w.alloc (.cells vs 32))) : wpList Try.prog ops Q (op :: rest) a w := by
  subst hvs
  refine wpList_plain hgd fun K hK => ?_
  unfold Oper.wp execOp
  have e' : (#[(0, i)].map fun (p : Nat × Operand) => (p.1, a.eval p.2)) = #[(0, .agg #[.int .i64 q.f, .int .i64 q.t, .int .i64 q.tl, .int .i64 q.pr, .int .i64 q.id, .int .i64 q.fr, .bool q.mo, .bool q.dn, .string q.op, .string q.da])] := by simp [hi]
  simp only [ho, Sem.run_bind]
  rw [e', bsP]
  exact hK _ _ h
theorem cut_run (g o m c : Nat) (W : World) : (Instr.slice 36 (.slice (some ⟨g, o, none⟩) (m + 1) (c + 1)) (some (.int .i64 1)) none none).run Try.prog W = .ok (.slice (if c = 0 then some ⟨g, o, none⟩ else some ⟨g, o + 10, none⟩) m c) W := by
  have hs : (sizeOf (Try.prog.elem 36)).run Try.prog W = .ok 10 W := by kernel_rfl
  rw [run_slice_l W 36 _ (m + 1) (c + 1) (by kernel_rfl) .i64 1 (by decide) (by omega), hs]
  show Result.ok (sliced _ 1 (m + 1) (c + 1) 10) W = _
  unfold sliced
  by_cases e : c = 0
  · subst e; simp
  · rw [if_neg (by omega), if_neg e]; simp [Addr.add_mid]
set_option maxHeartbeats 16000000 in
theorem mixed_any (a b : ByteArray) (oa : Option Addr) (on cap : Nat) (w : World) (hr : Flat.Rows w oa on 1 [.b]) (hz : on < 1000000000000000) (ha : a.size ≤ 140737488351232) (hb : b.size ≤ 140737488351232) :
    Calls Try.prog 6 #[.string a, .string b, .slice oa on cap] w fun e w' => e = .returned (.bool true) ∧ Below w.heap.size w w' := by
  have HA : Hid (Flat.Rows w oa on 1 [.b]) := hr
  clear hr
  have ha' : (a.size : Int) ≤ 140737488351232 := by omega
  have hb' : (b.size : Int) ≤ 140737488351232 := by omega
  go_enter Try.func6, Try.ntmps6
  go_wp2_with fail
  refine (works_any w).mono ?_
  rintro e w1 ⟨rfl, l1⟩
  by_cases h1 : (200 : Int) < (a.size : Int)
  · go_wp2
    go_ret
    exact ⟨rfl, l1⟩
  by_cases h2 : (200 : Int) < (b.size : Int)
  · go_wp2
    go_ret
    exact ⟨rfl, l1⟩
  have hone1 : (#[.int .i64 1, .int .i64 2, .int .i64 9, .int .i64 0, .int .i64 5, .int .i64 0, .bool false, .bool false, .string ⟨#[]⟩, .string a] : Array Value).all (·.oneCell') = true := by simp [Value.oneCell']
  have hone2 : (#[.int .i64 1, .int .i64 2, .int .i64 9, .int .i64 0, .int .i64 6, .int .i64 0, .bool false, .bool false, .string ⟨#[]⟩, .string b] : Array Value).all (·.oneCell') = true := by simp [Value.oneCell']
  go_upto_region 6 with (first
    | (refine wpList_store_at rfl 32 _ _ rfl _ w1.heap.size #[.int .i64 0, .int .i64 0, .int .i64 0, .int .i64 0, .int .i64 0, .int .i64 0, .bool false, .bool false, .string ⟨#[]⟩, .string ⟨#[]⟩] #[.int .i64 1, .int .i64 2, .int .i64 9, .int .i64 0, .int .i64 5, .int .i64 0, .bool false, .bool false, .string ⟨#[]⟩, .string a] rfl rfl (At.box w1 #[.int .i64 0, .int .i64 0, .int .i64 0, .int .i64 0, .int .i64 0, .int .i64 0, .bool false, .bool false, .string ⟨#[]⟩, .string ⟨#[]⟩] 32) rfl (by kernel_rfl) hone1 ?_; intro w2 hX2 ht2)
    | go_in)
  have q2 : Below w1.heap.size w1 w2 := (bel1 w1 (.cells #[.int .i64 0, .int .i64 0, .int .i64 0, .int .i64 0, .int .i64 0, .int .i64 0, .bool false, .bool false, .string ⟨#[]⟩, .string ⟨#[]⟩] 32)).trans (below_turn ht2 (Nat.le_refl _) (bel1 w1 _).size)
  have l2 := bt l1 q2
  have s2 := hX2.1
  clear ht2 l1
  go_upto_region 7 with (first
    | (refine wpList_store_at rfl 32 _ _ rfl _ w2.heap.size #[.int .i64 0, .int .i64 0, .int .i64 0, .int .i64 0, .int .i64 0, .int .i64 0, .bool false, .bool false, .string ⟨#[]⟩, .string ⟨#[]⟩] #[.int .i64 1, .int .i64 2, .int .i64 9, .int .i64 0, .int .i64 6, .int .i64 0, .bool false, .bool false, .string ⟨#[]⟩, .string b] rfl rfl (At.box w2 #[.int .i64 0, .int .i64 0, .int .i64 0, .int .i64 0, .int .i64 0, .int .i64 0, .bool false, .bool false, .string ⟨#[]⟩, .string ⟨#[]⟩] 32) rfl (by kernel_rfl) hone2 ?_; intro w3 hY3 ht3)
    | go_in)
  have q3 : Below w2.heap.size w2 w3 := (bel1 w2 (.cells #[.int .i64 0, .int .i64 0, .int .i64 0, .int .i64 0, .int .i64 0, .int .i64 0, .bool false, .bool false, .string ⟨#[]⟩, .string ⟨#[]⟩] 32)).trans (below_turn ht3 (Nat.le_refl _) (bel1 w2 _).size)
  have l3 := bt l2 q3
  have hX3 := hX2.later q3
  have s3 := hY3.1
  clear ht3 l2 hX2 q2 q3
  have h1' : a.size ≤ 200 := by omega
  have h2' : b.size ≤ 200 := by omega
  obtain ⟨ps1, hC1⟩ := mix_cuts 5 a 36 (by decide) (by decide) h1' (by decide) (by decide)
  obtain ⟨ps2, hC2⟩ := mix_cuts 6 b 44 (by decide) (by decide) h2' (by decide) (by decide)
  go_wp2_with (first | (refine wpList_load_at rfl 32 _ rfl _ w1.heap.size #[.int .i64 1, .int .i64 2, .int .i64 9, .int .i64 0, .int .i64 5, .int .i64 0, .bool false, .bool false, .string ⟨#[]⟩, .string a] _ rfl hX3 Try.underlying32 (by kernel_rfl) ?_) | fail)
  refine (pieces_any 1 2 9 0 5 0 false false ⟨#[]⟩ a 36 0 ps1 w3 (by decide) (by omega) hC1).mono ?_
  rintro e w4 ⟨v1, rfl, q4, hown1⟩
  have hr1 : RW w4 w3.heap.size v1 ps1 := hown1
  have hX4 := hX3.later q4
  have hY4 := hY3.later q4
  have l4 := bt l3 q4
  have s4 := q4.size
  clear hown1 hX3 hY3 l3 q4
  go_wp2_with (first | (refine wpList_load_at rfl 32 _ rfl _ w2.heap.size #[.int .i64 1, .int .i64 2, .int .i64 9, .int .i64 0, .int .i64 6, .int .i64 0, .bool false, .bool false, .string ⟨#[]⟩, .string b] _ rfl hY4 Try.underlying32 (by kernel_rfl) ?_) | fail)
  refine (pieces_any 1 2 9 0 6 0 false false ⟨#[]⟩ b 44 0 ps2 w4 (by decide) (by omega) hC2).mono ?_
  rintro e w5 ⟨v2, rfl, q5, hown2⟩
  have hr2 : RW w5 w4.heap.size v2 ps2 := hown2
  have hX5 := hX4.later q5
  have hY5 := hY4.later q5
  have hr15 := hr1.later q5
  have l5 := bt l4 q5
  have s5 := q5.size
  have hrl1 : ∀ k, v1.ownBlock = some k → k < w4.heap.size := fun k hk => hr1.lt k hk
  clear hown2 hX4 hY4 l4 q5 hr1
  go_wp2_with fail
  refine (new_t 4 1000 w5 (by decide) (by decide) (by decide) (by decide)).mono ?_
  rintro e w6 ⟨rfl, hBo, hGo, q6⟩
  have hX6 := hX5.later q6
  have hY6 := hY5.later q6
  have hr16 := hr15.later q6
  have hr26 := hr2.later q6
  have l6 := bt l5 q6
  have hrl2 : ∀ k, v2.ownBlock = some k → k < w5.heap.size := fun k hk => hr2.lt k hk
  have s6 := hBo.1
  have s05 := l5.size
  clear hX5 hY5 hr15 hr2 l5 q6
  obtain ⟨G1, N1, hP1, rfl, hN1⟩ := cuts_py hC1 (by omega)
  obtain ⟨G2, N2, hP2, rfl, hN2⟩ := cuts_py hC2 (by omega)
  clear hC1 hC2
  have hln1 : ((List.range (N1 + 1)).map G1).length = N1 + 1 := by simp
  have hln2 : ((List.range (N2 + 1)).map G2).length = N2 + 1 := by simp
  obtain ⟨g1, c1, cur1, hv1, hg1, -, hc1, -⟩ := hr16.real (fun e => by rw [e] at hln1; cases hln1)
  obtain ⟨g2, c2, cur2, hv2, hg2, -, hc2, -⟩ := hr26.real (fun e => by rw [e] at hln2; cases hln2)
  rw [hln1] at hv1 hc1
  rw [hln2] at hv2 hc2
  subst hv1 hv2
  have hgl1 := hrl1 g1 rfl
  have hgl2 := hrl2 g2 rfl
  clear hrl1 hrl2 hln1 hln2
  have HP1 : Hid (PY (⟨1, 2, 9, 0, 5, 0, false, false, ⟨#[]⟩, a⟩ : Pk) G1 N1) := hP1
  have HP2 : Hid (PY (⟨1, 2, 9, 0, 6, 0, false, false, ⟨#[]⟩, b⟩ : Pk) G2 N2) := hP2
  have HR1 : Hid (RW w6 w3.heap.size (.slice (some ⟨g1, 0, none⟩) (N1 + 1) c1) ((List.range (N1 + 1)).map G1)) := hr16
  have HR2 : Hid (RW w6 w4.heap.size (.slice (some ⟨g2, 0, none⟩) (N2 + 1) c2) ((List.range (N2 + 1)).map G2)) := hr26
  have HX : Hid (At w6 w1.heap.size #[.int .i64 1, .int .i64 2, .int .i64 9, .int .i64 0, .int .i64 5, .int .i64 0, .bool false, .bool false, .string ⟨#[]⟩, .string a]) := hX6
  have HY : Hid (At w6 w2.heap.size #[.int .i64 1, .int .i64 2, .int .i64 9, .int .i64 0, .int .i64 6, .int .i64 0, .bool false, .bool false, .string ⟨#[]⟩, .string b]) := hY6
  have hBX : BX w6 w6.heap.size (w5.heap.size + 1) w5.heap.size 4 1000 0 0 [] := ⟨hBo, hGo, (fun x hx => by cases hx), List.Pairwise.nil, by omega, by omega, Nat.le_refl _, by omega⟩
  have HM0 : Hid (MX w6 w6 (w5.heap.size + 1) w5.heap.size (⟨1, 2, 9, 0, 5, 0, false, false, ⟨#[]⟩, a⟩ : Pk) (⟨1, 2, 9, 0, 6, 0, false, false, ⟨#[]⟩, b⟩ : Pk) G1 G2 N1 N2 0 0 (decide (0 = N1 + 1)) (decide (0 = N2 + 1)) (.slice none 0 0) [] 0 0 []) := by
    have e1 : decide (0 = N1 + 1) = false := decide_eq_false (by omega)
    have e2 : decide (0 = N2 + 1) = false := decide_eq_false (by omega)
    rw [e1, e2]
    exact ⟨hBX, Or.inl ⟨by simp, fun x hx => by cases hx⟩, Or.inl ⟨by simp, fun x hx => by cases hx⟩, rfl, Nat.zero_le _, Nat.zero_le _, by decide, by decide, by decide, RW.nil _ _, (fun q hq => by cases hq), rfl, Turn.refl _⟩
  have hne : mk (⟨1, 2, 9, 0, 6, 0, false, false, ⟨#[]⟩, b⟩ : Pk) ≠ mk (⟨1, 2, 9, 0, 5, 0, false, false, ⟨#[]⟩, a⟩ : Pk) := fun e => by
    have := congrArg Mk.id e
    simp [mk] at this
  have HNE : Hid (mk (⟨1, 2, 9, 0, 6, 0, false, false, ⟨#[]⟩, b⟩ : Pk) ≠ mk (⟨1, 2, 9, 0, 5, 0, false, false, ⟨#[]⟩, a⟩ : Pk)) := hne
  clear hP1 hP2 hr16 hr26 hX6 hY6 hBX hBo hGo hne hone1 hone2 h1 h2 h1' h2'
  go_wp2
  go_loopw [9, 11, 15, 16] (fun vl vk vq vi wr => ∃ (i1 i2 : Nat) (got : List Pk) (la tu : Int) (lp : List Pile) (iz : Int) (vg : Value), vq = vg ∧ CutV g1 (N1 + 1) i1 vl ∧ CutV g2 (N2 + 1) i2 vk ∧ vi = .int .i64 iz ∧ iz = (i1 : Int) + (i2 : Int) ∧ MX w6 wr (w5.heap.size + 1) w5.heap.size (⟨1, 2, 9, 0, 5, 0, false, false, ⟨#[]⟩, a⟩ : Pk) (⟨1, 2, 9, 0, 6, 0, false, false, ⟨#[]⟩, b⟩ : Pk) G1 G2 N1 N2 i1 i2 (decide (i1 = N1 + 1)) (decide (i2 = N2 + 1)) vg got la tu lp) (fun _ _ _ vi _ => 200 - (intOf vi).toNat)
  case atStart => exact ⟨0, 0, [], 0, 0, [], 0, _, rfl, ⟨_, _, rfl, hc1, fun _ => by rw [Nat.zero_mul]⟩, ⟨_, _, rfl, hc2, fun _ => by rw [Nat.zero_mul]⟩, rfl, rfl, HM0.out⟩
  case round =>
    clear hc1 hc2 HM0
    obtain ⟨i1, i2, got, la, tu, lp, iz, vg, rfl, ⟨a1, d1, rfl, hd1, ha1⟩, ⟨a2, d2, rfl, hd2, ha2⟩, rfl, hiz, hM⟩ := hrel
    have hl1 := hM.l1
    have hl2 := hM.l2
    have hbW : Below w.heap.size w wr := l6.trans (hM.tr.below l6.size (fun k hk e => by have := l6.size; unfold FB at e; omega))
    obtain ⟨n1, hn1⟩ : ∃ n1, n1 = N1 + 1 - i1 := ⟨_, rfl⟩
    obtain ⟨n2, hn2⟩ : ∃ n2, n2 = N2 + 1 - i2 := ⟨_, rfl⟩
    rw [← hn1] at hd1
    rw [← hn2] at hd2
    rw [← hn1, ← hn2]
    have HN : Hid (n1 = N1 + 1 - i1 ∧ n2 = N2 + 1 - i2 ∧ iz = (i1 : Int) + (i2 : Int)) := ⟨hn1, hn2, hiz⟩
    have hiz0 : 0 ≤ iz := by omega
    have hiz1 : iz ≤ 130 := by omega
    by_cases hend : n1 = 0 ∧ n2 = 0
    · as_aux_lemma =>
        obtain ⟨rfl, rfl⟩ := hend
        obtain rfl : i1 = N1 + 1 := by omega
        obtain rfl : i2 = N2 + 1 := by omega
        have hlp := hM.fin
        subst hlp
        clear hn1 hn2 hiz HN hl1 hl2 hd1 hd2 ha1 ha2
        have hXr := HX.out.turn hM.tr (by unfold FB; omega)
        have hYr := HY.out.turn hM.tr (by unfold FB; omega)
        obtain ⟨⟨x0, x1, x2, x3, x4, x5, x6, x7, x8, x9⟩, -, -⟩ := hXr.ten
        obtain ⟨⟨y0, y1, y2, y3, y4, y5, y6, y7, y8, y9⟩, -, -⟩ := hYr.ten
        have hgt := hM.gt
        have hrow := hM.row
        have hbx := hM.bx
        rw [decide_eq_true rfl, decide_eq_true rfl] at hgt
        clear hM hXr hYr
        rcases hgt with rfl | rfl
        · obtain ⟨gg, cg, cur, hvg, -⟩ := hrow.real (by simp)
          subst hvg
          have z0_0 : wr.cell? ⟨gg, 0, none⟩ = some (.int .i64 1) := hrow.cells (i := 0) (p := (⟨1, 2, 9, 0, 5, 0, false, false, ⟨#[]⟩, a⟩ : Pk)) rfl 0 _ rfl
          have z0_1 : wr.cell? ⟨gg, 1, none⟩ = some (.int .i64 2) := hrow.cells (i := 0) (p := (⟨1, 2, 9, 0, 5, 0, false, false, ⟨#[]⟩, a⟩ : Pk)) rfl 1 _ rfl
          have z0_2 : wr.cell? ⟨gg, 2, none⟩ = some (.int .i64 9) := hrow.cells (i := 0) (p := (⟨1, 2, 9, 0, 5, 0, false, false, ⟨#[]⟩, a⟩ : Pk)) rfl 2 _ rfl
          have z0_3 : wr.cell? ⟨gg, 3, none⟩ = some (.int .i64 0) := hrow.cells (i := 0) (p := (⟨1, 2, 9, 0, 5, 0, false, false, ⟨#[]⟩, a⟩ : Pk)) rfl 3 _ rfl
          have z0_4 : wr.cell? ⟨gg, 4, none⟩ = some (.int .i64 5) := hrow.cells (i := 0) (p := (⟨1, 2, 9, 0, 5, 0, false, false, ⟨#[]⟩, a⟩ : Pk)) rfl 4 _ rfl
          have z0_5 : wr.cell? ⟨gg, 5, none⟩ = some (.int .i64 0) := hrow.cells (i := 0) (p := (⟨1, 2, 9, 0, 5, 0, false, false, ⟨#[]⟩, a⟩ : Pk)) rfl 5 _ rfl
          have z0_6 : wr.cell? ⟨gg, 6, none⟩ = some (.bool false) := hrow.cells (i := 0) (p := (⟨1, 2, 9, 0, 5, 0, false, false, ⟨#[]⟩, a⟩ : Pk)) rfl 6 _ rfl
          have z0_7 : wr.cell? ⟨gg, 7, none⟩ = some (.bool false) := hrow.cells (i := 0) (p := (⟨1, 2, 9, 0, 5, 0, false, false, ⟨#[]⟩, a⟩ : Pk)) rfl 7 _ rfl
          have z0_8 : wr.cell? ⟨gg, 8, none⟩ = some (.string ⟨#[]⟩) := hrow.cells (i := 0) (p := (⟨1, 2, 9, 0, 5, 0, false, false, ⟨#[]⟩, a⟩ : Pk)) rfl 8 _ rfl
          have z0_9 : wr.cell? ⟨gg, 9, none⟩ = some (.string a) := hrow.cells (i := 0) (p := (⟨1, 2, 9, 0, 5, 0, false, false, ⟨#[]⟩, a⟩ : Pk)) rfl 9 _ rfl
          have z1_0 : wr.cell? ⟨gg, 10, none⟩ = some (.int .i64 1) := hrow.cells (i := 1) (p := (⟨1, 2, 9, 0, 6, 0, false, false, ⟨#[]⟩, b⟩ : Pk)) rfl 0 _ rfl
          have z1_1 : wr.cell? ⟨gg, 11, none⟩ = some (.int .i64 2) := hrow.cells (i := 1) (p := (⟨1, 2, 9, 0, 6, 0, false, false, ⟨#[]⟩, b⟩ : Pk)) rfl 1 _ rfl
          have z1_2 : wr.cell? ⟨gg, 12, none⟩ = some (.int .i64 9) := hrow.cells (i := 1) (p := (⟨1, 2, 9, 0, 6, 0, false, false, ⟨#[]⟩, b⟩ : Pk)) rfl 2 _ rfl
          have z1_3 : wr.cell? ⟨gg, 13, none⟩ = some (.int .i64 0) := hrow.cells (i := 1) (p := (⟨1, 2, 9, 0, 6, 0, false, false, ⟨#[]⟩, b⟩ : Pk)) rfl 3 _ rfl
          have z1_4 : wr.cell? ⟨gg, 14, none⟩ = some (.int .i64 6) := hrow.cells (i := 1) (p := (⟨1, 2, 9, 0, 6, 0, false, false, ⟨#[]⟩, b⟩ : Pk)) rfl 4 _ rfl
          have z1_5 : wr.cell? ⟨gg, 15, none⟩ = some (.int .i64 0) := hrow.cells (i := 1) (p := (⟨1, 2, 9, 0, 6, 0, false, false, ⟨#[]⟩, b⟩ : Pk)) rfl 5 _ rfl
          have z1_6 : wr.cell? ⟨gg, 16, none⟩ = some (.bool false) := hrow.cells (i := 1) (p := (⟨1, 2, 9, 0, 6, 0, false, false, ⟨#[]⟩, b⟩ : Pk)) rfl 6 _ rfl
          have z1_7 : wr.cell? ⟨gg, 17, none⟩ = some (.bool false) := hrow.cells (i := 1) (p := (⟨1, 2, 9, 0, 6, 0, false, false, ⟨#[]⟩, b⟩ : Pk)) rfl 7 _ rfl
          have z1_8 : wr.cell? ⟨gg, 18, none⟩ = some (.string ⟨#[]⟩) := hrow.cells (i := 1) (p := (⟨1, 2, 9, 0, 6, 0, false, false, ⟨#[]⟩, b⟩ : Pk)) rfl 8 _ rfl
          have z1_9 : wr.cell? ⟨gg, 19, none⟩ = some (.string b) := hrow.cells (i := 1) (p := (⟨1, 2, 9, 0, 6, 0, false, false, ⟨#[]⟩, b⟩ : Pk)) rfl 9 _ rfl
          clear hrow
          have hamo := among_any 5 2 wr (by decide) (by decide)
          rw [show (5 : Int) % 2 = 1 from rfl] at hamo
          go_wp2_with fail
          refine hamo.mono ?_
          rintro e w8 ⟨rfl, rfl⟩
          go_upto_region 28 with fail
          go_quiet ((go_at_call 15; refine Calls.quiet_of (len_qn hbx _)))
          go_wp2
          go_ret
          exact ⟨rfl, below_drewN hbW _⟩
        · obtain ⟨gg, cg, cur, hvg, -⟩ := hrow.real (by simp)
          subst hvg
          have z0_0 : wr.cell? ⟨gg, 0, none⟩ = some (.int .i64 1) := hrow.cells (i := 0) (p := (⟨1, 2, 9, 0, 6, 0, false, false, ⟨#[]⟩, b⟩ : Pk)) rfl 0 _ rfl
          have z0_1 : wr.cell? ⟨gg, 1, none⟩ = some (.int .i64 2) := hrow.cells (i := 0) (p := (⟨1, 2, 9, 0, 6, 0, false, false, ⟨#[]⟩, b⟩ : Pk)) rfl 1 _ rfl
          have z0_2 : wr.cell? ⟨gg, 2, none⟩ = some (.int .i64 9) := hrow.cells (i := 0) (p := (⟨1, 2, 9, 0, 6, 0, false, false, ⟨#[]⟩, b⟩ : Pk)) rfl 2 _ rfl
          have z0_3 : wr.cell? ⟨gg, 3, none⟩ = some (.int .i64 0) := hrow.cells (i := 0) (p := (⟨1, 2, 9, 0, 6, 0, false, false, ⟨#[]⟩, b⟩ : Pk)) rfl 3 _ rfl
          have z0_4 : wr.cell? ⟨gg, 4, none⟩ = some (.int .i64 6) := hrow.cells (i := 0) (p := (⟨1, 2, 9, 0, 6, 0, false, false, ⟨#[]⟩, b⟩ : Pk)) rfl 4 _ rfl
          have z0_5 : wr.cell? ⟨gg, 5, none⟩ = some (.int .i64 0) := hrow.cells (i := 0) (p := (⟨1, 2, 9, 0, 6, 0, false, false, ⟨#[]⟩, b⟩ : Pk)) rfl 5 _ rfl
          have z0_6 : wr.cell? ⟨gg, 6, none⟩ = some (.bool false) := hrow.cells (i := 0) (p := (⟨1, 2, 9, 0, 6, 0, false, false, ⟨#[]⟩, b⟩ : Pk)) rfl 6 _ rfl
          have z0_7 : wr.cell? ⟨gg, 7, none⟩ = some (.bool false) := hrow.cells (i := 0) (p := (⟨1, 2, 9, 0, 6, 0, false, false, ⟨#[]⟩, b⟩ : Pk)) rfl 7 _ rfl
          have z0_8 : wr.cell? ⟨gg, 8, none⟩ = some (.string ⟨#[]⟩) := hrow.cells (i := 0) (p := (⟨1, 2, 9, 0, 6, 0, false, false, ⟨#[]⟩, b⟩ : Pk)) rfl 8 _ rfl
          have z0_9 : wr.cell? ⟨gg, 9, none⟩ = some (.string b) := hrow.cells (i := 0) (p := (⟨1, 2, 9, 0, 6, 0, false, false, ⟨#[]⟩, b⟩ : Pk)) rfl 9 _ rfl
          have z1_0 : wr.cell? ⟨gg, 10, none⟩ = some (.int .i64 1) := hrow.cells (i := 1) (p := (⟨1, 2, 9, 0, 5, 0, false, false, ⟨#[]⟩, a⟩ : Pk)) rfl 0 _ rfl
          have z1_1 : wr.cell? ⟨gg, 11, none⟩ = some (.int .i64 2) := hrow.cells (i := 1) (p := (⟨1, 2, 9, 0, 5, 0, false, false, ⟨#[]⟩, a⟩ : Pk)) rfl 1 _ rfl
          have z1_2 : wr.cell? ⟨gg, 12, none⟩ = some (.int .i64 9) := hrow.cells (i := 1) (p := (⟨1, 2, 9, 0, 5, 0, false, false, ⟨#[]⟩, a⟩ : Pk)) rfl 2 _ rfl
          have z1_3 : wr.cell? ⟨gg, 13, none⟩ = some (.int .i64 0) := hrow.cells (i := 1) (p := (⟨1, 2, 9, 0, 5, 0, false, false, ⟨#[]⟩, a⟩ : Pk)) rfl 3 _ rfl
          have z1_4 : wr.cell? ⟨gg, 14, none⟩ = some (.int .i64 5) := hrow.cells (i := 1) (p := (⟨1, 2, 9, 0, 5, 0, false, false, ⟨#[]⟩, a⟩ : Pk)) rfl 4 _ rfl
          have z1_5 : wr.cell? ⟨gg, 15, none⟩ = some (.int .i64 0) := hrow.cells (i := 1) (p := (⟨1, 2, 9, 0, 5, 0, false, false, ⟨#[]⟩, a⟩ : Pk)) rfl 5 _ rfl
          have z1_6 : wr.cell? ⟨gg, 16, none⟩ = some (.bool false) := hrow.cells (i := 1) (p := (⟨1, 2, 9, 0, 5, 0, false, false, ⟨#[]⟩, a⟩ : Pk)) rfl 6 _ rfl
          have z1_7 : wr.cell? ⟨gg, 17, none⟩ = some (.bool false) := hrow.cells (i := 1) (p := (⟨1, 2, 9, 0, 5, 0, false, false, ⟨#[]⟩, a⟩ : Pk)) rfl 7 _ rfl
          have z1_8 : wr.cell? ⟨gg, 18, none⟩ = some (.string ⟨#[]⟩) := hrow.cells (i := 1) (p := (⟨1, 2, 9, 0, 5, 0, false, false, ⟨#[]⟩, a⟩ : Pk)) rfl 8 _ rfl
          have z1_9 : wr.cell? ⟨gg, 19, none⟩ = some (.string a) := hrow.cells (i := 1) (p := (⟨1, 2, 9, 0, 5, 0, false, false, ⟨#[]⟩, a⟩ : Pk)) rfl 9 _ rfl
          clear hrow
          have hamo := among_any 6 2 wr (by decide) (by decide)
          rw [show (6 : Int) % 2 = 0 from rfl] at hamo
          go_wp2_with fail
          refine hamo.mono ?_
          rintro e w8 ⟨rfl, rfl⟩
          go_upto_region 28 with fail
          go_quiet ((go_at_call 15; refine Calls.quiet_of (len_qn hbx _)))
          go_wp2
          go_ret
          exact ⟨rfl, below_drewN hbW _⟩
    have hpos : (0 : Int) < (n1 : Int) + (n2 : Int) := by omega
    have hn60 : (n1 : Int) ≤ 100 := by omega
    have hn61 : (n2 : Int) ≤ 100 := by omega
    clear hn1 hn2 hiz
    go_upto_region 16 with fail
    go_cut [17] from 66 to 139 (fun s W => ∃ fst : Bool, s = .bool fst ∧ W = wr ∧ (fst = true → i1 ≤ N1) ∧ (fst = false → i2 ≤ N2))
    case first =>
      as_aux_lemma =>
        by_cases e2 : n2 = 0
        · subst e2
          go_wp2
          go_meet
          case rel => exact ⟨true, rfl, rfl, fun _ => by have := HN.out; omega, (fun h => by cases h)⟩
        have e2' : ¬ (n2 : Int) = 0 := by omega
        have e2b : ((n2 : Int) == 0) = false := by simp; omega
        by_cases e1 : n1 = 0
        · subst e1
          go_wp2
          go_meet
          case rel => exact ⟨false, rfl, rfl, (fun h => by cases h), fun _ => by have := HN.out; omega⟩
        have e1' : (0 : Int) < (n1 : Int) := by omega
        by_cases e3 : iz < (on : Int)
        · obtain ⟨ab, off, rfl, hrow⟩ : ∃ b off, oa = some ⟨b, off, none⟩ ∧ ∀ k, k < on → ∃ cs : List Value, Flat.Ok [.b] cs ∧ ∀ j v, cs[j]? = some v → w.cell? ⟨b, off + k * 1 + j, none⟩ = some v := by
            rcases HA.out with h | h
            · omega
            · exact h
          obtain ⟨K, rfl⟩ : ∃ K : Nat, iz = (K : Int) := ⟨iz.toNat, by omega⟩
          obtain ⟨cs, ⟨hcl, hck⟩, hcc⟩ := hrow K (by omega)
          clear hrow
          match cs, hcl with
          | [v0], _ =>
          obtain ⟨bk, rfl⟩ := hck 0 _ _ rfl rfl
          have y0 : wr.cell? ⟨ab, off + K, none⟩ = some (.bool bk) := by
            have := later hbW (hcc 0 _ rfl)
            rwa [Nat.mul_one, Nat.add_zero] at this
          clear hcc hck
          cases bk with
          | true =>
            go_wp2
            go_meet
            case rel => exact ⟨true, rfl, rfl, fun _ => by have := HN.out; omega, (fun h => by cases h)⟩
          | false =>
            go_wp2
            go_meet
            case rel => exact ⟨false, rfl, rfl, (fun h => by cases h), fun _ => by have := HN.out; omega⟩
        · go_wp2
          go_meet
          case rel => exact ⟨false, rfl, rfl, (fun h => by cases h), fun _ => by have := HN.out; omega⟩
    case rest =>
      obtain ⟨fst, rfl, rfl, hT, hFa⟩ := hcut
      cases fst with
      | true =>
        have hi1 := hT rfl
        clear hT hFa
        obtain rfl : a1 = some ⟨g1, i1 * 10, none⟩ := ha1 (by omega)
        obtain ⟨m, rfl⟩ : ∃ m, n1 = m + 1 := ⟨n1 - 1, by have := HN.out; omega⟩
        obtain ⟨c, rfl⟩ : ∃ c, d1 = c + 1 := ⟨d1 - 1, by omega⟩
        have hsl := cut_run g1 (i1 * 10) m c
        obtain ⟨A, hA⟩ : ∃ A, A = (if c = 0 then some (⟨g1, i1 * 10, none⟩ : Addr) else some ⟨g1, i1 * 10 + 10, none⟩) := ⟨_, rfl⟩
        rw [← hA] at hsl
        have HCV : Hid (CutV g1 (N1 + 1) (i1 + 1) (.slice A m c)) := ⟨A, c, by rw [show N1 + 1 - (i1 + 1) = m by have := HN.out; omega], by have := HN.out; omega, fun h => by rw [hA, if_neg (by have := HN.out; omega), show (i1 + 1) * 10 = i1 * 10 + 10 by omega]⟩
        have HCO : Hid (CutV g2 (N2 + 1) i2 (.slice a2 n2 d2)) := ⟨_, _, by rw [show N2 + 1 - i2 = n2 by have := HN.out; omega], by have := HN.out; omega, ha2⟩
        have hcd : decide (i1 = N1 + 1) = false := decide_eq_false (by omega)
        rw [hcd] at hM
        clear hA ha1 ha2 hd1 hd2 
        go_upto_region 19 with fail
        have hPb := At.box wc #[.int .i64 0, .int .i64 0, .int .i64 0, .int .i64 0, .int .i64 0, .int .i64 0, .bool false, .bool false, .string ⟨#[]⟩, .string ⟨#[]⟩] 32
        have qb := bel1 wc (.cells #[.int .i64 0, .int .i64 0, .int .i64 0, .int .i64 0, .int .i64 0, .int .i64 0, .bool false, .bool false, .string ⟨#[]⟩, .string ⟨#[]⟩] 32)
        obtain ⟨pb, hpb⟩ : ∃ z, z = wc.heap.size := ⟨_, rfl⟩
        have hlm : ∀ W, Below pb (wc.alloc (.cells #[.int .i64 0, .int .i64 0, .int .i64 0, .int .i64 0, .int .i64 0, .int .i64 0, .bool false, .bool false, .string ⟨#[]⟩, .string ⟨#[]⟩] 32)) W → MX w6 W (w5.heap.size + 1) w5.heap.size (⟨1, 2, 9, 0, 5, 0, false, false, ⟨#[]⟩, a⟩ : Pk) (⟨1, 2, 9, 0, 6, 0, false, false, ⟨#[]⟩, b⟩ : Pk) G1 G2 N1 N2 i1 i2 false (decide (i2 = N2 + 1)) u15 got la tu lp := fun W hW => hM.later (qb.trans (by rw [← hpb]; exact hW))
        have hww : ∀ W, Below pb (wc.alloc (.cells #[.int .i64 0, .int .i64 0, .int .i64 0, .int .i64 0, .int .i64 0, .int .i64 0, .bool false, .bool false, .string ⟨#[]⟩, .string ⟨#[]⟩] 32)) W → Below w.heap.size w W := fun W hW => bt hbW (qb.trans (by rw [← hpb]; exact hW))
        have hs6 := hM.tr.size
        have hrowG := HR1.out.turn (hM.tr.later qb) (fun k hk => by simp [Value.ownBlock] at hk; unfold FB; omega)
        have hgp : g1 < pb := by omega
        rw [← hpb] at hPb
        rw [← hpb]
        clear hbW
        generalize wc.alloc (.cells #[.int .i64 0, .int .i64 0, .int .i64 0, .int .i64 0, .int .i64 0, .int .i64 0, .bool false, .bool false, .string ⟨#[]⟩, .string ⟨#[]⟩] 32) = wp at *
        have hc0 : ∀ W, Below pb wp W → W.cell? ⟨g1, i1 * 10, none⟩ = some (.int .i64 (G1 i1).f) := fun W hW => (hW.cell hgp).trans (hrowG.cells (i := i1) (p := G1 i1) (at_range G1 (by omega)) 0 _ rfl)
        have hc1 : ∀ W, Below pb wp W → W.cell? ⟨g1, i1 * 10 + 1, none⟩ = some (.int .i64 (G1 i1).t) := fun W hW => (hW.cell hgp).trans (hrowG.cells (i := i1) (p := G1 i1) (at_range G1 (by omega)) 1 _ rfl)
        have hc2 : ∀ W, Below pb wp W → W.cell? ⟨g1, i1 * 10 + 2, none⟩ = some (.int .i64 (G1 i1).tl) := fun W hW => (hW.cell hgp).trans (hrowG.cells (i := i1) (p := G1 i1) (at_range G1 (by omega)) 2 _ rfl)
        have hc3 : ∀ W, Below pb wp W → W.cell? ⟨g1, i1 * 10 + 3, none⟩ = some (.int .i64 (G1 i1).pr) := fun W hW => (hW.cell hgp).trans (hrowG.cells (i := i1) (p := G1 i1) (at_range G1 (by omega)) 3 _ rfl)
        have hc4 : ∀ W, Below pb wp W → W.cell? ⟨g1, i1 * 10 + 4, none⟩ = some (.int .i64 (G1 i1).id) := fun W hW => (hW.cell hgp).trans (hrowG.cells (i := i1) (p := G1 i1) (at_range G1 (by omega)) 4 _ rfl)
        have hc5 : ∀ W, Below pb wp W → W.cell? ⟨g1, i1 * 10 + 5, none⟩ = some (.int .i64 (G1 i1).fr) := fun W hW => (hW.cell hgp).trans (hrowG.cells (i := i1) (p := G1 i1) (at_range G1 (by omega)) 5 _ rfl)
        have hc6 : ∀ W, Below pb wp W → W.cell? ⟨g1, i1 * 10 + 6, none⟩ = some (.bool (G1 i1).mo) := fun W hW => (hW.cell hgp).trans (hrowG.cells (i := i1) (p := G1 i1) (at_range G1 (by omega)) 6 _ rfl)
        have hc7 : ∀ W, Below pb wp W → W.cell? ⟨g1, i1 * 10 + 7, none⟩ = some (.bool (G1 i1).dn) := fun W hW => (hW.cell hgp).trans (hrowG.cells (i := i1) (p := G1 i1) (at_range G1 (by omega)) 7 _ rfl)
        have hc8 : ∀ W, Below pb wp W → W.cell? ⟨g1, i1 * 10 + 8, none⟩ = some (.string (G1 i1).op) := fun W hW => (hW.cell hgp).trans (hrowG.cells (i := i1) (p := G1 i1) (at_range G1 (by omega)) 8 _ rfl)
        have hc9 : ∀ W, Below pb wp W → W.cell? ⟨g1, i1 * 10 + 9, none⟩ = some (.string (G1 i1).da) := fun W hW => (hW.cell hgp).trans (hrowG.cells (i := i1) (p := G1 i1) (at_range G1 (by omega)) 9 _ rfl)
        refine wp_region_held_drew (S := (fun W => Below pb wp W)) (by kernel_rfl) ?_ (fun hHeld => ?_)
        · first | exact (Below.refl _ _).drew | assumption
        refine wpAnyH_take (i := 0) (oi := ({ dst := some 95, op := Go.Op.move (Go.Operand.tmp 9), type := 36, pos := "more.go:33", after := #[], guard := none } : Go.Oper)) (v := .slice (some ⟨g1, i1 * 10, none⟩) (m + 1) (c + 1)) rfl (by kernel_rfl) (by kernel_rfl) (by kernel_rfl) (fun _ _ _ h => h) (Or.inl ⟨by rfl, ?_⟩) (by assumption) ?_
        · intro wx hSw
          try dsimp only at hSw
          have u0 := hc0 wx hSw
          have u1 := hc1 wx hSw
          have u2 := hc2 wx hSw
          have u3 := hc3 wx hSw
          have u4 := hc4 wx hSw
          have u5 := hc5 wx hSw
          have u6 := hc6 wx hSw
          have u7 := hc7 wx hSw
          have u8 := hc8 wx hSw
          have u9 := hc9 wx hSw
          go_simp
          try with_reducible rfl
        try simp only [Act.put, List.setIfInBounds_toArray, List.set_cons_zero, List.set_cons_succ]
        refine wpAnyH_take (i := 1) (oi := ({ dst := some 96, op := Go.Op.indexAddr 36 (Go.Operand.tmp 95) (Go.Operand.const (Go.Value.int Go.IntKind.i64 0)), type := 0, pos := "more.go:33", after := #[{ on := 0, ground := Go.Ground.data }], guard := none } : Go.Oper)) (v := .pointer (some ⟨g1, i1 * 10, none⟩)) rfl (by kernel_rfl) (by kernel_rfl) (by kernel_rfl) (fun _ _ _ h => h) (Or.inl ⟨by rfl, ?_⟩) (by assumption) ?_
        · intro wx hSw
          try dsimp only at hSw
          have u0 := hc0 wx hSw
          have u1 := hc1 wx hSw
          have u2 := hc2 wx hSw
          have u3 := hc3 wx hSw
          have u4 := hc4 wx hSw
          have u5 := hc5 wx hSw
          have u6 := hc6 wx hSw
          have u7 := hc7 wx hSw
          have u8 := hc8 wx hSw
          have u9 := hc9 wx hSw
          go_simp
          try with_reducible rfl
        try simp only [Act.put, List.setIfInBounds_toArray, List.set_cons_zero, List.set_cons_succ]
        refine wpAnyH_take (i := 2) (oi := ({ dst := some 97, op := Go.Op.load 32 (Go.Operand.tmp 96), type := 32, pos := "more.go:33", after := #[{ on := 1, ground := Go.Ground.data }], guard := none } : Go.Oper)) (v := .agg #[.int .i64 (G1 i1).f, .int .i64 (G1 i1).t, .int .i64 (G1 i1).tl, .int .i64 (G1 i1).pr, .int .i64 (G1 i1).id, .int .i64 (G1 i1).fr, .bool (G1 i1).mo, .bool (G1 i1).dn, .string (G1 i1).op, .string (G1 i1).da]) rfl (by kernel_rfl) (by kernel_rfl) (by kernel_rfl) (fun _ _ _ h => h) (Or.inl ⟨by rfl, ?_⟩) (by assumption) ?_
        · intro wx hSw
          try dsimp only at hSw
          have u0 := hc0 wx hSw
          have u1 := hc1 wx hSw
          have u2 := hc2 wx hSw
          have u3 := hc3 wx hSw
          have u4 := hc4 wx hSw
          have u5 := hc5 wx hSw
          have u6 := hc6 wx hSw
          have u7 := hc7 wx hSw
          have u8 := hc8 wx hSw
          have u9 := hc9 wx hSw
          go_simp
          try with_reducible rfl
        try simp only [Act.put, List.setIfInBounds_toArray, List.set_cons_zero, List.set_cons_succ]
        refine wpAnyH_take (i := 3) (oi := ({ dst := some 98, op := Go.Op.move (Go.Operand.tmp 9), type := 36, pos := "more.go:33", after := #[], guard := none } : Go.Oper)) (v := .slice (some ⟨g1, i1 * 10, none⟩) (m + 1) (c + 1)) rfl (by kernel_rfl) (by kernel_rfl) (by kernel_rfl) (fun _ _ _ h => h) (Or.inl ⟨by rfl, ?_⟩) (by assumption) ?_
        · intro wx hSw
          try dsimp only at hSw
          have u0 := hc0 wx hSw
          have u1 := hc1 wx hSw
          have u2 := hc2 wx hSw
          have u3 := hc3 wx hSw
          have u4 := hc4 wx hSw
          have u5 := hc5 wx hSw
          have u6 := hc6 wx hSw
          have u7 := hc7 wx hSw
          have u8 := hc8 wx hSw
          have u9 := hc9 wx hSw
          go_simp
          try with_reducible rfl
        try simp only [Act.put, List.setIfInBounds_toArray, List.set_cons_zero, List.set_cons_succ]
        refine wpAnyH_take (i := 4) (oi := ({ dst := some 99, op := Go.Op.slice 36 (Go.Operand.tmp 98) (some (Go.Operand.const (Go.Value.int Go.IntKind.i64 1))) none none, type := 36, pos := "more.go:33", after := #[{ on := 3, ground := Go.Ground.data }], guard := none } : Go.Oper)) (v := .slice A m c) rfl (by kernel_rfl) (by kernel_rfl) (by kernel_rfl) (fun _ _ _ h => h) (Or.inl ⟨by rfl, ?_⟩) (by assumption) ?_
        · intro wx hSw
          try dsimp only at hSw
          have u0 := hc0 wx hSw
          have u1 := hc1 wx hSw
          have u2 := hc2 wx hSw
          have u3 := hc3 wx hSw
          have u4 := hc4 wx hSw
          have u5 := hc5 wx hSw
          have u6 := hc6 wx hSw
          have u7 := hc7 wx hSw
          have u8 := hc8 wx hSw
          have u9 := hc9 wx hSw
          go_simp
          try with_reducible rfl
        try simp only [Act.put, List.setIfInBounds_toArray, List.set_cons_zero, List.set_cons_succ]
        refine wpAnyH_ready (rs := [5]) (by kernel_rfl) (by simp) ?_
        refine AllReadyH.cons (o := ({ dst := none, op := Go.Op.store 32 (Go.Operand.tmp 18) (Go.Operand.tmp 97), type := 0, pos := "more.go:33", after := #[{ on := 2, ground := Go.Ground.data }, { on := 0, ground := Go.Ground.phase }, { on := 1, ground := Go.Ground.phase }, { on := 2, ground := Go.Ground.phase }, { on := 3, ground := Go.Ground.textOnly Go.Departure.lateStores }, { on := 4, ground := Go.Ground.textOnly Go.Departure.lateStoresUnsure }], guard := none } : Go.Oper)) rfl (fun K hK => ?_) AllReadyH.nil
        rw [if_pos (by rfl)]
        refine op_store_at 32 _ _ rfl _ pb #[.int .i64 0, .int .i64 0, .int .i64 0, .int .i64 0, .int .i64 0, .int .i64 0, .bool false, .bool false, .string ⟨#[]⟩, .string ⟨#[]⟩] #[.int .i64 (G1 i1).f, .int .i64 (G1 i1).t, .int .i64 (G1 i1).tl, .int .i64 (G1 i1).pr, .int .i64 (G1 i1).id, .int .i64 (G1 i1).fr, .bool (G1 i1).mo, .bool (G1 i1).dn, .string (G1 i1).op, .string (G1 i1).da] rfl rfl (hPb.later (bel_drew wp)) rfl (by kernel_rfl) (by simp [Value.oneCell']) ?_
        intro wq hPq htq
        have hbq : Below pb wp wq := hHeld.trans (below_turn htq (Nat.le_refl _) (Nat.le_of_lt hPb.1))
        refine hK.out _ _ hbq (fun hHeld => ?_)
        clear hK K
        try simp only [Act.put, List.setIfInBounds_toArray, List.set_cons_zero, List.set_cons_succ]
        refine wpAnyH_take (i := 6) (oi := ({ dst := some 9, op := Go.Op.assign (Go.Operand.tmp 99), type := 36, pos := "more.go:33", after := #[{ on := 4, ground := Go.Ground.data }, { on := 5, ground := Go.Ground.chain }, { on := 0, ground := Go.Ground.phase }, { on := 1, ground := Go.Ground.phase }, { on := 2, ground := Go.Ground.phase }, { on := 3, ground := Go.Ground.phase }, { on := 4, ground := Go.Ground.phase }, { on := 5, ground := Go.Ground.phase }], guard := none } : Go.Oper)) (v := .slice A m c) rfl (by kernel_rfl) (by kernel_rfl) (by kernel_rfl) (fun _ _ _ h => h) (Or.inl ⟨by rfl, ?_⟩) (by assumption) ?_
        · intro wx hSw
          try dsimp only at hSw
          have u0 := hc0 wx hSw
          have u1 := hc1 wx hSw
          have u2 := hc2 wx hSw
          have u3 := hc3 wx hSw
          have u4 := hc4 wx hSw
          have u5 := hc5 wx hSw
          have u6 := hc6 wx hSw
          have u7 := hc7 wx hSw
          have u8 := hc8 wx hSw
          have u9 := hc9 wx hSw
          go_simp
          try with_reducible rfl
        try simp only [Act.put, List.setIfInBounds_toArray, List.set_cons_zero, List.set_cons_succ]
        refine wpAnyH_done (by kernel_rfl) ?_ _
        have HLM : Hid (MX w6 wq (w5.heap.size + 1) w5.heap.size (⟨1, 2, 9, 0, 5, 0, false, false, ⟨#[]⟩, a⟩ : Pk) (⟨1, 2, 9, 0, 6, 0, false, false, ⟨#[]⟩, b⟩ : Pk) G1 G2 N1 N2 i1 i2 false (decide (i2 = N2 + 1)) u15 got la tu lp) := hlm wq hbq
        have hbq2 := hww wq hbq
        clear hlm hww hrowG hPb qb hc0 hc1 hc2 hc3 hc4 hc5 hc6 hc7 hc8 hc9 hsl hbq hM
        by_cases hlast : i1 = N1
        · as_aux_lemma =>
            obtain rfl : m = 0 := by have := HN.out; omega
            have HL : Hid (i1 = N1) := hlast
            clear hlast
            have hcon : Calls Try.prog 13 #[.pointer (some ⟨w5.heap.size + 1, 0, none⟩), .agg #[.int .i64 (G1 i1).f, .int .i64 (G1 i1).t, .int .i64 (G1 i1).tl, .int .i64 (G1 i1).pr, .int .i64 (G1 i1).id, .int .i64 (G1 i1).fr, .bool (G1 i1).mo, .bool (G1 i1).dn, .string (G1 i1).op, .string (G1 i1).da], .int .i64 iz] wq fun e W' => e = .returned (.tuple #[.agg #[.int .i64 1, .int .i64 2, .int .i64 9, .int .i64 0, .int .i64 5, .int .i64 0, .bool false, .bool false, .string ⟨#[]⟩, .string a], .bool true, .int .i64 0]) ∧ ∃ la' tu' lp', MX w6 W' (w5.heap.size + 1) w5.heap.size (⟨1, 2, 9, 0, 5, 0, false, false, ⟨#[]⟩, a⟩ : Pk) (⟨1, 2, 9, 0, 6, 0, false, false, ⟨#[]⟩, b⟩ : Pk) G1 G2 N1 N2 (i1 + 1) i2 false (decide (i2 = N2 + 1)) u15 got la' tu' lp' := by
              have e : iz = (i1 : Int) + (i2 : Int) := by have := HN.out; omega
              rw [e]
              exact HLM.out.done HP1.out HNE.out hN1 hN2 HL.out
            clear HLM
            go_wp2_with (first
              | (refine wpList_load_at rfl 32 _ rfl _ pb #[.int .i64 (G1 i1).f, .int .i64 (G1 i1).t, .int .i64 (G1 i1).tl, .int .i64 (G1 i1).pr, .int .i64 (G1 i1).id, .int .i64 (G1 i1).fr, .bool (G1 i1).mo, .bool (G1 i1).dn, .string (G1 i1).op, .string (G1 i1).da] _ rfl hPq Try.underlying32 (by kernel_rfl) ?_)
              | fail)
            refine hcon.mono ?_
            rintro e w8 ⟨rfl, hM8⟩
            obtain ⟨la', tu', lp', hM8⟩ := hM8
            go_upto_region 22 with (first
              | (refine wpList_store_at rfl 32 _ _ rfl _ w8.heap.size #[.int .i64 0, .int .i64 0, .int .i64 0, .int .i64 0, .int .i64 0, .int .i64 0, .bool false, .bool false, .string ⟨#[]⟩, .string ⟨#[]⟩] #[.int .i64 1, .int .i64 2, .int .i64 9, .int .i64 0, .int .i64 5, .int .i64 0, .bool false, .bool false, .string ⟨#[]⟩, .string a] rfl rfl (At.box w8 #[.int .i64 0, .int .i64 0, .int .i64 0, .int .i64 0, .int .i64 0, .int .i64 0, .bool false, .bool false, .string ⟨#[]⟩, .string ⟨#[]⟩] 32) rfl (by kernel_rfl) (by simp [Value.oneCell']) ?_; intro w10 hQ10 ht10)
              | go_in)
            have q10 : Below w8.heap.size w8 w10 := (bel1 w8 (.cells #[.int .i64 0, .int .i64 0, .int .i64 0, .int .i64 0, .int .i64 0, .int .i64 0, .bool false, .bool false, .string ⟨#[]⟩, .string ⟨#[]⟩] 32)).trans (below_turn ht10 (Nat.le_refl _) (bel1 w8 _).size)
            have hM10 := hM8.later q10
            have hMA := hM10.later (bel1 w10 (.cells #[.int .i64 1, .int .i64 2, .int .i64 9, .int .i64 0, .int .i64 5, .int .i64 0, .bool false, .bool false, .string ⟨#[]⟩, .string a] 32))
            have hRl : w6.heap.size ≤ (w10.alloc (.cells #[.int .i64 1, .int .i64 2, .int .i64 9, .int .i64 0, .int .i64 5, .int .i64 0, .bool false, .bool false, .string ⟨#[]⟩, .string a] 32)).heap.size := hMA.tr.size
            have hgl : got.length < 1000000 := by have := hM10.gt.short; omega
            have hnew : Hid (∀ j u, (⟨1, 2, 9, 0, 5, 0, false, false, ⟨#[]⟩, a⟩ : Pk).L[j]? = some u → (w10.alloc (.cells #[.int .i64 1, .int .i64 2, .int .i64 9, .int .i64 0, .int .i64 5, .int .i64 0, .bool false, .bool false, .string ⟨#[]⟩, .string a] 32)).cell? ⟨w10.heap.size, j, none⟩ = some u) := fun j u hu => ((At.box w10 #[.int .i64 1, .int .i64 2, .int .i64 9, .int .i64 0, .int .i64 5, .int .i64 0, .bool false, .bool false, .string ⟨#[]⟩, .string a] 32).2 j u (by rw [List.getElem?_toArray]; exact hu)).1
            have hrA := hMA.row
            clear hM8 hM10 ht10 hcon
            go_upto_region 26 with fail
            -- @26
            go_wp2_with (first
              | (refine wpList_load_at rfl 32 _ rfl _ w8.heap.size #[.int .i64 1, .int .i64 2, .int .i64 9, .int .i64 0, .int .i64 5, .int .i64 0, .bool false, .bool false, .string ⟨#[]⟩, .string a] _ rfl hQ10 Try.underlying32 (by kernel_rfl) ?_)
              | (refine wpList_bsliceP rfl _ rfl (⟨1, 2, 9, 0, 5, 0, false, false, ⟨#[]⟩, a⟩ : Pk) #[.int .i64 1, .int .i64 2, .int .i64 9, .int .i64 0, .int .i64 5, .int .i64 0, .bool false, .bool false, .string ⟨#[]⟩, .string a] rfl rfl ?_)
              | (at_builtin; refine wpList_appendP rfl _ _ rfl w6.heap.size u15 got (⟨1, 2, 9, 0, 5, 0, false, false, ⟨#[]⟩, a⟩ : Pk) w10.heap.size 1 rfl hrA rfl hnew.out hRl hgl ?_; intro u15' w12 hr12 ht12 hv12))
            have hM12 := hMA.app hr12 ht12 hv12
            have HM12 : Hid (MX w6 w12 (w5.heap.size + 1) w5.heap.size (⟨1, 2, 9, 0, 5, 0, false, false, ⟨#[]⟩, a⟩ : Pk) (⟨1, 2, 9, 0, 6, 0, false, false, ⟨#[]⟩, b⟩ : Pk) G1 G2 N1 N2 (i1 + 1) i2 (decide ((i1 + 1) = N1 + 1)) (decide (i2 = N2 + 1)) u15' (got ++ [(⟨1, 2, 9, 0, 5, 0, false, false, ⟨#[]⟩, a⟩ : Pk)]) la' tu' lp') := by
              have e1 : decide (i1 + 1 = N1 + 1) = true := decide_eq_true (by have := HL.out; omega)
              rw [e1]
              exact hM12
            clear hMA hrA hM12 hr12 ht12 hv12 hQ10 hnew
            go_wp2
            go_roundw
            case rel => exact ⟨(i1 + 1), i2, got ++ [(⟨1, 2, 9, 0, 5, 0, false, false, ⟨#[]⟩, a⟩ : Pk)], la', tu', lp', iz + 1, u15', rfl, HCV.out, HCO.out, rfl, by have := HN.out; omega, HM12.out⟩
            case measure => simp only [intOf]; omega
        · as_aux_lemma =>
            have hm0 : m ≠ 0 := by have := HN.out; omega
            have hm1 : ((m : Int) == 0) = false := by simp; omega
            have hm2 : ¬ (m : Int) = 0 := by omega
            have hcon : Calls Try.prog 13 #[.pointer (some ⟨w5.heap.size + 1, 0, none⟩), .agg #[.int .i64 (G1 i1).f, .int .i64 (G1 i1).t, .int .i64 (G1 i1).tl, .int .i64 (G1 i1).pr, .int .i64 (G1 i1).id, .int .i64 (G1 i1).fr, .bool (G1 i1).mo, .bool (G1 i1).dn, .string (G1 i1).op, .string (G1 i1).da], .int .i64 iz] wq fun e W' => e = .returned (.tuple #[.agg #[.int .i64 0, .int .i64 0, .int .i64 0, .int .i64 0, .int .i64 0, .int .i64 0, .bool false, .bool false, .string ⟨#[]⟩, .string ⟨#[]⟩], .bool false, .int .i64 0]) ∧ ∃ la' tu' lp', MX w6 W' (w5.heap.size + 1) w5.heap.size (⟨1, 2, 9, 0, 5, 0, false, false, ⟨#[]⟩, a⟩ : Pk) (⟨1, 2, 9, 0, 6, 0, false, false, ⟨#[]⟩, b⟩ : Pk) G1 G2 N1 N2 (i1 + 1) i2 false (decide (i2 = N2 + 1)) u15 got la' tu' lp' := by
              have e : iz = (i1 : Int) + (i2 : Int) := by have := HN.out; omega
              rw [e]
              exact HLM.out.more HP1.out HNE.out hN1 hN2 (by omega)
            clear HLM
            go_wp2_with (first
              | (refine wpList_load_at rfl 32 _ rfl _ pb #[.int .i64 (G1 i1).f, .int .i64 (G1 i1).t, .int .i64 (G1 i1).tl, .int .i64 (G1 i1).pr, .int .i64 (G1 i1).id, .int .i64 (G1 i1).fr, .bool (G1 i1).mo, .bool (G1 i1).dn, .string (G1 i1).op, .string (G1 i1).da] _ rfl hPq Try.underlying32 (by kernel_rfl) ?_)
              | fail)
            refine hcon.mono ?_
            rintro e w8 ⟨rfl, hM8⟩
            obtain ⟨la', tu', lp', hM8⟩ := hM8
            go_upto_region 22 with (first
              | (refine wpList_store_at rfl 32 _ _ rfl _ w8.heap.size #[.int .i64 0, .int .i64 0, .int .i64 0, .int .i64 0, .int .i64 0, .int .i64 0, .bool false, .bool false, .string ⟨#[]⟩, .string ⟨#[]⟩] #[.int .i64 0, .int .i64 0, .int .i64 0, .int .i64 0, .int .i64 0, .int .i64 0, .bool false, .bool false, .string ⟨#[]⟩, .string ⟨#[]⟩] rfl rfl (At.box w8 #[.int .i64 0, .int .i64 0, .int .i64 0, .int .i64 0, .int .i64 0, .int .i64 0, .bool false, .bool false, .string ⟨#[]⟩, .string ⟨#[]⟩] 32) rfl (by kernel_rfl) oneZ ?_; intro w10 hQ10 ht10)
              | go_in)
            have q10 : Below w8.heap.size w8 w10 := (bel1 w8 (.cells #[.int .i64 0, .int .i64 0, .int .i64 0, .int .i64 0, .int .i64 0, .int .i64 0, .bool false, .bool false, .string ⟨#[]⟩, .string ⟨#[]⟩] 32)).trans (below_turn ht10 (Nat.le_refl _) (bel1 w8 _).size)
            have hM10 := hM8.later q10
            have HM12 : Hid (MX w6 w10 (w5.heap.size + 1) w5.heap.size (⟨1, 2, 9, 0, 5, 0, false, false, ⟨#[]⟩, a⟩ : Pk) (⟨1, 2, 9, 0, 6, 0, false, false, ⟨#[]⟩, b⟩ : Pk) G1 G2 N1 N2 (i1 + 1) i2 (decide ((i1 + 1) = N1 + 1)) (decide (i2 = N2 + 1)) u15 got la' tu' lp') := by
              have e1 : decide (i1 + 1 = N1 + 1) = false := decide_eq_false (by omega)
              rw [e1]
              exact hM10
            clear hM8 hM10 ht10 hcon hQ10
            go_wp2
            go_roundw
            case rel => exact ⟨(i1 + 1), i2, got, la', tu', lp', iz + 1, u15, rfl, HCV.out, HCO.out, rfl, by have := HN.out; omega, HM12.out⟩
            case measure => simp only [intOf]; omega
      | false =>
        have hi2 := hFa rfl
        clear hT hFa
        obtain rfl : a2 = some ⟨g2, i2 * 10, none⟩ := ha2 (by omega)
        obtain ⟨m, rfl⟩ : ∃ m, n2 = m + 1 := ⟨n2 - 1, by have := HN.out; omega⟩
        obtain ⟨c, rfl⟩ : ∃ c, d2 = c + 1 := ⟨d2 - 1, by omega⟩
        have hsl := cut_run g2 (i2 * 10) m c
        obtain ⟨A, hA⟩ : ∃ A, A = (if c = 0 then some (⟨g2, i2 * 10, none⟩ : Addr) else some ⟨g2, i2 * 10 + 10, none⟩) := ⟨_, rfl⟩
        rw [← hA] at hsl
        have HCV : Hid (CutV g2 (N2 + 1) (i2 + 1) (.slice A m c)) := ⟨A, c, by rw [show N2 + 1 - (i2 + 1) = m by have := HN.out; omega], by have := HN.out; omega, fun h => by rw [hA, if_neg (by have := HN.out; omega), show (i2 + 1) * 10 = i2 * 10 + 10 by omega]⟩
        have HCO : Hid (CutV g1 (N1 + 1) i1 (.slice a1 n1 d1)) := ⟨_, _, by rw [show N1 + 1 - i1 = n1 by have := HN.out; omega], by have := HN.out; omega, ha1⟩
        have hcd : decide (i2 = N2 + 1) = false := decide_eq_false (by omega)
        rw [hcd] at hM
        clear hA ha1 ha2 hd1 hd2 
        go_upto_region 20 with fail
        have hPb := At.box wc #[.int .i64 0, .int .i64 0, .int .i64 0, .int .i64 0, .int .i64 0, .int .i64 0, .bool false, .bool false, .string ⟨#[]⟩, .string ⟨#[]⟩] 32
        have qb := bel1 wc (.cells #[.int .i64 0, .int .i64 0, .int .i64 0, .int .i64 0, .int .i64 0, .int .i64 0, .bool false, .bool false, .string ⟨#[]⟩, .string ⟨#[]⟩] 32)
        obtain ⟨pb, hpb⟩ : ∃ z, z = wc.heap.size := ⟨_, rfl⟩
        have hlm : ∀ W, Below pb (wc.alloc (.cells #[.int .i64 0, .int .i64 0, .int .i64 0, .int .i64 0, .int .i64 0, .int .i64 0, .bool false, .bool false, .string ⟨#[]⟩, .string ⟨#[]⟩] 32)) W → MX w6 W (w5.heap.size + 1) w5.heap.size (⟨1, 2, 9, 0, 6, 0, false, false, ⟨#[]⟩, b⟩ : Pk) (⟨1, 2, 9, 0, 5, 0, false, false, ⟨#[]⟩, a⟩ : Pk) G2 G1 N2 N1 i2 i1 false (decide (i1 = N1 + 1)) u15 got la tu lp := fun W hW => hM.swap.later (qb.trans (by rw [← hpb]; exact hW))
        have hww : ∀ W, Below pb (wc.alloc (.cells #[.int .i64 0, .int .i64 0, .int .i64 0, .int .i64 0, .int .i64 0, .int .i64 0, .bool false, .bool false, .string ⟨#[]⟩, .string ⟨#[]⟩] 32)) W → Below w.heap.size w W := fun W hW => bt hbW (qb.trans (by rw [← hpb]; exact hW))
        have hs6 := hM.tr.size
        have hrowG := HR2.out.turn (hM.tr.later qb) (fun k hk => by simp [Value.ownBlock] at hk; unfold FB; omega)
        have hgp : g2 < pb := by omega
        rw [← hpb] at hPb
        rw [← hpb]
        clear hbW
        generalize wc.alloc (.cells #[.int .i64 0, .int .i64 0, .int .i64 0, .int .i64 0, .int .i64 0, .int .i64 0, .bool false, .bool false, .string ⟨#[]⟩, .string ⟨#[]⟩] 32) = wp at *
        have hc0 : ∀ W, Below pb wp W → W.cell? ⟨g2, i2 * 10, none⟩ = some (.int .i64 (G2 i2).f) := fun W hW => (hW.cell hgp).trans (hrowG.cells (i := i2) (p := G2 i2) (at_range G2 (by omega)) 0 _ rfl)
        have hc1 : ∀ W, Below pb wp W → W.cell? ⟨g2, i2 * 10 + 1, none⟩ = some (.int .i64 (G2 i2).t) := fun W hW => (hW.cell hgp).trans (hrowG.cells (i := i2) (p := G2 i2) (at_range G2 (by omega)) 1 _ rfl)
        have hc2 : ∀ W, Below pb wp W → W.cell? ⟨g2, i2 * 10 + 2, none⟩ = some (.int .i64 (G2 i2).tl) := fun W hW => (hW.cell hgp).trans (hrowG.cells (i := i2) (p := G2 i2) (at_range G2 (by omega)) 2 _ rfl)
        have hc3 : ∀ W, Below pb wp W → W.cell? ⟨g2, i2 * 10 + 3, none⟩ = some (.int .i64 (G2 i2).pr) := fun W hW => (hW.cell hgp).trans (hrowG.cells (i := i2) (p := G2 i2) (at_range G2 (by omega)) 3 _ rfl)
        have hc4 : ∀ W, Below pb wp W → W.cell? ⟨g2, i2 * 10 + 4, none⟩ = some (.int .i64 (G2 i2).id) := fun W hW => (hW.cell hgp).trans (hrowG.cells (i := i2) (p := G2 i2) (at_range G2 (by omega)) 4 _ rfl)
        have hc5 : ∀ W, Below pb wp W → W.cell? ⟨g2, i2 * 10 + 5, none⟩ = some (.int .i64 (G2 i2).fr) := fun W hW => (hW.cell hgp).trans (hrowG.cells (i := i2) (p := G2 i2) (at_range G2 (by omega)) 5 _ rfl)
        have hc6 : ∀ W, Below pb wp W → W.cell? ⟨g2, i2 * 10 + 6, none⟩ = some (.bool (G2 i2).mo) := fun W hW => (hW.cell hgp).trans (hrowG.cells (i := i2) (p := G2 i2) (at_range G2 (by omega)) 6 _ rfl)
        have hc7 : ∀ W, Below pb wp W → W.cell? ⟨g2, i2 * 10 + 7, none⟩ = some (.bool (G2 i2).dn) := fun W hW => (hW.cell hgp).trans (hrowG.cells (i := i2) (p := G2 i2) (at_range G2 (by omega)) 7 _ rfl)
        have hc8 : ∀ W, Below pb wp W → W.cell? ⟨g2, i2 * 10 + 8, none⟩ = some (.string (G2 i2).op) := fun W hW => (hW.cell hgp).trans (hrowG.cells (i := i2) (p := G2 i2) (at_range G2 (by omega)) 8 _ rfl)
        have hc9 : ∀ W, Below pb wp W → W.cell? ⟨g2, i2 * 10 + 9, none⟩ = some (.string (G2 i2).da) := fun W hW => (hW.cell hgp).trans (hrowG.cells (i := i2) (p := G2 i2) (at_range G2 (by omega)) 9 _ rfl)
        refine wp_region_held_drew (S := (fun W => Below pb wp W)) (by kernel_rfl) ?_ (fun hHeld => ?_)
        · first | exact (Below.refl _ _).drew | assumption
        refine wpAnyH_take (i := 0) (oi := ({ dst := some 100, op := Go.Op.move (Go.Operand.tmp 11), type := 36, pos := "more.go:35", after := #[], guard := none } : Go.Oper)) (v := .slice (some ⟨g2, i2 * 10, none⟩) (m + 1) (c + 1)) rfl (by kernel_rfl) (by kernel_rfl) (by kernel_rfl) (fun _ _ _ h => h) (Or.inl ⟨by rfl, ?_⟩) (by assumption) ?_
        · intro wx hSw
          try dsimp only at hSw
          have u0 := hc0 wx hSw
          have u1 := hc1 wx hSw
          have u2 := hc2 wx hSw
          have u3 := hc3 wx hSw
          have u4 := hc4 wx hSw
          have u5 := hc5 wx hSw
          have u6 := hc6 wx hSw
          have u7 := hc7 wx hSw
          have u8 := hc8 wx hSw
          have u9 := hc9 wx hSw
          go_simp
          try with_reducible rfl
        try simp only [Act.put, List.setIfInBounds_toArray, List.set_cons_zero, List.set_cons_succ]
        refine wpAnyH_take (i := 1) (oi := ({ dst := some 101, op := Go.Op.indexAddr 36 (Go.Operand.tmp 100) (Go.Operand.const (Go.Value.int Go.IntKind.i64 0)), type := 0, pos := "more.go:35", after := #[{ on := 0, ground := Go.Ground.data }], guard := none } : Go.Oper)) (v := .pointer (some ⟨g2, i2 * 10, none⟩)) rfl (by kernel_rfl) (by kernel_rfl) (by kernel_rfl) (fun _ _ _ h => h) (Or.inl ⟨by rfl, ?_⟩) (by assumption) ?_
        · intro wx hSw
          try dsimp only at hSw
          have u0 := hc0 wx hSw
          have u1 := hc1 wx hSw
          have u2 := hc2 wx hSw
          have u3 := hc3 wx hSw
          have u4 := hc4 wx hSw
          have u5 := hc5 wx hSw
          have u6 := hc6 wx hSw
          have u7 := hc7 wx hSw
          have u8 := hc8 wx hSw
          have u9 := hc9 wx hSw
          go_simp
          try with_reducible rfl
        try simp only [Act.put, List.setIfInBounds_toArray, List.set_cons_zero, List.set_cons_succ]
        refine wpAnyH_take (i := 2) (oi := ({ dst := some 102, op := Go.Op.load 32 (Go.Operand.tmp 101), type := 32, pos := "more.go:35", after := #[{ on := 1, ground := Go.Ground.data }], guard := none } : Go.Oper)) (v := .agg #[.int .i64 (G2 i2).f, .int .i64 (G2 i2).t, .int .i64 (G2 i2).tl, .int .i64 (G2 i2).pr, .int .i64 (G2 i2).id, .int .i64 (G2 i2).fr, .bool (G2 i2).mo, .bool (G2 i2).dn, .string (G2 i2).op, .string (G2 i2).da]) rfl (by kernel_rfl) (by kernel_rfl) (by kernel_rfl) (fun _ _ _ h => h) (Or.inl ⟨by rfl, ?_⟩) (by assumption) ?_
        · intro wx hSw
          try dsimp only at hSw
          have u0 := hc0 wx hSw
          have u1 := hc1 wx hSw
          have u2 := hc2 wx hSw
          have u3 := hc3 wx hSw
          have u4 := hc4 wx hSw
          have u5 := hc5 wx hSw
          have u6 := hc6 wx hSw
          have u7 := hc7 wx hSw
          have u8 := hc8 wx hSw
          have u9 := hc9 wx hSw
          go_simp
          try with_reducible rfl
        try simp only [Act.put, List.setIfInBounds_toArray, List.set_cons_zero, List.set_cons_succ]
        refine wpAnyH_take (i := 3) (oi := ({ dst := some 103, op := Go.Op.move (Go.Operand.tmp 11), type := 36, pos := "more.go:35", after := #[], guard := none } : Go.Oper)) (v := .slice (some ⟨g2, i2 * 10, none⟩) (m + 1) (c + 1)) rfl (by kernel_rfl) (by kernel_rfl) (by kernel_rfl) (fun _ _ _ h => h) (Or.inl ⟨by rfl, ?_⟩) (by assumption) ?_
        · intro wx hSw
          try dsimp only at hSw
          have u0 := hc0 wx hSw
          have u1 := hc1 wx hSw
          have u2 := hc2 wx hSw
          have u3 := hc3 wx hSw
          have u4 := hc4 wx hSw
          have u5 := hc5 wx hSw
          have u6 := hc6 wx hSw
          have u7 := hc7 wx hSw
          have u8 := hc8 wx hSw
          have u9 := hc9 wx hSw
          go_simp
          try with_reducible rfl
        try simp only [Act.put, List.setIfInBounds_toArray, List.set_cons_zero, List.set_cons_succ]
        refine wpAnyH_take (i := 4) (oi := ({ dst := some 104, op := Go.Op.slice 36 (Go.Operand.tmp 103) (some (Go.Operand.const (Go.Value.int Go.IntKind.i64 1))) none none, type := 36, pos := "more.go:35", after := #[{ on := 3, ground := Go.Ground.data }], guard := none } : Go.Oper)) (v := .slice A m c) rfl (by kernel_rfl) (by kernel_rfl) (by kernel_rfl) (fun _ _ _ h => h) (Or.inl ⟨by rfl, ?_⟩) (by assumption) ?_
        · intro wx hSw
          try dsimp only at hSw
          have u0 := hc0 wx hSw
          have u1 := hc1 wx hSw
          have u2 := hc2 wx hSw
          have u3 := hc3 wx hSw
          have u4 := hc4 wx hSw
          have u5 := hc5 wx hSw
          have u6 := hc6 wx hSw
          have u7 := hc7 wx hSw
          have u8 := hc8 wx hSw
          have u9 := hc9 wx hSw
          go_simp
          try with_reducible rfl
        try simp only [Act.put, List.setIfInBounds_toArray, List.set_cons_zero, List.set_cons_succ]
        refine wpAnyH_ready (rs := [5]) (by kernel_rfl) (by simp) ?_
        refine AllReadyH.cons (o := ({ dst := none, op := Go.Op.store 32 (Go.Operand.tmp 18) (Go.Operand.tmp 102), type := 0, pos := "more.go:35", after := #[{ on := 2, ground := Go.Ground.data }, { on := 0, ground := Go.Ground.phase }, { on := 1, ground := Go.Ground.phase }, { on := 2, ground := Go.Ground.phase }, { on := 3, ground := Go.Ground.textOnly Go.Departure.lateStores }, { on := 4, ground := Go.Ground.textOnly Go.Departure.lateStoresUnsure }], guard := none } : Go.Oper)) rfl (fun K hK => ?_) AllReadyH.nil
        rw [if_pos (by rfl)]
        refine op_store_at 32 _ _ rfl _ pb #[.int .i64 0, .int .i64 0, .int .i64 0, .int .i64 0, .int .i64 0, .int .i64 0, .bool false, .bool false, .string ⟨#[]⟩, .string ⟨#[]⟩] #[.int .i64 (G2 i2).f, .int .i64 (G2 i2).t, .int .i64 (G2 i2).tl, .int .i64 (G2 i2).pr, .int .i64 (G2 i2).id, .int .i64 (G2 i2).fr, .bool (G2 i2).mo, .bool (G2 i2).dn, .string (G2 i2).op, .string (G2 i2).da] rfl rfl (hPb.later (bel_drew wp)) rfl (by kernel_rfl) (by simp [Value.oneCell']) ?_
        intro wq hPq htq
        have hbq : Below pb wp wq := hHeld.trans (below_turn htq (Nat.le_refl _) (Nat.le_of_lt hPb.1))
        refine hK.out _ _ hbq (fun hHeld => ?_)
        clear hK K
        try simp only [Act.put, List.setIfInBounds_toArray, List.set_cons_zero, List.set_cons_succ]
        refine wpAnyH_take (i := 6) (oi := ({ dst := some 11, op := Go.Op.assign (Go.Operand.tmp 104), type := 36, pos := "more.go:35", after := #[{ on := 4, ground := Go.Ground.data }, { on := 5, ground := Go.Ground.chain }, { on := 0, ground := Go.Ground.phase }, { on := 1, ground := Go.Ground.phase }, { on := 2, ground := Go.Ground.phase }, { on := 3, ground := Go.Ground.phase }, { on := 4, ground := Go.Ground.phase }, { on := 5, ground := Go.Ground.phase }], guard := none } : Go.Oper)) (v := .slice A m c) rfl (by kernel_rfl) (by kernel_rfl) (by kernel_rfl) (fun _ _ _ h => h) (Or.inl ⟨by rfl, ?_⟩) (by assumption) ?_
        · intro wx hSw
          try dsimp only at hSw
          have u0 := hc0 wx hSw
          have u1 := hc1 wx hSw
          have u2 := hc2 wx hSw
          have u3 := hc3 wx hSw
          have u4 := hc4 wx hSw
          have u5 := hc5 wx hSw
          have u6 := hc6 wx hSw
          have u7 := hc7 wx hSw
          have u8 := hc8 wx hSw
          have u9 := hc9 wx hSw
          go_simp
          try with_reducible rfl
        try simp only [Act.put, List.setIfInBounds_toArray, List.set_cons_zero, List.set_cons_succ]
        refine wpAnyH_done (by kernel_rfl) ?_ _
        have HLM : Hid (MX w6 wq (w5.heap.size + 1) w5.heap.size (⟨1, 2, 9, 0, 6, 0, false, false, ⟨#[]⟩, b⟩ : Pk) (⟨1, 2, 9, 0, 5, 0, false, false, ⟨#[]⟩, a⟩ : Pk) G2 G1 N2 N1 i2 i1 false (decide (i1 = N1 + 1)) u15 got la tu lp) := hlm wq hbq
        have hbq2 := hww wq hbq
        clear hlm hww hrowG hPb qb hc0 hc1 hc2 hc3 hc4 hc5 hc6 hc7 hc8 hc9 hsl hbq hM
        by_cases hlast : i2 = N2
        · as_aux_lemma =>
            obtain rfl : m = 0 := by have := HN.out; omega
            have HL : Hid (i2 = N2) := hlast
            clear hlast
            have hcon : Calls Try.prog 13 #[.pointer (some ⟨w5.heap.size + 1, 0, none⟩), .agg #[.int .i64 (G2 i2).f, .int .i64 (G2 i2).t, .int .i64 (G2 i2).tl, .int .i64 (G2 i2).pr, .int .i64 (G2 i2).id, .int .i64 (G2 i2).fr, .bool (G2 i2).mo, .bool (G2 i2).dn, .string (G2 i2).op, .string (G2 i2).da], .int .i64 iz] wq fun e W' => e = .returned (.tuple #[.agg #[.int .i64 1, .int .i64 2, .int .i64 9, .int .i64 0, .int .i64 6, .int .i64 0, .bool false, .bool false, .string ⟨#[]⟩, .string b], .bool true, .int .i64 0]) ∧ ∃ la' tu' lp', MX w6 W' (w5.heap.size + 1) w5.heap.size (⟨1, 2, 9, 0, 6, 0, false, false, ⟨#[]⟩, b⟩ : Pk) (⟨1, 2, 9, 0, 5, 0, false, false, ⟨#[]⟩, a⟩ : Pk) G2 G1 N2 N1 (i2 + 1) i1 false (decide (i1 = N1 + 1)) u15 got la' tu' lp' := by
              have e : iz = (i2 : Int) + (i1 : Int) := by have := HN.out; omega
              rw [e]
              exact HLM.out.done HP2.out HNE.out.symm hN2 hN1 HL.out
            clear HLM
            go_wp2_with (first
              | (refine wpList_load_at rfl 32 _ rfl _ pb #[.int .i64 (G2 i2).f, .int .i64 (G2 i2).t, .int .i64 (G2 i2).tl, .int .i64 (G2 i2).pr, .int .i64 (G2 i2).id, .int .i64 (G2 i2).fr, .bool (G2 i2).mo, .bool (G2 i2).dn, .string (G2 i2).op, .string (G2 i2).da] _ rfl hPq Try.underlying32 (by kernel_rfl) ?_)
              | fail)
            refine hcon.mono ?_
            rintro e w8 ⟨rfl, hM8⟩
            obtain ⟨la', tu', lp', hM8⟩ := hM8
            go_upto_region 22 with (first
              | (refine wpList_store_at rfl 32 _ _ rfl _ w8.heap.size #[.int .i64 0, .int .i64 0, .int .i64 0, .int .i64 0, .int .i64 0, .int .i64 0, .bool false, .bool false, .string ⟨#[]⟩, .string ⟨#[]⟩] #[.int .i64 1, .int .i64 2, .int .i64 9, .int .i64 0, .int .i64 6, .int .i64 0, .bool false, .bool false, .string ⟨#[]⟩, .string b] rfl rfl (At.box w8 #[.int .i64 0, .int .i64 0, .int .i64 0, .int .i64 0, .int .i64 0, .int .i64 0, .bool false, .bool false, .string ⟨#[]⟩, .string ⟨#[]⟩] 32) rfl (by kernel_rfl) (by simp [Value.oneCell']) ?_; intro w10 hQ10 ht10)
              | go_in)
            have q10 : Below w8.heap.size w8 w10 := (bel1 w8 (.cells #[.int .i64 0, .int .i64 0, .int .i64 0, .int .i64 0, .int .i64 0, .int .i64 0, .bool false, .bool false, .string ⟨#[]⟩, .string ⟨#[]⟩] 32)).trans (below_turn ht10 (Nat.le_refl _) (bel1 w8 _).size)
            have hM10 := hM8.later q10
            have hMA := hM10.later (bel1 w10 (.cells #[.int .i64 1, .int .i64 2, .int .i64 9, .int .i64 0, .int .i64 6, .int .i64 0, .bool false, .bool false, .string ⟨#[]⟩, .string b] 32))
            have hRl : w6.heap.size ≤ (w10.alloc (.cells #[.int .i64 1, .int .i64 2, .int .i64 9, .int .i64 0, .int .i64 6, .int .i64 0, .bool false, .bool false, .string ⟨#[]⟩, .string b] 32)).heap.size := hMA.tr.size
            have hgl : got.length < 1000000 := by have := hM10.gt.short; omega
            have hnew : Hid (∀ j u, (⟨1, 2, 9, 0, 6, 0, false, false, ⟨#[]⟩, b⟩ : Pk).L[j]? = some u → (w10.alloc (.cells #[.int .i64 1, .int .i64 2, .int .i64 9, .int .i64 0, .int .i64 6, .int .i64 0, .bool false, .bool false, .string ⟨#[]⟩, .string b] 32)).cell? ⟨w10.heap.size, j, none⟩ = some u) := fun j u hu => ((At.box w10 #[.int .i64 1, .int .i64 2, .int .i64 9, .int .i64 0, .int .i64 6, .int .i64 0, .bool false, .bool false, .string ⟨#[]⟩, .string b] 32).2 j u (by rw [List.getElem?_toArray]; exact hu)).1
            have hrA := hMA.row
            clear hM8 hM10 ht10 hcon
            go_upto_region 26 with fail
            -- @26
            go_wp2_with (first
              | (refine wpList_load_at rfl 32 _ rfl _ w8.heap.size #[.int .i64 1, .int .i64 2, .int .i64 9, .int .i64 0, .int .i64 6, .int .i64 0, .bool false, .bool false, .string ⟨#[]⟩, .string b] _ rfl hQ10 Try.underlying32 (by kernel_rfl) ?_)
              | (refine wpList_bsliceP rfl _ rfl (⟨1, 2, 9, 0, 6, 0, false, false, ⟨#[]⟩, b⟩ : Pk) #[.int .i64 1, .int .i64 2, .int .i64 9, .int .i64 0, .int .i64 6, .int .i64 0, .bool false, .bool false, .string ⟨#[]⟩, .string b] rfl rfl ?_)
              | (at_builtin; refine wpList_appendP rfl _ _ rfl w6.heap.size u15 got (⟨1, 2, 9, 0, 6, 0, false, false, ⟨#[]⟩, b⟩ : Pk) w10.heap.size 1 rfl hrA rfl hnew.out hRl hgl ?_; intro u15' w12 hr12 ht12 hv12))
            have hM12 := hMA.app hr12 ht12 hv12
            have HM12 : Hid (MX w6 w12 (w5.heap.size + 1) w5.heap.size (⟨1, 2, 9, 0, 5, 0, false, false, ⟨#[]⟩, a⟩ : Pk) (⟨1, 2, 9, 0, 6, 0, false, false, ⟨#[]⟩, b⟩ : Pk) G1 G2 N1 N2 i1 (i2 + 1) (decide (i1 = N1 + 1)) (decide ((i2 + 1) = N2 + 1)) u15' (got ++ [(⟨1, 2, 9, 0, 6, 0, false, false, ⟨#[]⟩, b⟩ : Pk)]) la' tu' lp') := by
              have e1 : decide (i2 + 1 = N2 + 1) = true := decide_eq_true (by have := HL.out; omega)
              rw [e1]
              exact hM12.swap
            clear hMA hrA hM12 hr12 ht12 hv12 hQ10 hnew
            go_wp2
            go_roundw
            case rel => exact ⟨i1, (i2 + 1), got ++ [(⟨1, 2, 9, 0, 6, 0, false, false, ⟨#[]⟩, b⟩ : Pk)], la', tu', lp', iz + 1, u15', rfl, HCO.out, HCV.out, rfl, by have := HN.out; omega, HM12.out⟩
            case measure => simp only [intOf]; omega
        · as_aux_lemma =>
            have hm0 : m ≠ 0 := by have := HN.out; omega
            have hm1 : ((m : Int) == 0) = false := by simp; omega
            have hm2 : ¬ (m : Int) = 0 := by omega
            have hcon : Calls Try.prog 13 #[.pointer (some ⟨w5.heap.size + 1, 0, none⟩), .agg #[.int .i64 (G2 i2).f, .int .i64 (G2 i2).t, .int .i64 (G2 i2).tl, .int .i64 (G2 i2).pr, .int .i64 (G2 i2).id, .int .i64 (G2 i2).fr, .bool (G2 i2).mo, .bool (G2 i2).dn, .string (G2 i2).op, .string (G2 i2).da], .int .i64 iz] wq fun e W' => e = .returned (.tuple #[.agg #[.int .i64 0, .int .i64 0, .int .i64 0, .int .i64 0, .int .i64 0, .int .i64 0, .bool false, .bool false, .string ⟨#[]⟩, .string ⟨#[]⟩], .bool false, .int .i64 0]) ∧ ∃ la' tu' lp', MX w6 W' (w5.heap.size + 1) w5.heap.size (⟨1, 2, 9, 0, 6, 0, false, false, ⟨#[]⟩, b⟩ : Pk) (⟨1, 2, 9, 0, 5, 0, false, false, ⟨#[]⟩, a⟩ : Pk) G2 G1 N2 N1 (i2 + 1) i1 false (decide (i1 = N1 + 1)) u15 got la' tu' lp' := by
              have e : iz = (i2 : Int) + (i1 : Int) := by have := HN.out; omega
              rw [e]
              exact HLM.out.more HP2.out HNE.out.symm hN2 hN1 (by omega)
            clear HLM
            go_wp2_with (first
              | (refine wpList_load_at rfl 32 _ rfl _ pb #[.int .i64 (G2 i2).f, .int .i64 (G2 i2).t, .int .i64 (G2 i2).tl, .int .i64 (G2 i2).pr, .int .i64 (G2 i2).id, .int .i64 (G2 i2).fr, .bool (G2 i2).mo, .bool (G2 i2).dn, .string (G2 i2).op, .string (G2 i2).da] _ rfl hPq Try.underlying32 (by kernel_rfl) ?_)
              | fail)
            refine hcon.mono ?_
            rintro e w8 ⟨rfl, hM8⟩
            obtain ⟨la', tu', lp', hM8⟩ := hM8
            go_upto_region 22 with (first
              | (refine wpList_store_at rfl 32 _ _ rfl _ w8.heap.size #[.int .i64 0, .int .i64 0, .int .i64 0, .int .i64 0, .int .i64 0, .int .i64 0, .bool false, .bool false, .string ⟨#[]⟩, .string ⟨#[]⟩] #[.int .i64 0, .int .i64 0, .int .i64 0, .int .i64 0, .int .i64 0, .int .i64 0, .bool false, .bool false, .string ⟨#[]⟩, .string ⟨#[]⟩] rfl rfl (At.box w8 #[.int .i64 0, .int .i64 0, .int .i64 0, .int .i64 0, .int .i64 0, .int .i64 0, .bool false, .bool false, .string ⟨#[]⟩, .string ⟨#[]⟩] 32) rfl (by kernel_rfl) oneZ ?_; intro w10 hQ10 ht10)
              | go_in)
            have q10 : Below w8.heap.size w8 w10 := (bel1 w8 (.cells #[.int .i64 0, .int .i64 0, .int .i64 0, .int .i64 0, .int .i64 0, .int .i64 0, .bool false, .bool false, .string ⟨#[]⟩, .string ⟨#[]⟩] 32)).trans (below_turn ht10 (Nat.le_refl _) (bel1 w8 _).size)
            have hM10 := hM8.later q10
            have HM12 : Hid (MX w6 w10 (w5.heap.size + 1) w5.heap.size (⟨1, 2, 9, 0, 5, 0, false, false, ⟨#[]⟩, a⟩ : Pk) (⟨1, 2, 9, 0, 6, 0, false, false, ⟨#[]⟩, b⟩ : Pk) G1 G2 N1 N2 i1 (i2 + 1) (decide (i1 = N1 + 1)) (decide ((i2 + 1) = N2 + 1)) u15 got la' tu' lp') := by
              have e1 : decide (i2 + 1 = N2 + 1) = false := decide_eq_false (by omega)
              rw [e1]
              exact hM10.swap
            clear hM8 hM10 ht10 hcon hQ10
            go_wp2
            go_roundw
            case rel => exact ⟨i1, (i2 + 1), got, la', tu', lp', iz + 1, u15, rfl, HCO.out, HCV.out, rfl, by have := HN.out; omega, HM12.out⟩
            case measure => simp only [intOf]; omega
end Go.Proofs.Ytcjhniehbafhpaa
