/- The document's Write. -/
import Derived.Test.YtlbdecjppgjdiaaDTc
namespace Go.Proofs.Ytlbdecjppgjdiaa
open Go.RowKit Go.Maps Go.Lib
set_option maxRecDepth 100000
set_option linter.unusedVariables false
set_option linter.unusedSimpArgs false


def rwN (Q : Ru) (s : ByteArray) : Nat := min s.size (Q.room.toNat - Q.bs.length)
def rwQ (Q : Ru) (s : ByteArray) : Ru := { Q with bs := Q.bs ++ s.data.toList.take (rwN Q s), G := Q.G ++ List.replicate (rwN Q s) false }
def rfullB (Q : Ru) (s : ByteArray) : Bool := decide (Q.room - (Q.bs.length : Int) = 0) && decide (s.size ≠ 0)
theorem rwQ_fine {Q : Ru} (h : Q.Fine) (s : ByteArray) : (rwQ Q s).Fine := by
  have hl : (Q.bs ++ s.data.toList.take (rwN Q s)).length ≤ Q.room.toNat := by
    rw [List.length_append, List.length_take]
    have h1 := h.ln
    have h2 := h.r0
    unfold rwN
    omega
  refine ⟨h.r0, h.r1, h.l0, h.l1, ?_, ?_, ?_⟩
  · have := h.r0
    show ((Q.bs ++ s.data.toList.take (rwN Q s)).length : Int) ≤ Q.room
    omega
  · show Q.sent ≤ (Q.bs ++ s.data.toList.take (rwN Q s)).length
    rw [List.length_append]
    have := h.sn
    omega
  · show (Q.G ++ List.replicate (rwN Q s) false).length = (Q.bs ++ s.data.toList.take (rwN Q s)).length
    have h3 : s.data.toList.length = s.size := Array.length_toList
    have h4 : rwN Q s ≤ s.size := Nat.min_le_left _ _
    rw [List.length_append, List.length_append, List.length_replicate, List.length_take, h.gl]
    omega
section
variable {w w' : World} {ops : Array Oper} {rest : List Oper} {o : Oper} {a : Act} {Q : Exit → Act → World → Prop} {v vs v' u : Value} {t t' : TypeId}
theorem wpList_append_eq2 (hgd : o.guard = none) (s x : Operand) (ho : o.op = .call { callee := .builtin .append, args := #[s, x], argTypes := #[t, t'] }) (hs : a.eval s = v) (hx : a.eval x = vs) (hr : (Builtin.append_ #[t, t'] o.type #[v, vs]).run Try.prog w = .ok v' w') (h : wpList Try.prog ops Q rest (a.put o.dst v') w') : wpList Try.prog ops Q (o :: rest) a w := by
  refine wpList_plain hgd fun K hK => ?_
  unfold Oper.wp execOp
  simp only [ho, resolve, invoke, builtin, Sem.run_bind, Sem.run_pure, Result.andThen_ok, List.map_toArray, List.map_cons, List.map_nil, hs, hx, hr]
  exact hK _ _ h
end
theorem rmin_is {Q : Ru} (hf : Q.Fine) (s : ByteArray) : min (s.size : Int) (Q.room - (Q.bs.length : Int)) = (rwN Q s : Int) := by
  have h1 := hf.ln
  have h2 := hf.r0
  unfold rwN
  omega
theorem rwrite_full {w : World} {R : Bk} {r : Nat} {Q : Ru} {vg : Value} (h : RX w R r Q vg) (hf : Q.Fine) (s : ByteArray) (hb : rfullB Q s = true) :
    Calls Try.prog 29 #[PR r, .string s] w fun e w' => e = .returned (.tuple #[.int .i64 0, .int .i64 150]) ∧ Below w.heap.size w w' := by
  unfold rfullB at hb
  rw [Bool.and_eq_true, decide_eq_true_eq, decide_eq_true_eq] at hb
  obtain ⟨hb1, hb2⟩ := hb
  obtain ⟨⟨c0, c1, c2, c3, c4⟩, -⟩ := h.at5.five
  have hem : s.toList.isEmpty = false := by rw [em_any]; exact decide_eq_false hb2
  have hss : (strB Q.bs).size = Q.bs.length := strB_size _
  have r1 := hf.r1
  have r0 := hf.r0
  have hln := hf.ln
  generalize strB Q.bs = S at *
  have hmn : min (s.size : Int) (Q.room - (S.size : Int)) = 0 := by rw [hss]; omega
  have hz : (min (s.size : Int) (Q.room - (S.size : Int)) == 0) = true := by rw [beq_iff_eq]; exact hmn
  have HH : Hid (S.size = Q.bs.length ∧ Q.room - (Q.bs.length : Int) = 0 ∧ min (s.size : Int) (Q.room - (S.size : Int)) = 0) := ⟨hss, hb1, hmn⟩
  have hS1 : (S.size : Int) ≤ 65536 := by omega
  clear h hf hb1 hb2 hss hmn hln
  go_enter Try.func29, Try.ntmps29
  go_upto_region 1 with fail
  go_quiet (fail)
  go_wp2
  go_ret2
  exact ⟨rfl, belD _ _⟩
set_option maxHeartbeats 2000000 in
theorem rwrite_t {w : World} {R : Bk} {r : Nat} {Q : Ru} {vg : Value} (h : RX w R r Q vg) (hf : Q.Fine) (hR : UpR R w) (s : ByteArray) (hs : s.size ≤ 1000000) (hb : rfullB Q s = false) :
    Calls Try.prog 29 #[PR r, .string s] w fun e w' => e = .returned (.tuple #[.int .i64 (rwN Q s : Int), .int .i64 0]) ∧ (∃ vg', RX w' R r (rwQ Q s) vg') ∧ TD R w w' := by
  have hmn := rmin_is hf s
  have hsl : s.data.toList.length = s.size := Array.length_toList
  have hn1 : rwN Q s ≤ s.size := Nat.min_le_left _ _
  have hgl : Q.G.length ≤ 65536 := by have := hf.gl; have := hf.ln; have := hf.r1; omega
  have hss : (strB Q.bs).size = Q.bs.length := strB_size _
  have hcat : strB Q.bs ++ s.extract 0 (rwN Q s) = strB (rwQ Q s).bs := by
    rw [strB_extract, List.drop_zero, Nat.sub_zero]
    apply ByteArray.ext
    simp [strB, ByteArray.data_append, rwQ]
  have hwn : rwN Q s = 0 → s.size = 0 := by
    intro h0
    unfold rfullB at hb
    have h1 := hf.ln
    have h2 := hf.r0
    have h3 : ¬ (Q.room - (Q.bs.length : Int) = 0 ∧ s.size ≠ 0) := fun ⟨a, b⟩ => by simp [a, b] at hb
    unfold rwN at h0
    omega
  have hnn : (rwN Q s : Int) ≤ 65536 := by have := hf.ln; have := hf.r1; have := hf.r0; unfold rwN; omega
  have hBL : (Q.bs.length : Int) ≤ 65536 := by have := hf.ln; have := hf.r1; omega
  have r1 := hf.r1
  have r0 := hf.r0
  have HX : Hid (RX w R r Q vg) := h
  have HC : Hid (strB Q.bs ++ s.extract 0 (rwN Q s) = strB (rwQ Q s).bs) := hcat
  obtain ⟨a4, b4, e4, -⟩ := h.go.shape
  subst e4
  obtain ⟨⟨c0, c1, c2, c3, c4⟩, -⟩ := h.at5.five
  clear h hcat hf hb
  generalize hSE : strB Q.bs = S at *
  have HSE : Hid (strB Q.bs = S) := hSE
  clear hSE
  rw [← hss] at hmn hBL
  have HMN : Hid (min (s.size : Int) (Q.room - (S.size : Int)) = (rwN Q s : Int)) := hmn
  clear hmn hss
  have hcc : ¬ 9223372036854775807 < S.size + (s.extract 0 (rwN Q s)).size := by rw [ByteArray.size_extract]; omega
  have hne : (min (s.size : Int) (Q.room - (S.size : Int)) == 0) = decide (rwN Q s = 0) := by rw [HMN.out]; by_cases h0 : rwN Q s = 0 <;> simp [h0]
  have hem : rwN Q s = 0 → s.toList.isEmpty = true := fun h0 => by rw [em_any]; exact decide_eq_true (hwn h0)
  have HNE : Hid ((min (s.size : Int) (Q.room - (S.size : Int)) == 0) = decide (rwN Q s = 0)) := hne
  have HWQ : Hid ((rwQ Q s).G = Q.G ++ List.replicate (rwN Q s) false ∧ (rwQ Q s).left = Q.left ∧ (rwQ Q s).sent = Q.sent ∧ (rwQ Q s).room = Q.room) := ⟨rfl, rfl, rfl, rfl⟩
  clear hne
  generalize rwQ Q s = Q2 at *
  generalize rwN Q s = nn at *
  have hnn2 : nn ≤ 100000 := by omega
  have hns : (nn : Int) ≤ (s.size : Int) := by omega
  by_cases h0 : nn = 0
  · have hz : (min (s.size : Int) (Q.room - (S.size : Int)) == 0) = true := by rw [HNE.out]; exact decide_eq_true h0
    have hem' := hem h0
    have H0 : Hid (nn = 0) := h0
    clear h0 hem hwn
    go_enter Try.func29, Try.ntmps29
    go_upto_region 1 with fail
    go_quiet (fail)
    go_upto_region 4 with fail
    rw [HMN.out]
    have hXd := HX.out.later (belD w nq)
    generalize hwd : w.drewN nq = wd at *
    have hbd : Below w.heap.size w wd := by rw [← hwd]; exact belD _ _
    clear hwd c0 c1 c2 c3 c4
    obtain ⟨d3, d3f⟩ := hXd.at5.2 3 _ rfl
    replace d3 : wd.cell? ⟨r, 3, none⟩ = some (.string S) := by rw [← HSE.out]; exact d3
    have hc9 : S.size + nn ≤ 9223372036854775807 := by omega
    have hRd : UpR R wd := hR.up hbd.size
    refine wp_region_held_drew (S := (fun _ => True)) (by kernel_rfl) ?_ (fun hHeld => ?_)
    · first | exact trivial | assumption
    refine wpAnyH_take (i := 0) (oi := ({ dst := some 26, op := Go.Op.move (Go.Operand.tmp 0), type := 27, pos := "ref.go:43", after := #[], guard := none } : Go.Oper)) (v := .pointer (some ⟨r, 0, none⟩)) rfl (by kernel_rfl) (by kernel_rfl) (by kernel_rfl) (fun _ _ _ h => h) (Or.inl ⟨by rfl, ?_⟩) (by assumption) ?_
    · intro wx hSw
      try dsimp only at hSw
      go_simp
      try with_reducible rfl
    try simp only [Act.put, List.setIfInBounds_toArray, List.set_cons_zero, List.set_cons_succ]
    refine wpAnyH_take (i := 1) (oi := ({ dst := some 27, op := Go.Op.nilCheck (Go.Operand.tmp 26), type := 0, pos := "ref.go:43", after := #[{ on := 0, ground := Go.Ground.data }], guard := none } : Go.Oper)) (v := .pointer (some ⟨r, 0, none⟩)) rfl (by kernel_rfl) (by kernel_rfl) (by kernel_rfl) (fun _ _ _ h => h) (Or.inl ⟨by rfl, ?_⟩) (by assumption) ?_
    · intro wx hSw
      try dsimp only at hSw
      go_simp
      try with_reducible rfl
    try simp only [Act.put, List.setIfInBounds_toArray, List.set_cons_zero, List.set_cons_succ]
    refine wpAnyH_take (i := 2) (oi := ({ dst := some 28, op := Go.Op.fieldAddr 45 (Go.Operand.tmp 27) 3, type := 0, pos := "ref.go:43", after := #[{ on := 1, ground := Go.Ground.data }], guard := none } : Go.Oper)) (v := .pointer (some ⟨r, 3, none⟩)) rfl (by kernel_rfl) (by kernel_rfl) (by kernel_rfl) (fun _ _ _ h => h) (Or.inl ⟨by rfl, ?_⟩) (by assumption) ?_
    · intro wx hSw
      try dsimp only at hSw
      go_simp
      try with_reducible rfl
    try simp only [Act.put, List.setIfInBounds_toArray, List.set_cons_zero, List.set_cons_succ]
    refine wpAnyH_take (i := 4) (oi := ({ dst := some 30, op := Go.Op.move (Go.Operand.tmp 1), type := 9, pos := "ref.go:43", after := #[], guard := none } : Go.Oper)) (v := .string s) rfl (by kernel_rfl) (by kernel_rfl) (by kernel_rfl) (fun _ _ _ h => h) (Or.inl ⟨by rfl, ?_⟩) (by assumption) ?_
    · intro wx hSw
      try dsimp only at hSw
      go_simp
      try with_reducible rfl
    try simp only [Act.put, List.setIfInBounds_toArray, List.set_cons_zero, List.set_cons_succ]
    refine wpAnyH_take (i := 5) (oi := ({ dst := some 31, op := Go.Op.move (Go.Operand.tmp 6), type := 3, pos := "ref.go:43", after := #[], guard := none } : Go.Oper)) (v := .int .i64 (nn : Int)) rfl (by kernel_rfl) (by kernel_rfl) (by kernel_rfl) (fun _ _ _ h => h) (Or.inl ⟨by rfl, ?_⟩) (by assumption) ?_
    · intro wx hSw
      try dsimp only at hSw
      go_simp
      try with_reducible rfl
    try simp only [Act.put, List.setIfInBounds_toArray, List.set_cons_zero, List.set_cons_succ]
    refine wpAnyH_take (i := 6) (oi := ({ dst := some 32, op := Go.Op.slice 9 (Go.Operand.tmp 30) none (some (Go.Operand.tmp 31)) none, type := 9, pos := "ref.go:43", after := #[{ on := 4, ground := Go.Ground.data }, { on := 5, ground := Go.Ground.data }], guard := none } : Go.Oper)) (v := .string (s.extract 0 nn)) rfl (by kernel_rfl) (by kernel_rfl) (by kernel_rfl) (fun _ _ _ h => h) (Or.inl ⟨by rfl, ?_⟩) (by assumption) ?_
    · intro wx hSw
      try dsimp only at hSw
      go_simp
      try with_reducible rfl
    try simp only [Act.put, List.setIfInBounds_toArray, List.set_cons_zero, List.set_cons_succ]
    refine wpAnyH_ready (rs := [3]) (by kernel_rfl) (by simp) ?_
    refine AllReadyH.cons (o := ({ dst := some 29, op := Go.Op.load 9 (Go.Operand.tmp 28), type := 9, pos := "ref.go:43", after := #[{ on := 2, ground := Go.Ground.data }], guard := none } : Go.Oper)) rfl (fun K hK => ?_) AllReadyH.nil
    have u3 : wd.drew.cell? ⟨r, 3, none⟩ = some (.string S) := d3
    go_simp
    refine hK.out _ _ trivial (fun hHeld => ?_)
    clear hK K
    try simp only [Act.put, List.setIfInBounds_toArray, List.set_cons_zero, List.set_cons_succ]
    refine wpAnyH_take (i := 7) (oi := ({ dst := some 33, op := Go.Op.binOp Go.BinOp.add 9 (Go.Operand.tmp 29) (Go.Operand.tmp 32) 9, type := 9, pos := "ref.go:43", after := #[{ on := 3, ground := Go.Ground.data }, { on := 6, ground := Go.Ground.data }], guard := none } : Go.Oper)) (v := .string (S ++ s.extract 0 nn)) rfl (by kernel_rfl) (by kernel_rfl) (by kernel_rfl) (fun _ _ _ h => h) (Or.inl ⟨by rfl, ?_⟩) (by assumption) ?_
    · intro wx hSw
      try dsimp only at hSw
      go_simp
      try with_reducible rfl
    try simp only [Act.put, List.setIfInBounds_toArray, List.set_cons_zero, List.set_cons_succ]
    refine wpAnyH_take (i := 8) (oi := ({ dst := some 34, op := Go.Op.nilCheck (Go.Operand.tmp 26), type := 0, pos := "ref.go:43", after := #[{ on := 0, ground := Go.Ground.data }, { on := 0, ground := Go.Ground.phase }, { on := 1, ground := Go.Ground.phase }, { on := 2, ground := Go.Ground.phase }, { on := 3, ground := Go.Ground.phase }, { on := 4, ground := Go.Ground.phase }, { on := 5, ground := Go.Ground.phase }, { on := 6, ground := Go.Ground.phase }, { on := 7, ground := Go.Ground.phase }], guard := none } : Go.Oper)) (v := .pointer (some ⟨r, 0, none⟩)) rfl (by kernel_rfl) (by kernel_rfl) (by kernel_rfl) (fun _ _ _ h => h) (Or.inl ⟨by rfl, ?_⟩) (by assumption) ?_
    · intro wx hSw
      try dsimp only at hSw
      go_simp
      try with_reducible rfl
    try simp only [Act.put, List.setIfInBounds_toArray, List.set_cons_zero, List.set_cons_succ]
    refine wpAnyH_take (i := 9) (oi := ({ dst := some 35, op := Go.Op.fieldAddr 45 (Go.Operand.tmp 34) 3, type := 0, pos := "ref.go:43", after := #[{ on := 8, ground := Go.Ground.data }, { on := 0, ground := Go.Ground.phase }, { on := 1, ground := Go.Ground.phase }, { on := 2, ground := Go.Ground.phase }, { on := 3, ground := Go.Ground.phase }, { on := 4, ground := Go.Ground.phase }, { on := 5, ground := Go.Ground.phase }, { on := 6, ground := Go.Ground.phase }, { on := 7, ground := Go.Ground.phase }], guard := none } : Go.Oper)) (v := .pointer (some ⟨r, 3, none⟩)) rfl (by kernel_rfl) (by kernel_rfl) (by kernel_rfl) (fun _ _ _ h => h) (Or.inl ⟨by rfl, ?_⟩) (by assumption) ?_
    · intro wx hSw
      try dsimp only at hSw
      go_simp
      try with_reducible rfl
    try simp only [Act.put, List.setIfInBounds_toArray, List.set_cons_zero, List.set_cons_succ]
    refine wpAnyH_ready (rs := [10]) (by kernel_rfl) (by simp) ?_
    refine AllReadyH.cons (o := ({ dst := none, op := Go.Op.store 9 (Go.Operand.tmp 35) (Go.Operand.tmp 33), type := 0, pos := "ref.go:43", after := #[{ on := 9, ground := Go.Ground.data }, { on := 7, ground := Go.Ground.data }, { on := 0, ground := Go.Ground.phase }, { on := 1, ground := Go.Ground.phase }, { on := 2, ground := Go.Ground.phase }, { on := 3, ground := Go.Ground.phase }, { on := 4, ground := Go.Ground.phase }, { on := 5, ground := Go.Ground.phase }, { on := 6, ground := Go.Ground.phase }, { on := 7, ground := Go.Ground.phase }], guard := none } : Go.Oper)) rfl (fun K hK => ?_) AllReadyH.nil
    have u3 : wd.drew.cell? ⟨r, 3, none⟩ = some (.string S) := d3
    have u4 : wd.drew.frozen? ⟨r, 3, none⟩ = false := d3f
    go_simp
    refine hK.out _ _ trivial (fun hHeld => ?_)
    clear hK K
    try simp only [Act.put, List.setIfInBounds_toArray, List.set_cons_zero, List.set_cons_succ]
    refine wpAnyH_done (by kernel_rfl) ?_ _
    have hAs : At (wd.setCell ⟨r, 3, none⟩ (.string (S ++ s.extract 0 nn))).drew r #[.int .i64 Q.left, .int .i64 (Q.sent : Int), .int .i64 Q.room, .string (S ++ s.extract 0 nn), .slice a4 Q.G.length b4] := (hXd.at5.set 3 (.string (S ++ s.extract 0 nn))).later (Below.refl _ _).drew
    have hKs : Kd (wd.setCell ⟨r, 3, none⟩ (.string (S ++ s.extract 0 nn))).drew r 45 := (hXd.kd.set ⟨r, 3, none⟩ (.string (S ++ s.extract 0 nn))).later (Below.refl _ _).drew
    have hGs : GO (wd.setCell ⟨r, 3, none⟩ (.string (S ++ s.extract 0 nn))).drew R (.slice a4 Q.G.length b4) Q.G := row_later (row_set hXd.go hXd.kd (by decide) 3 (.string (S ++ s.extract 0 nn))) (Below.refl _ _).drew
    have hTs : TD R w (wd.setCell ⟨r, 3, none⟩ (.string (S ++ s.extract 0 nn))).drew := (TY.of_below hbd).trans ((TY.set hXd.kd (by decide) hXd.ge 3 (.string (S ++ s.extract 0 nn))).later (Below.refl _ _).drew)
    generalize (wd.setCell ⟨r, 3, none⟩ (.string (S ++ s.extract 0 nn))).drew = ws at *
    have bq := bel1 ws (.cells #[] 4)
    obtain ⟨v1, w1, hr1, hg1, hb1, hnn1⟩ := clone_run (w := ws) (hGs.rd.later bq) (by omega) 43
    obtain ⟨v2, w2, hr2, hg2, hgr2⟩ := zeros_run hg1 (fun k h => Nat.le_trans hb1.size h) nn hnn2 (by omega) hnn1 43
    obtain ⟨a2, b2, e2, -⟩ := hg2.shape
    subst e2
    have hb2 : Below ws.heap.size ws w2 := hb1.grown hgr2 hb1.size (fun k hk => (row_kd hg1 k hk).1)
    have hA2 := hAs.later hb2
    have hK2 := hKs.later hb2
    have HA2 : Hid (At w2 r #[.int .i64 Q.left, .int .i64 (Q.sent : Int), .int .i64 Q.room, .string (S ++ s.extract 0 nn), .slice a4 Q.G.length b4] ∧ Kd w2 r 45 ∧ TD R w w2) := ⟨hA2, hK2, hTs.later hb2⟩
    obtain ⟨d4, d4f⟩ := hA2.2 4 _ rfl
    have hRs : UpR R ws := hR.up hTs.size
    have HG2 : Hid (GO w2 R (.slice a2 (Q.G ++ List.replicate nn false).length b2) (Q.G ++ List.replicate nn false)) := row_low hg2 hRs
    have s4 := (hAs.later bq).2 4 _ rfl
    obtain ⟨s4a, s4b⟩ := s4
    generalize (Q.G ++ List.replicate nn false).length = ln at *
    clear hA2 hK2 hTs hGs hKs hAs hg1 hg2 hb1 hb2 hgr2 d3 d3f hXd
    go_wp2_with (first
      | (at_builtin; refine wpList_append_eq2 rfl _ _ rfl rfl rfl hr1 ?_)
      | (at_builtin; refine wpList_append_eq2 rfl _ _ rfl rfl rfl hr2 ?_)
      | go_in)
    go_ret2
    refine ⟨rfl, ⟨.slice a2 ln b2, ?_⟩, ?_⟩
    · obtain ⟨q1, q2, q3⟩ := HA2.out
      have := q1.set 4 (.slice a2 ln b2)
      refine ⟨?_, q2.set _ _, HX.out.ge, ?_⟩
      · rw [HC.out] at this
        rw [ruV, HWQ.out.2.1, HWQ.out.2.2.1, HWQ.out.2.2.2]
        exact this
      · rw [HWQ.out.1]
        exact row_set HG2.out q2 (by decide) _ _
    · exact HA2.out.2.2.trans (TY.set HA2.out.2.1 (by decide) HX.out.ge _ _)
  · have hz : (min (s.size : Int) (Q.room - (S.size : Int)) == 0) = false := by rw [HNE.out]; exact decide_eq_false h0
    clear h0 hem hwn
    go_enter Try.func29, Try.ntmps29
    go_upto_region 1 with fail
    go_quiet (fail)
    go_upto_region 4 with fail
    rw [HMN.out]
    have hXd := HX.out.later (belD w nq)
    generalize hwd : w.drewN nq = wd at *
    have hbd : Below w.heap.size w wd := by rw [← hwd]; exact belD _ _
    clear hwd c0 c1 c2 c3 c4
    obtain ⟨d3, d3f⟩ := hXd.at5.2 3 _ rfl
    replace d3 : wd.cell? ⟨r, 3, none⟩ = some (.string S) := by rw [← HSE.out]; exact d3
    have hc9 : S.size + nn ≤ 9223372036854775807 := by omega
    have hRd : UpR R wd := hR.up hbd.size
    refine wp_region_held_drew (S := (fun _ => True)) (by kernel_rfl) ?_ (fun hHeld => ?_)
    · first | exact trivial | assumption
    refine wpAnyH_take (i := 0) (oi := ({ dst := some 26, op := Go.Op.move (Go.Operand.tmp 0), type := 27, pos := "ref.go:43", after := #[], guard := none } : Go.Oper)) (v := .pointer (some ⟨r, 0, none⟩)) rfl (by kernel_rfl) (by kernel_rfl) (by kernel_rfl) (fun _ _ _ h => h) (Or.inl ⟨by rfl, ?_⟩) (by assumption) ?_
    · intro wx hSw
      try dsimp only at hSw
      go_simp
      try with_reducible rfl
    try simp only [Act.put, List.setIfInBounds_toArray, List.set_cons_zero, List.set_cons_succ]
    refine wpAnyH_take (i := 1) (oi := ({ dst := some 27, op := Go.Op.nilCheck (Go.Operand.tmp 26), type := 0, pos := "ref.go:43", after := #[{ on := 0, ground := Go.Ground.data }], guard := none } : Go.Oper)) (v := .pointer (some ⟨r, 0, none⟩)) rfl (by kernel_rfl) (by kernel_rfl) (by kernel_rfl) (fun _ _ _ h => h) (Or.inl ⟨by rfl, ?_⟩) (by assumption) ?_
    · intro wx hSw
      try dsimp only at hSw
      go_simp
      try with_reducible rfl
    try simp only [Act.put, List.setIfInBounds_toArray, List.set_cons_zero, List.set_cons_succ]
    refine wpAnyH_take (i := 2) (oi := ({ dst := some 28, op := Go.Op.fieldAddr 45 (Go.Operand.tmp 27) 3, type := 0, pos := "ref.go:43", after := #[{ on := 1, ground := Go.Ground.data }], guard := none } : Go.Oper)) (v := .pointer (some ⟨r, 3, none⟩)) rfl (by kernel_rfl) (by kernel_rfl) (by kernel_rfl) (fun _ _ _ h => h) (Or.inl ⟨by rfl, ?_⟩) (by assumption) ?_
    · intro wx hSw
      try dsimp only at hSw
      go_simp
      try with_reducible rfl
    try simp only [Act.put, List.setIfInBounds_toArray, List.set_cons_zero, List.set_cons_succ]
    refine wpAnyH_take (i := 4) (oi := ({ dst := some 30, op := Go.Op.move (Go.Operand.tmp 1), type := 9, pos := "ref.go:43", after := #[], guard := none } : Go.Oper)) (v := .string s) rfl (by kernel_rfl) (by kernel_rfl) (by kernel_rfl) (fun _ _ _ h => h) (Or.inl ⟨by rfl, ?_⟩) (by assumption) ?_
    · intro wx hSw
      try dsimp only at hSw
      go_simp
      try with_reducible rfl
    try simp only [Act.put, List.setIfInBounds_toArray, List.set_cons_zero, List.set_cons_succ]
    refine wpAnyH_take (i := 5) (oi := ({ dst := some 31, op := Go.Op.move (Go.Operand.tmp 6), type := 3, pos := "ref.go:43", after := #[], guard := none } : Go.Oper)) (v := .int .i64 (nn : Int)) rfl (by kernel_rfl) (by kernel_rfl) (by kernel_rfl) (fun _ _ _ h => h) (Or.inl ⟨by rfl, ?_⟩) (by assumption) ?_
    · intro wx hSw
      try dsimp only at hSw
      go_simp
      try with_reducible rfl
    try simp only [Act.put, List.setIfInBounds_toArray, List.set_cons_zero, List.set_cons_succ]
    refine wpAnyH_take (i := 6) (oi := ({ dst := some 32, op := Go.Op.slice 9 (Go.Operand.tmp 30) none (some (Go.Operand.tmp 31)) none, type := 9, pos := "ref.go:43", after := #[{ on := 4, ground := Go.Ground.data }, { on := 5, ground := Go.Ground.data }], guard := none } : Go.Oper)) (v := .string (s.extract 0 nn)) rfl (by kernel_rfl) (by kernel_rfl) (by kernel_rfl) (fun _ _ _ h => h) (Or.inl ⟨by rfl, ?_⟩) (by assumption) ?_
    · intro wx hSw
      try dsimp only at hSw
      go_simp
      try with_reducible rfl
    try simp only [Act.put, List.setIfInBounds_toArray, List.set_cons_zero, List.set_cons_succ]
    refine wpAnyH_ready (rs := [3]) (by kernel_rfl) (by simp) ?_
    refine AllReadyH.cons (o := ({ dst := some 29, op := Go.Op.load 9 (Go.Operand.tmp 28), type := 9, pos := "ref.go:43", after := #[{ on := 2, ground := Go.Ground.data }], guard := none } : Go.Oper)) rfl (fun K hK => ?_) AllReadyH.nil
    have u3 : wd.drew.cell? ⟨r, 3, none⟩ = some (.string S) := d3
    go_simp
    refine hK.out _ _ trivial (fun hHeld => ?_)
    clear hK K
    try simp only [Act.put, List.setIfInBounds_toArray, List.set_cons_zero, List.set_cons_succ]
    refine wpAnyH_take (i := 7) (oi := ({ dst := some 33, op := Go.Op.binOp Go.BinOp.add 9 (Go.Operand.tmp 29) (Go.Operand.tmp 32) 9, type := 9, pos := "ref.go:43", after := #[{ on := 3, ground := Go.Ground.data }, { on := 6, ground := Go.Ground.data }], guard := none } : Go.Oper)) (v := .string (S ++ s.extract 0 nn)) rfl (by kernel_rfl) (by kernel_rfl) (by kernel_rfl) (fun _ _ _ h => h) (Or.inl ⟨by rfl, ?_⟩) (by assumption) ?_
    · intro wx hSw
      try dsimp only at hSw
      go_simp
      try with_reducible rfl
    try simp only [Act.put, List.setIfInBounds_toArray, List.set_cons_zero, List.set_cons_succ]
    refine wpAnyH_take (i := 8) (oi := ({ dst := some 34, op := Go.Op.nilCheck (Go.Operand.tmp 26), type := 0, pos := "ref.go:43", after := #[{ on := 0, ground := Go.Ground.data }, { on := 0, ground := Go.Ground.phase }, { on := 1, ground := Go.Ground.phase }, { on := 2, ground := Go.Ground.phase }, { on := 3, ground := Go.Ground.phase }, { on := 4, ground := Go.Ground.phase }, { on := 5, ground := Go.Ground.phase }, { on := 6, ground := Go.Ground.phase }, { on := 7, ground := Go.Ground.phase }], guard := none } : Go.Oper)) (v := .pointer (some ⟨r, 0, none⟩)) rfl (by kernel_rfl) (by kernel_rfl) (by kernel_rfl) (fun _ _ _ h => h) (Or.inl ⟨by rfl, ?_⟩) (by assumption) ?_
    · intro wx hSw
      try dsimp only at hSw
      go_simp
      try with_reducible rfl
    try simp only [Act.put, List.setIfInBounds_toArray, List.set_cons_zero, List.set_cons_succ]
    refine wpAnyH_take (i := 9) (oi := ({ dst := some 35, op := Go.Op.fieldAddr 45 (Go.Operand.tmp 34) 3, type := 0, pos := "ref.go:43", after := #[{ on := 8, ground := Go.Ground.data }, { on := 0, ground := Go.Ground.phase }, { on := 1, ground := Go.Ground.phase }, { on := 2, ground := Go.Ground.phase }, { on := 3, ground := Go.Ground.phase }, { on := 4, ground := Go.Ground.phase }, { on := 5, ground := Go.Ground.phase }, { on := 6, ground := Go.Ground.phase }, { on := 7, ground := Go.Ground.phase }], guard := none } : Go.Oper)) (v := .pointer (some ⟨r, 3, none⟩)) rfl (by kernel_rfl) (by kernel_rfl) (by kernel_rfl) (fun _ _ _ h => h) (Or.inl ⟨by rfl, ?_⟩) (by assumption) ?_
    · intro wx hSw
      try dsimp only at hSw
      go_simp
      try with_reducible rfl
    try simp only [Act.put, List.setIfInBounds_toArray, List.set_cons_zero, List.set_cons_succ]
    refine wpAnyH_ready (rs := [10]) (by kernel_rfl) (by simp) ?_
    refine AllReadyH.cons (o := ({ dst := none, op := Go.Op.store 9 (Go.Operand.tmp 35) (Go.Operand.tmp 33), type := 0, pos := "ref.go:43", after := #[{ on := 9, ground := Go.Ground.data }, { on := 7, ground := Go.Ground.data }, { on := 0, ground := Go.Ground.phase }, { on := 1, ground := Go.Ground.phase }, { on := 2, ground := Go.Ground.phase }, { on := 3, ground := Go.Ground.phase }, { on := 4, ground := Go.Ground.phase }, { on := 5, ground := Go.Ground.phase }, { on := 6, ground := Go.Ground.phase }, { on := 7, ground := Go.Ground.phase }], guard := none } : Go.Oper)) rfl (fun K hK => ?_) AllReadyH.nil
    have u3 : wd.drew.cell? ⟨r, 3, none⟩ = some (.string S) := d3
    have u4 : wd.drew.frozen? ⟨r, 3, none⟩ = false := d3f
    go_simp
    refine hK.out _ _ trivial (fun hHeld => ?_)
    clear hK K
    try simp only [Act.put, List.setIfInBounds_toArray, List.set_cons_zero, List.set_cons_succ]
    refine wpAnyH_done (by kernel_rfl) ?_ _
    have hAs : At (wd.setCell ⟨r, 3, none⟩ (.string (S ++ s.extract 0 nn))).drew r #[.int .i64 Q.left, .int .i64 (Q.sent : Int), .int .i64 Q.room, .string (S ++ s.extract 0 nn), .slice a4 Q.G.length b4] := (hXd.at5.set 3 (.string (S ++ s.extract 0 nn))).later (Below.refl _ _).drew
    have hKs : Kd (wd.setCell ⟨r, 3, none⟩ (.string (S ++ s.extract 0 nn))).drew r 45 := (hXd.kd.set ⟨r, 3, none⟩ (.string (S ++ s.extract 0 nn))).later (Below.refl _ _).drew
    have hGs : GO (wd.setCell ⟨r, 3, none⟩ (.string (S ++ s.extract 0 nn))).drew R (.slice a4 Q.G.length b4) Q.G := row_later (row_set hXd.go hXd.kd (by decide) 3 (.string (S ++ s.extract 0 nn))) (Below.refl _ _).drew
    have hTs : TD R w (wd.setCell ⟨r, 3, none⟩ (.string (S ++ s.extract 0 nn))).drew := (TY.of_below hbd).trans ((TY.set hXd.kd (by decide) hXd.ge 3 (.string (S ++ s.extract 0 nn))).later (Below.refl _ _).drew)
    generalize (wd.setCell ⟨r, 3, none⟩ (.string (S ++ s.extract 0 nn))).drew = ws at *
    have bq := bel1 ws (.cells #[] 4)
    obtain ⟨v1, w1, hr1, hg1, hb1, hnn1⟩ := clone_run (w := ws) (hGs.rd.later bq) (by omega) 43
    obtain ⟨v2, w2, hr2, hg2, hgr2⟩ := zeros_run hg1 (fun k h => Nat.le_trans hb1.size h) nn hnn2 (by omega) hnn1 43
    obtain ⟨a2, b2, e2, -⟩ := hg2.shape
    subst e2
    have hb2 : Below ws.heap.size ws w2 := hb1.grown hgr2 hb1.size (fun k hk => (row_kd hg1 k hk).1)
    have hA2 := hAs.later hb2
    have hK2 := hKs.later hb2
    have HA2 : Hid (At w2 r #[.int .i64 Q.left, .int .i64 (Q.sent : Int), .int .i64 Q.room, .string (S ++ s.extract 0 nn), .slice a4 Q.G.length b4] ∧ Kd w2 r 45 ∧ TD R w w2) := ⟨hA2, hK2, hTs.later hb2⟩
    obtain ⟨d4, d4f⟩ := hA2.2 4 _ rfl
    have hRs : UpR R ws := hR.up hTs.size
    have HG2 : Hid (GO w2 R (.slice a2 (Q.G ++ List.replicate nn false).length b2) (Q.G ++ List.replicate nn false)) := row_low hg2 hRs
    have s4 := (hAs.later bq).2 4 _ rfl
    obtain ⟨s4a, s4b⟩ := s4
    generalize (Q.G ++ List.replicate nn false).length = ln at *
    clear hA2 hK2 hTs hGs hKs hAs hg1 hg2 hb1 hb2 hgr2 d3 d3f hXd
    go_wp2_with (first
      | (at_builtin; refine wpList_append_eq2 rfl _ _ rfl rfl rfl hr1 ?_)
      | (at_builtin; refine wpList_append_eq2 rfl _ _ rfl rfl rfl hr2 ?_)
      | go_in)
    go_ret2
    refine ⟨rfl, ⟨.slice a2 ln b2, ?_⟩, ?_⟩
    · obtain ⟨q1, q2, q3⟩ := HA2.out
      have := q1.set 4 (.slice a2 ln b2)
      refine ⟨?_, q2.set _ _, HX.out.ge, ?_⟩
      · rw [HC.out] at this
        rw [ruV, HWQ.out.2.1, HWQ.out.2.2.1, HWQ.out.2.2.2]
        exact this
      · rw [HWQ.out.1]
        exact row_set HG2.out q2 (by decide) _ _
    · exact HA2.out.2.2.trans (TY.set HA2.out.2.1 (by decide) HX.out.ge _ _)
end Go.Proofs.Ytlbdecjppgjdiaa
