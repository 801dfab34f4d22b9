/- Write, send, Next, Probe. -/
import Derived.Test.YtkclookpdngkoaaDQb
namespace Go.Proofs.Ytkclookpdngkoaa.S
open Go.RowKit Go.Maps Go.Lib
set_option maxRecDepth 100000
set_option linter.unusedVariables false
set_option linter.unusedSimpArgs false


theorem strB_extract (s : ByteArray) (i j : Nat) : s.extract i j = strB ((s.data.toList.drop i).take (j - i)) := by
  apply ByteArray.ext
  apply Array.toList_inj.1
  simp [strB, ByteArray.data_extract, Array.toList_extract, List.extract_eq_take_drop]
theorem step_append_str {w w' : World} {ops : Array Oper} {o : Oper} {a : Act} {K : Act → World → Prop} {Q : Exit → Act → World → Prop} {E : Prop} {v vs v' : Value} {t u : TypeId} (hgd : o.guard = none) (s x : Operand) (ho : o.op = .call { callee := .builtin .append, args := #[s, x], argTypes := #[t, u] })
    (hs : a.eval s = v) (hx : a.eval x = vs) (hr : (Builtin.append_ #[t, u] o.type #[v, vs]).run Try.prog w = .ok v' w') (h : K (a.put o.dst v') w') : if Region.wanted o (yielded ops a.tmps) = true then Oper.wp Try.prog o a w K Q else E := by
  have hw : Region.wanted o (yielded ops a.tmps) = true := by simp [Region.wanted, hgd]
  rw [if_pos hw]
  unfold Oper.wp execOp
  simp only [ho, resolve, invoke, builtin, Sem.run_bind, Sem.run_pure, Result.andThen_ok, List.map_toArray, List.map_cons, List.map_nil, hs, hx, hr]
  exact h
theorem em_any (s : ByteArray) : s.toList.isEmpty = decide (s.size = 0) := by
  rw [ByteArray.toList_eq]
  cases hl : s.data.toList with
  | nil => simp [ByteArray.size, ← Array.length_toList, hl]
  | cons x r => simp [ByteArray.size, ← Array.length_toList, hl]
/-- What is written: how many bytes. -/
def wrN (Q : Qu) (s : ByteArray) : Nat := min s.size (Q.room.toNat - Q.bs.length)
def wrQ (Q : Qu) (s : ByteArray) : Qu := { Q with bs := Q.bs ++ s.data.toList.take (wrN Q s) }
theorem wrQ_fine {Q : Qu} (h : Q.Fine) (s : ByteArray) : (wrQ Q s).Fine := by
  have hl : (Q.bs ++ s.data.toList.take (wrN Q s)).length ≤ Q.room.toNat := by
    rw [List.length_append, List.length_take]
    have h1 := h.ln
    have h2 := h.r0
    unfold wrN
    omega
  refine ⟨h.r0, h.r1, h.l0, h.l1, ?_, ?_, h.ok⟩
  · have := h.r0
    show ((Q.bs ++ s.data.toList.take (wrN Q s)).length : Int) ≤ Q.room
    omega
  · show Q.sent ≤ (Q.bs ++ s.data.toList.take (wrN Q s)).length
    rw [List.length_append]
    have := h.sn
    omega
/-- append of a string's bytes, and where they lie. -/
theorem apps {w : World} {R : Bk} {v : Value} {bs : List UInt8} (h : BO w R v bs) (hR : UpR R w) (s : ByteArray) (hl : bs.length + s.size ≤ 1000000) (ty : TypeId) :
    ∃ v' w', (Builtin.append_ #[50, 9] ty #[v, .string s]).run Try.prog w = .ok v' w' ∧ BO w' R v' (bs ++ s.data.toList) ∧ w.grownBy w' v.ownBlock := by
  obtain ⟨i0, hi, hz0, hz1, hz2⟩ := info_parts info5
  obtain ⟨v', w', e1, e2, e3, e4⟩ := run_append_own_string (P := Try.prog) w 0 50 9 ty 5 i0 Try.underlying50 Try.underlying9 hi hz0 hz1 hz2 v bs.length (bs.map byV) h.own s (by unfold maxLen; omega) (by omega) (Nat.zero_le _)
  have hloc : v'.ownBlock = v.ownBlock ∨ v'.ownBlock = some w.heap.size := by
    rcases h.2 with ⟨rfl, h0⟩ | ⟨g, cap, cur, rfl, hg, hb, h1, h2, h3, h4⟩
    · by_cases hm : s.size = 0
      · rw [e4.2 ⟨rfl, hm⟩]; exact Or.inl rfl
      · have hr := run_append_nil_string (P := Try.prog) w 50 9 ty 5 i0 (.int .u8 0) Try.underlying50 Try.underlying9 hi hz0 s (by omega) (by omega) (by rw [hz2]; omega)
        rw [e1] at hr
        injection hr with hr1 hr2
        rw [hr1]
        exact Or.inr rfl
    · by_cases hroom : bs.length + s.size ≤ cap
      · have hr := run_append_room_string (P := Try.prog) w 50 9 ty 5 i0 Try.underlying50 Try.underlying9 hi hz1 g bs.length cap cur hb s hroom (by omega)
        rw [e1] at hr
        injection hr with hr1 hr2
        rw [hr1]
        exact Or.inl rfl
      · have holds : ∀ j u, (bs.map byV)[j]? = some u → w.cell? ((⟨g, 0, none⟩ : Addr).add j) = some u := h.cells (g := g) rfl
        have hr := run_append_grow_string (P := Try.prog) w 50 9 ty 5 i0 (.int .u8 0) Try.underlying50 Try.underlying9 hi hz0 ⟨g, 0, none⟩ bs.length cap (bs.map byV) (by rw [hz1, List.length_map, Nat.mul_one]) holds s (by omega) (by omega) (by rw [hz2]; exact growslice_fits (by omega) (by omega))
        rw [e1] at hr
        injection hr with hr1 hr2
        rw [hr1]
        exact Or.inr rfl
  refine ⟨v', w', e1, ?_, e3⟩
  have hs : (bs ++ s.data.toList).length = bs.length + s.size := by rw [List.length_append, Array.length_toList]; rfl
  unfold BO
  rw [hs, List.map_append]
  exact OwnP.grow h e2 hloc hR
def fullB (Q : Qu) (s : ByteArray) : Bool := decide (Q.room - (Q.bs.length : Int) = 0) && decide (s.size ≠ 0)
theorem write_full {w : World} {R : Bk} {q : Nat} {Q : Qu} {vb vp : Value} (h : QX w R q Q vb vp) (hf : Q.Fine) (s : ByteArray) (hb : fullB Q s = true) :
    Calls Try.prog 8 #[PQ q, .string s] w fun e w' => e = .returned (.tuple #[.int .i64 0, .int .i64 150]) ∧ Below w.heap.size w w' := by
  unfold fullB at hb
  rw [Bool.and_eq_true, decide_eq_true_eq, decide_eq_true_eq] at hb
  obtain ⟨hb1, hb2⟩ := hb
  obtain ⟨⟨c0, c1, c2, c3, c4⟩, -⟩ := h.at5.five
  obtain ⟨a, c, rfl, h0, hcl, hcz⟩ := h.bo.shape
  have r1 := hf.r1
  have hln : (Q.bs.length : Int) ≤ 65536 := by have := hf.ln; omega
  have hsub : ((Q.room - (Q.bs.length : Int)) == 0) = true := by rw [beq_iff_eq]; exact hb1
  have HH : Hid (Q.room - (Q.bs.length : Int) = 0) := hb1
  have hem : s.toList.isEmpty = false := by rw [em_any]; exact decide_eq_false hb2
  clear h h0 hcz hb1 hb2
  obtain ⟨rm, hrm⟩ : ∃ rm, rm = Q.room := ⟨_, rfl⟩
  obtain ⟨ln, hlnn⟩ : ∃ ln, ln = (Q.bs.length : Int) := ⟨_, rfl⟩
  have hr0 := hf.r0
  clear hf
  go_enter Try.func8, Try.ntmps8
  go_upto_region 1 with fail
  go_quiet (fail)
  go_wp2
  go_ret2
  exact ⟨rfl, belD _ _⟩
theorem write_t {w : World} {R : Bk} {q : Nat} {Q : Qu} {vb vp : Value} (h : QX w R q Q vb vp) (hf : Q.Fine) (hR : UpR R w) (s : ByteArray) (hs : s.size ≤ 1000000) (hb : fullB Q s = false) :
    Calls Try.prog 8 #[PQ q, .string s] w fun e w' => e = .returned (.tuple #[.int .i64 (wrN Q s : Int), .int .i64 0]) ∧ (∃ vb', QX w' R q (wrQ Q s) vb' vp) ∧ TK R w w' := by
  have hn1 : wrN Q s ≤ s.size := Nat.min_le_left _ _
  have hsz := strB_extract s 0 (wrN Q s)
  rw [List.drop_zero, Nat.sub_zero] at hsz
  have hlen : (s.data.toList.take (wrN Q s)).length = wrN Q s := by
    have : s.data.toList.length = s.size := Array.length_toList
    rw [List.length_take]; omega
  have hfin := (wrQ_fine hf s).ln
  have r1 := hf.r1
  have r0 := hf.r0
  have hln := hf.ln
  have HL : Hid ((Q.bs ++ s.data.toList.take (wrN Q s)).length = Q.bs.length + wrN Q s) := by show _ = _; rw [List.length_append, hlen]
  obtain ⟨i0, hi, hz0, hz1, hz2⟩ := info_parts info5
  have hrun : ∀ w1 : World, QX w1 R q Q vb vp → UpR R w1 → ∀ ty, ∃ v' w', (Builtin.append_ #[50, 9] ty #[vb, .string (s.extract 0 (wrN Q s))]).run Try.prog w1 = .ok v' w' ∧ BO w' R v' (wrQ Q s).bs ∧ w1.grownBy w' vb.ownBlock := by
    intro w1 h1 hR1 ty
    have hdl : (s.extract 0 (wrN Q s)).data.toList = s.data.toList.take (wrN Q s) := by rw [hsz]; rfl
    have hxl : (s.extract 0 (wrN Q s)).size = wrN Q s := by rw [hsz, strB_size, hlen]
    have hww : Q.bs.length + wrN Q s ≤ 65536 := by unfold wrN; omega
    obtain ⟨v', w', e1, e2, e3⟩ := apps h1.bo hR1 (s.extract 0 (wrN Q s)) (by rw [hxl]; omega) ty
    rw [hdl] at e2
    exact ⟨v', w', e1, e2, e3⟩
  have HX : Hid (QX w R q Q vb vp) := h
  obtain ⟨a, c, rfl, h0, hcl, hcz⟩ := h.bo.shape
  obtain ⟨⟨c0, c1, c2, c3, c4⟩, f0, f1, f2, f3, f4⟩ := h.at5.five
  have hmin : min (s.size : Int) (Q.room - (Q.bs.length : Int)) = (wrN Q s : Int) := by unfold wrN; omega
  have HM : Hid (min (s.size : Int) (Q.room - (Q.bs.length : Int)) = (wrN Q s : Int)) := hmin
  have HF : Hid (Q.Fine) := hf
  have HB : Hid (fullB Q s = false) := hb
  clear hmin h h0 hcz hb hsz hfin HL hlen hf
  have hc3 : ∀ n, (w.drewN n).cell? ⟨q, 3, none⟩ = some (.slice a Q.bs.length c) := fun n => c3
  cases hz : (Q.room - (Q.bs.length : Int) == 0)
  rotate_left
  · have hem : s.toList.isEmpty = true := by
      have := HB.out
      unfold fullB at this
      rw [em_any]
      rw [beq_iff_eq] at hz
      simpa [hz] using this
    go_enter Try.func8, Try.ntmps8
    go_upto_region 1 with fail
    go_quiet (fail)
    go_upto_region 5 with fail
    simp only [HM.out]
    have hXd := HX.out.later (belD w nq)
    generalize hwd : w.drewN nq = wd at *
    have hbd : Below w.heap.size w wd := by rw [← hwd]; exact belD _ _
    clear hwd
    have hRd : UpR R wd := hR.up hbd.size
    obtain ⟨v', w', hr, hbo, hgr⟩ := hrun wd.drew (hXd.later (Below.refl _ _).drew) hRd 50
    obtain ⟨av, cv, rfl, -⟩ := hbo.shape
    have htk : TK R wd w' := TY.undrew (TY.grown (w := wd.drew) hgr (fun k hk => by obtain ⟨p1, p2⟩ := row_kd hXd.bo k hk; exact ⟨p1, 5, by decide, p2⟩))
    have hne : some q ≠ (Value.slice a Q.bs.length c).ownBlock := fun e => absurd ((row_kd hXd.bo q e.symm).2.one hXd.kd) (by decide)
    have hA2 : At w' q (quV Q (.slice a Q.bs.length c) vp) := hXd.at5.turn (S := fun j => (Value.slice a Q.bs.length c).ownBlock = some j) ((Turn.of_grown (w := wd.drew) hgr (fun j hj => Or.inl hj)).undrew) (fun e => hne e.symm)
    have hkd2 : Kd w' q 53 := by obtain ⟨cc, fz, hk⟩ := hXd.kd; exact ⟨cc, fz, (hgr.block q hXd.kd.lt hne).trans hk⟩
    have hpo2 : PO w' R vp Q.ps := row_turn (hXd.later (w' := wd.drew) (Below.refl _ _).drew).po (Turn.of_grown (S := fun j => (Value.slice a Q.bs.length c).ownBlock = some j) (w := wd.drew) hgr (fun j hj => Or.inl hj)) (fun k hk e => absurd ((row_kd hXd.po k hk).2.one (row_kd hXd.bo k e).2) (by decide))
    refine wp_region_held_drew (S := (fun _ => True)) (by kernel_rfl) ?_ (fun hHeld => ?_)
    · first | exact trivial | assumption
    refine wpAnyH_take (i := 0) (oi := ({ dst := some 28, op := Go.Op.move (Go.Operand.tmp 0), type := 24, pos := "sendq.go:39", after := #[], guard := none } : Go.Oper)) (v := .pointer (some ⟨q, 0, none⟩)) rfl (by kernel_rfl) (by kernel_rfl) (by kernel_rfl) (fun _ _ _ h => h) (Or.inl ⟨by rfl, ?_⟩) (by assumption) ?_
    · intro wx hSw
      try dsimp only at hSw
      go_simp
      try with_reducible rfl
    try simp only [Act.put, List.setIfInBounds_toArray, List.set_cons_zero, List.set_cons_succ]
    refine wpAnyH_take (i := 1) (oi := ({ dst := some 29, op := Go.Op.move (Go.Operand.tmp 0), type := 24, pos := "sendq.go:39", after := #[], guard := none } : Go.Oper)) (v := .pointer (some ⟨q, 0, none⟩)) rfl (by kernel_rfl) (by kernel_rfl) (by kernel_rfl) (fun _ _ _ h => h) (Or.inl ⟨by rfl, ?_⟩) (by assumption) ?_
    · intro wx hSw
      try dsimp only at hSw
      go_simp
      try with_reducible rfl
    try simp only [Act.put, List.setIfInBounds_toArray, List.set_cons_zero, List.set_cons_succ]
    refine wpAnyH_take (i := 2) (oi := ({ dst := some 30, op := Go.Op.nilCheck (Go.Operand.tmp 29), type := 0, pos := "sendq.go:39", after := #[{ on := 1, ground := Go.Ground.data }], guard := none } : Go.Oper)) (v := .pointer (some ⟨q, 0, none⟩)) rfl (by kernel_rfl) (by kernel_rfl) (by kernel_rfl) (fun _ _ _ h => h) (Or.inl ⟨by rfl, ?_⟩) (by assumption) ?_
    · intro wx hSw
      try dsimp only at hSw
      go_simp
      try with_reducible rfl
    try simp only [Act.put, List.setIfInBounds_toArray, List.set_cons_zero, List.set_cons_succ]
    refine wpAnyH_take (i := 3) (oi := ({ dst := some 31, op := Go.Op.fieldAddr 53 (Go.Operand.tmp 30) 3, type := 0, pos := "sendq.go:39", after := #[{ on := 2, ground := Go.Ground.data }], guard := none } : Go.Oper)) (v := .pointer (some ⟨q, 3, none⟩)) rfl (by kernel_rfl) (by kernel_rfl) (by kernel_rfl) (fun _ _ _ h => h) (Or.inl ⟨by rfl, ?_⟩) (by assumption) ?_
    · intro wx hSw
      try dsimp only at hSw
      go_simp
      try with_reducible rfl
    try simp only [Act.put, List.setIfInBounds_toArray, List.set_cons_zero, List.set_cons_succ]
    refine wpAnyH_take (i := 5) (oi := ({ dst := some 33, op := Go.Op.move (Go.Operand.tmp 1), type := 9, pos := "sendq.go:39", after := #[], guard := none } : Go.Oper)) (v := .string s) rfl (by kernel_rfl) (by kernel_rfl) (by kernel_rfl) (fun _ _ _ h => h) (Or.inl ⟨by rfl, ?_⟩) (by assumption) ?_
    · intro wx hSw
      try dsimp only at hSw
      go_simp
      try with_reducible rfl
    try simp only [Act.put, List.setIfInBounds_toArray, List.set_cons_zero, List.set_cons_succ]
    refine wpAnyH_take (i := 6) (oi := ({ dst := some 34, op := Go.Op.move (Go.Operand.tmp 7), type := 3, pos := "sendq.go:39", after := #[], guard := none } : Go.Oper)) (v := .int .i64 (wrN Q s : Int)) rfl (by kernel_rfl) (by kernel_rfl) (by kernel_rfl) (fun _ _ _ h => h) (Or.inl ⟨by rfl, ?_⟩) (by assumption) ?_
    · intro wx hSw
      try dsimp only at hSw
      go_simp
      try with_reducible rfl
    try simp only [Act.put, List.setIfInBounds_toArray, List.set_cons_zero, List.set_cons_succ]
    refine wpAnyH_take (i := 7) (oi := ({ dst := some 35, op := Go.Op.slice 9 (Go.Operand.tmp 33) none (some (Go.Operand.tmp 34)) none, type := 9, pos := "sendq.go:39", after := #[{ on := 5, ground := Go.Ground.data }, { on := 6, ground := Go.Ground.data }], guard := none } : Go.Oper)) (v := .string (s.extract 0 (wrN Q s))) rfl (by kernel_rfl) (by kernel_rfl) (by kernel_rfl) (fun _ _ _ h => h) (Or.inl ⟨by rfl, ?_⟩) (by assumption) ?_
    · intro wx hSw
      try dsimp only at hSw
      go_simp
      try with_reducible rfl
    try simp only [Act.put, List.setIfInBounds_toArray, List.set_cons_zero, List.set_cons_succ]
    refine wpAnyH_ready (rs := [4]) (by kernel_rfl) (by simp) ?_
    refine AllReadyH.cons (o := ({ dst := some 32, op := Go.Op.load 50 (Go.Operand.tmp 31), type := 50, pos := "sendq.go:39", after := #[{ on := 3, ground := Go.Ground.data }], guard := none } : Go.Oper)) rfl (fun K hK => ?_) AllReadyH.nil
    have u3 : wd.drew.cell? ⟨q, 3, none⟩ = some (.slice a Q.bs.length c) := (hXd.at5.2 3 _ rfl).1
    go_simp
    refine hK.out _ _ trivial (fun hHeld => ?_)
    clear hK K
    try simp only [Act.put, List.setIfInBounds_toArray, List.set_cons_zero, List.set_cons_succ]
    refine wpAnyH_ready (rs := [8]) (by kernel_rfl) (by simp) ?_
    refine AllReadyH.cons (o := ({ dst := some 36, op := Go.Op.call { callee := Go.Callee.builtin Go.Builtin.append, args := #[Go.Operand.tmp 32, Go.Operand.tmp 35], argTypes := #[50, 9] }, type := 50, pos := "sendq.go:39", after := #[{ on := 4, ground := Go.Ground.data }, { on := 7, ground := Go.Ground.data }], guard := none } : Go.Oper)) rfl (fun K hK => ?_) AllReadyH.nil
    refine step_append_str (by rfl) _ _ (by rfl) (by rfl) (by rfl) hr ?_
    refine hK.out _ _ trivial (fun hHeld => ?_)
    clear hK K
    try simp only [Act.put, List.setIfInBounds_toArray, List.set_cons_zero, List.set_cons_succ]
    refine wpAnyH_take (i := 9) (oi := ({ dst := some 37, op := Go.Op.nilCheck (Go.Operand.tmp 28), type := 0, pos := "sendq.go:39", after := #[{ on := 0, ground := Go.Ground.data }, { on := 0, ground := Go.Ground.phase }, { on := 1, ground := Go.Ground.phase }, { on := 2, ground := Go.Ground.phase }, { on := 3, ground := Go.Ground.phase }, { on := 4, ground := Go.Ground.phase }, { on := 5, ground := Go.Ground.phase }, { on := 6, ground := Go.Ground.phase }, { on := 7, ground := Go.Ground.phase }, { on := 8, ground := Go.Ground.phase }], guard := none } : Go.Oper)) (v := .pointer (some ⟨q, 0, none⟩)) rfl (by kernel_rfl) (by kernel_rfl) (by kernel_rfl) (fun _ _ _ h => h) (Or.inl ⟨by rfl, ?_⟩) (by assumption) ?_
    · intro wx hSw
      try dsimp only at hSw
      go_simp
      try with_reducible rfl
    try simp only [Act.put, List.setIfInBounds_toArray, List.set_cons_zero, List.set_cons_succ]
    refine wpAnyH_take (i := 10) (oi := ({ dst := some 38, op := Go.Op.fieldAddr 53 (Go.Operand.tmp 37) 3, type := 0, pos := "sendq.go:39", after := #[{ on := 9, ground := Go.Ground.data }, { on := 0, ground := Go.Ground.phase }, { on := 1, ground := Go.Ground.phase }, { on := 2, ground := Go.Ground.phase }, { on := 3, ground := Go.Ground.phase }, { on := 4, ground := Go.Ground.phase }, { on := 5, ground := Go.Ground.phase }, { on := 6, ground := Go.Ground.phase }, { on := 7, ground := Go.Ground.phase }, { on := 8, ground := Go.Ground.phase }], guard := none } : Go.Oper)) (v := .pointer (some ⟨q, 3, none⟩)) rfl (by kernel_rfl) (by kernel_rfl) (by kernel_rfl) (fun _ _ _ h => h) (Or.inl ⟨by rfl, ?_⟩) (by assumption) ?_
    · intro wx hSw
      try dsimp only at hSw
      go_simp
      try with_reducible rfl
    try simp only [Act.put, List.setIfInBounds_toArray, List.set_cons_zero, List.set_cons_succ]
    refine wpAnyH_ready (rs := [11]) (by kernel_rfl) (by simp) ?_
    refine AllReadyH.cons (o := ({ dst := none, op := Go.Op.store 50 (Go.Operand.tmp 38) (Go.Operand.tmp 36), type := 0, pos := "sendq.go:39", after := #[{ on := 10, ground := Go.Ground.data }, { on := 8, ground := Go.Ground.data }, { on := 8, ground := Go.Ground.chain }, { on := 0, ground := Go.Ground.phase }, { on := 1, ground := Go.Ground.phase }, { on := 2, ground := Go.Ground.phase }, { on := 3, ground := Go.Ground.phase }, { on := 4, ground := Go.Ground.phase }, { on := 5, ground := Go.Ground.phase }, { on := 6, ground := Go.Ground.phase }, { on := 7, ground := Go.Ground.phase }, { on := 8, ground := Go.Ground.phase }], guard := none } : Go.Oper)) rfl (fun K hK => ?_) AllReadyH.nil
    have k3 := hA2.2 3 _ rfl
    have k31 := k3.1
    have k32 := k3.2
    go_simp
    refine hK.out _ _ trivial (fun hHeld => ?_)
    clear hK K
    try simp only [Act.put, List.setIfInBounds_toArray, List.set_cons_zero, List.set_cons_succ]
    refine wpAnyH_done (by kernel_rfl) ?_ _
    go_wp2
    go_ret2
    exact ⟨rfl, ⟨_, hA2.set 3 _, hkd2.set _ _, hXd.ge, row_set hbo hkd2 (by decide) _ _, row_set hpo2 hkd2 (by decide) _ _⟩, (TY.of_below hbd).trans (htk.trans (TY.set hkd2 (by decide) hXd.ge _ _))⟩
  · go_enter Try.func8, Try.ntmps8
    go_upto_region 1 with fail
    go_quiet (fail)
    go_upto_region 5 with fail
    simp only [HM.out]
    have hXd := HX.out.later (belD w nq)
    generalize hwd : w.drewN nq = wd at *
    have hbd : Below w.heap.size w wd := by rw [← hwd]; exact belD _ _
    clear hwd
    have hRd : UpR R wd := hR.up hbd.size
    obtain ⟨v', w', hr, hbo, hgr⟩ := hrun wd.drew (hXd.later (Below.refl _ _).drew) hRd 50
    obtain ⟨av, cv, rfl, -⟩ := hbo.shape
    have htk : TK R wd w' := TY.undrew (TY.grown (w := wd.drew) hgr (fun k hk => by obtain ⟨p1, p2⟩ := row_kd hXd.bo k hk; exact ⟨p1, 5, by decide, p2⟩))
    have hne : some q ≠ (Value.slice a Q.bs.length c).ownBlock := fun e => absurd ((row_kd hXd.bo q e.symm).2.one hXd.kd) (by decide)
    have hA2 : At w' q (quV Q (.slice a Q.bs.length c) vp) := hXd.at5.turn (S := fun j => (Value.slice a Q.bs.length c).ownBlock = some j) ((Turn.of_grown (w := wd.drew) hgr (fun j hj => Or.inl hj)).undrew) (fun e => hne e.symm)
    have hkd2 : Kd w' q 53 := by obtain ⟨cc, fz, hk⟩ := hXd.kd; exact ⟨cc, fz, (hgr.block q hXd.kd.lt hne).trans hk⟩
    have hpo2 : PO w' R vp Q.ps := row_turn (hXd.later (w' := wd.drew) (Below.refl _ _).drew).po (Turn.of_grown (S := fun j => (Value.slice a Q.bs.length c).ownBlock = some j) (w := wd.drew) hgr (fun j hj => Or.inl hj)) (fun k hk e => absurd ((row_kd hXd.po k hk).2.one (row_kd hXd.bo k e).2) (by decide))
    refine wp_region_held_drew (S := (fun _ => True)) (by kernel_rfl) ?_ (fun hHeld => ?_)
    · first | exact trivial | assumption
    refine wpAnyH_take (i := 0) (oi := ({ dst := some 28, op := Go.Op.move (Go.Operand.tmp 0), type := 24, pos := "sendq.go:39", after := #[], guard := none } : Go.Oper)) (v := .pointer (some ⟨q, 0, none⟩)) rfl (by kernel_rfl) (by kernel_rfl) (by kernel_rfl) (fun _ _ _ h => h) (Or.inl ⟨by rfl, ?_⟩) (by assumption) ?_
    · intro wx hSw
      try dsimp only at hSw
      go_simp
      try with_reducible rfl
    try simp only [Act.put, List.setIfInBounds_toArray, List.set_cons_zero, List.set_cons_succ]
    refine wpAnyH_take (i := 1) (oi := ({ dst := some 29, op := Go.Op.move (Go.Operand.tmp 0), type := 24, pos := "sendq.go:39", after := #[], guard := none } : Go.Oper)) (v := .pointer (some ⟨q, 0, none⟩)) rfl (by kernel_rfl) (by kernel_rfl) (by kernel_rfl) (fun _ _ _ h => h) (Or.inl ⟨by rfl, ?_⟩) (by assumption) ?_
    · intro wx hSw
      try dsimp only at hSw
      go_simp
      try with_reducible rfl
    try simp only [Act.put, List.setIfInBounds_toArray, List.set_cons_zero, List.set_cons_succ]
    refine wpAnyH_take (i := 2) (oi := ({ dst := some 30, op := Go.Op.nilCheck (Go.Operand.tmp 29), type := 0, pos := "sendq.go:39", after := #[{ on := 1, ground := Go.Ground.data }], guard := none } : Go.Oper)) (v := .pointer (some ⟨q, 0, none⟩)) rfl (by kernel_rfl) (by kernel_rfl) (by kernel_rfl) (fun _ _ _ h => h) (Or.inl ⟨by rfl, ?_⟩) (by assumption) ?_
    · intro wx hSw
      try dsimp only at hSw
      go_simp
      try with_reducible rfl
    try simp only [Act.put, List.setIfInBounds_toArray, List.set_cons_zero, List.set_cons_succ]
    refine wpAnyH_take (i := 3) (oi := ({ dst := some 31, op := Go.Op.fieldAddr 53 (Go.Operand.tmp 30) 3, type := 0, pos := "sendq.go:39", after := #[{ on := 2, ground := Go.Ground.data }], guard := none } : Go.Oper)) (v := .pointer (some ⟨q, 3, none⟩)) rfl (by kernel_rfl) (by kernel_rfl) (by kernel_rfl) (fun _ _ _ h => h) (Or.inl ⟨by rfl, ?_⟩) (by assumption) ?_
    · intro wx hSw
      try dsimp only at hSw
      go_simp
      try with_reducible rfl
    try simp only [Act.put, List.setIfInBounds_toArray, List.set_cons_zero, List.set_cons_succ]
    refine wpAnyH_take (i := 5) (oi := ({ dst := some 33, op := Go.Op.move (Go.Operand.tmp 1), type := 9, pos := "sendq.go:39", after := #[], guard := none } : Go.Oper)) (v := .string s) rfl (by kernel_rfl) (by kernel_rfl) (by kernel_rfl) (fun _ _ _ h => h) (Or.inl ⟨by rfl, ?_⟩) (by assumption) ?_
    · intro wx hSw
      try dsimp only at hSw
      go_simp
      try with_reducible rfl
    try simp only [Act.put, List.setIfInBounds_toArray, List.set_cons_zero, List.set_cons_succ]
    refine wpAnyH_take (i := 6) (oi := ({ dst := some 34, op := Go.Op.move (Go.Operand.tmp 7), type := 3, pos := "sendq.go:39", after := #[], guard := none } : Go.Oper)) (v := .int .i64 (wrN Q s : Int)) rfl (by kernel_rfl) (by kernel_rfl) (by kernel_rfl) (fun _ _ _ h => h) (Or.inl ⟨by rfl, ?_⟩) (by assumption) ?_
    · intro wx hSw
      try dsimp only at hSw
      go_simp
      try with_reducible rfl
    try simp only [Act.put, List.setIfInBounds_toArray, List.set_cons_zero, List.set_cons_succ]
    refine wpAnyH_take (i := 7) (oi := ({ dst := some 35, op := Go.Op.slice 9 (Go.Operand.tmp 33) none (some (Go.Operand.tmp 34)) none, type := 9, pos := "sendq.go:39", after := #[{ on := 5, ground := Go.Ground.data }, { on := 6, ground := Go.Ground.data }], guard := none } : Go.Oper)) (v := .string (s.extract 0 (wrN Q s))) rfl (by kernel_rfl) (by kernel_rfl) (by kernel_rfl) (fun _ _ _ h => h) (Or.inl ⟨by rfl, ?_⟩) (by assumption) ?_
    · intro wx hSw
      try dsimp only at hSw
      go_simp
      try with_reducible rfl
    try simp only [Act.put, List.setIfInBounds_toArray, List.set_cons_zero, List.set_cons_succ]
    refine wpAnyH_ready (rs := [4]) (by kernel_rfl) (by simp) ?_
    refine AllReadyH.cons (o := ({ dst := some 32, op := Go.Op.load 50 (Go.Operand.tmp 31), type := 50, pos := "sendq.go:39", after := #[{ on := 3, ground := Go.Ground.data }], guard := none } : Go.Oper)) rfl (fun K hK => ?_) AllReadyH.nil
    have u3 : wd.drew.cell? ⟨q, 3, none⟩ = some (.slice a Q.bs.length c) := (hXd.at5.2 3 _ rfl).1
    go_simp
    refine hK.out _ _ trivial (fun hHeld => ?_)
    clear hK K
    try simp only [Act.put, List.setIfInBounds_toArray, List.set_cons_zero, List.set_cons_succ]
    refine wpAnyH_ready (rs := [8]) (by kernel_rfl) (by simp) ?_
    refine AllReadyH.cons (o := ({ dst := some 36, op := Go.Op.call { callee := Go.Callee.builtin Go.Builtin.append, args := #[Go.Operand.tmp 32, Go.Operand.tmp 35], argTypes := #[50, 9] }, type := 50, pos := "sendq.go:39", after := #[{ on := 4, ground := Go.Ground.data }, { on := 7, ground := Go.Ground.data }], guard := none } : Go.Oper)) rfl (fun K hK => ?_) AllReadyH.nil
    refine step_append_str (by rfl) _ _ (by rfl) (by rfl) (by rfl) hr ?_
    refine hK.out _ _ trivial (fun hHeld => ?_)
    clear hK K
    try simp only [Act.put, List.setIfInBounds_toArray, List.set_cons_zero, List.set_cons_succ]
    refine wpAnyH_take (i := 9) (oi := ({ dst := some 37, op := Go.Op.nilCheck (Go.Operand.tmp 28), type := 0, pos := "sendq.go:39", after := #[{ on := 0, ground := Go.Ground.data }, { on := 0, ground := Go.Ground.phase }, { on := 1, ground := Go.Ground.phase }, { on := 2, ground := Go.Ground.phase }, { on := 3, ground := Go.Ground.phase }, { on := 4, ground := Go.Ground.phase }, { on := 5, ground := Go.Ground.phase }, { on := 6, ground := Go.Ground.phase }, { on := 7, ground := Go.Ground.phase }, { on := 8, ground := Go.Ground.phase }], guard := none } : Go.Oper)) (v := .pointer (some ⟨q, 0, none⟩)) rfl (by kernel_rfl) (by kernel_rfl) (by kernel_rfl) (fun _ _ _ h => h) (Or.inl ⟨by rfl, ?_⟩) (by assumption) ?_
    · intro wx hSw
      try dsimp only at hSw
      go_simp
      try with_reducible rfl
    try simp only [Act.put, List.setIfInBounds_toArray, List.set_cons_zero, List.set_cons_succ]
    refine wpAnyH_take (i := 10) (oi := ({ dst := some 38, op := Go.Op.fieldAddr 53 (Go.Operand.tmp 37) 3, type := 0, pos := "sendq.go:39", after := #[{ on := 9, ground := Go.Ground.data }, { on := 0, ground := Go.Ground.phase }, { on := 1, ground := Go.Ground.phase }, { on := 2, ground := Go.Ground.phase }, { on := 3, ground := Go.Ground.phase }, { on := 4, ground := Go.Ground.phase }, { on := 5, ground := Go.Ground.phase }, { on := 6, ground := Go.Ground.phase }, { on := 7, ground := Go.Ground.phase }, { on := 8, ground := Go.Ground.phase }], guard := none } : Go.Oper)) (v := .pointer (some ⟨q, 3, none⟩)) rfl (by kernel_rfl) (by kernel_rfl) (by kernel_rfl) (fun _ _ _ h => h) (Or.inl ⟨by rfl, ?_⟩) (by assumption) ?_
    · intro wx hSw
      try dsimp only at hSw
      go_simp
      try with_reducible rfl
    try simp only [Act.put, List.setIfInBounds_toArray, List.set_cons_zero, List.set_cons_succ]
    refine wpAnyH_ready (rs := [11]) (by kernel_rfl) (by simp) ?_
    refine AllReadyH.cons (o := ({ dst := none, op := Go.Op.store 50 (Go.Operand.tmp 38) (Go.Operand.tmp 36), type := 0, pos := "sendq.go:39", after := #[{ on := 10, ground := Go.Ground.data }, { on := 8, ground := Go.Ground.data }, { on := 8, ground := Go.Ground.chain }, { on := 0, ground := Go.Ground.phase }, { on := 1, ground := Go.Ground.phase }, { on := 2, ground := Go.Ground.phase }, { on := 3, ground := Go.Ground.phase }, { on := 4, ground := Go.Ground.phase }, { on := 5, ground := Go.Ground.phase }, { on := 6, ground := Go.Ground.phase }, { on := 7, ground := Go.Ground.phase }, { on := 8, ground := Go.Ground.phase }], guard := none } : Go.Oper)) rfl (fun K hK => ?_) AllReadyH.nil
    have k3 := hA2.2 3 _ rfl
    have k31 := k3.1
    have k32 := k3.2
    go_simp
    refine hK.out _ _ trivial (fun hHeld => ?_)
    clear hK K
    try simp only [Act.put, List.setIfInBounds_toArray, List.set_cons_zero, List.set_cons_succ]
    refine wpAnyH_done (by kernel_rfl) ?_ _
    go_wp2
    go_ret2
    exact ⟨rfl, ⟨_, hA2.set 3 _, hkd2.set _ _, hXd.ge, row_set hbo hkd2 (by decide) _ _, row_set hpo2 hkd2 (by decide) _ _⟩, (TY.of_below hbd).trans (htk.trans (TY.set hkd2 (by decide) hXd.ge _ _))⟩
end Go.Proofs.Ytkclookpdngkoaa.S
