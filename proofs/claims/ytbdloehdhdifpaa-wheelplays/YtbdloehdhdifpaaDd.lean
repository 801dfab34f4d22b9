/- The document's wheel: Set. -/
import Derived.Test.YtbdloehdhdifpaaDc
namespace Go.Proofs.Ytbdloehdhdifpaa
open Go.RowKit Go.Maps
set_option maxRecDepth 100000
set_option linter.unusedVariables false
set_option linter.unusedSimpArgs false

section
variable {w w' : World} {ops : Array Oper} {rest : List Oper} {o : Oper} {a : Act} {Q : Exit → Act → World → Prop} {v vs v' : Value} {t : TypeId}
theorem wpList_append_eq (hgd : o.guard = none) (s x : Operand) (ho : o.op = .call { callee := .builtin .append, args := #[s, x], argTypes := #[t, t] }) (hs : a.eval s = v) (hx : a.eval x = vs) (hr : (Builtin.append_ #[t, t] o.type #[v, vs]).run Try.prog w = .ok v' w') (h : wpList Try.prog ops Q rest (a.put o.dst v') w') : wpList Try.prog ops Q (o :: rest) a w := by
  refine wpList_plain hgd fun K hK => ?_
  unfold Oper.wp execOp
  simp only [ho, resolve, invoke, builtin, Sem.run_bind, Sem.run_pure, Result.andThen_ok, List.map_toArray, List.map_cons, List.map_nil, hs, hx, hr]
  exact hK _ _ h
theorem wpList_upto_eq {i : Value} (hgd : o.guard = none) (x y : Operand) (ho : o.op = .slice 45 x none (some y) none) (hx : a.eval x = v) (hy : a.eval y = i) (hr : ∀ W, (Instr.slice 45 v none (some i) none).run Try.prog W = .ok v' W) (h : wpList Try.prog ops Q rest (a.put o.dst v') w) : wpList Try.prog ops Q (o :: rest) a w := by
  refine wpList_plain hgd fun K hK => ?_
  unfold Oper.wp execOp
  simp only [ho, Option.map, hx, hy, Sem.run_bind, Sem.run_pure]
  simp [Instr.sliceAt, run_underlying Try.underlying45, hr, Result.andThen]
  exact hK _ _ h
theorem wpList_from_eq {i : Value} (hgd : o.guard = none) (x y : Operand) (ho : o.op = .slice 45 x (some y) none none) (hx : a.eval x = v) (hy : a.eval y = i) (hr : ∀ W, (Instr.slice 45 v (some i) none none).run Try.prog W = .ok v' W) (h : wpList Try.prog ops Q rest (a.put o.dst v') w) : wpList Try.prog ops Q (o :: rest) a w := by
  refine wpList_plain hgd fun K hK => ?_
  unfold Oper.wp execOp
  simp only [ho, Option.map, hx, hy, Sem.run_bind, Sem.run_pure]
  simp [Instr.sliceAt, run_underlying Try.underlying45, hr, Result.andThen]
  exact hK _ _ h
theorem wpList_bsT_eq {n k : Int} (hgd : o.guard = none) (x : Operand) (ho : o.op = .buildSlice 45 1 #[(0, x)]) (hx : a.eval x = .agg #[.int .i64 n, .int .i64 k]) (h : wpList Try.prog ops Q rest (a.put o.dst (.slice (some ⟨w.heap.size, 0, none⟩) 1 1)) (w.alloc (.cells #[.int .i64 n, .int .i64 k] 57))) : wpList Try.prog ops Q (o :: rest) a w := by
  refine wpList_plain hgd fun K hK => ?_
  unfold Oper.wp execOp
  have e' : (#[(0, x)].map fun (p : Nat × Operand) => (p.1, a.eval p.2)) = #[(0, .agg #[.int .i64 n, .int .i64 k])] := by simp [hx]
  simp only [ho, Sem.run_bind]
  rw [e', bsT]
  exact hK _ _ h
end
theorem TR.len {w : World} {base : Nat} {v : Value} {L : List Tm} (h : TR w base v L) : ∀ (ty : TypeId) (W : World), (Builtin.len_ #[45] ty #[v]).run Try.prog W = .ok (.int .i64 (L.length : Int)) W := by
  intro ty W
  rcases h with ⟨rfl, rfl⟩ | ⟨g, off, c, rfl, -⟩
  · simp [Builtin.len_, run_underlying Try.underlying45, Builtin.lenOf, Result.andThen, go_sem]
  · simp [Builtin.len_, run_underlying Try.underlying45, Builtin.lenOf, Result.andThen, go_sem]
theorem rset_f (R : Nat) (n t : Int) (w : World) (h : setOk n t = false) : Calls Try.prog 11 #[.pointer (some ⟨R, 0, none⟩), .int .i64 n, .int .i64 t] w fun e w' => e = .returned (.int .i64 1) ∧ w' = w := by
  unfold setOk tickB at h
  by_cases h0 : n < 0
  · go_enter Try.func11, Try.ntmps11
    go_wp2
    go_ret
    exact ⟨rfl, rfl⟩
  · by_cases h1 : 1073741824 < n
    · go_enter Try.func11, Try.ntmps11
      go_wp2
      go_ret
      exact ⟨rfl, rfl⟩
    · by_cases h2 : t < 0
      · go_enter Try.func11, Try.ntmps11
        go_wp2
        go_ret
        exact ⟨rfl, rfl⟩
      · have h3 : 1099511627776 < t := by
          rw [decide_eq_true (by omega), Bool.true_and] at h
          have := of_decide_eq_false h
          omega
        clear h
        go_enter Try.func11, Try.ntmps11
        go_wp2
        go_ret
        exact ⟨rfl, rfl⟩
theorem setOk_of {n t : Int} (h : setOk n t = true) : (¬ n < 0 ∧ ¬ 1073741824 < n) ∧ ¬ t < 0 ∧ ¬ 1099511627776 < t := by
  unfold setOk tickB at h
  rw [Bool.and_eq_true] at h
  have h1 := of_decide_eq_true h.1
  have h2 := of_decide_eq_true h.2
  omega
theorem rset_full (R base : Nat) (now n t : Int) (v : Value) (L : List Tm) (w : World) (hR : At w R #[.int .i64 now, v]) (hT : TR w base v L) (hL : WL L) (h : setOk n t = true) (hn : lkT L n = none) (hf : 1024 ≤ L.length) : Calls Try.prog 11 #[.pointer (some ⟨R, 0, none⟩), .int .i64 n, .int .i64 t] w fun e w' => e = .returned (.int .i64 2) ∧ w' = w := by
  obtain ⟨⟨h0, h1⟩, h2, h3⟩ := setOk_of h
  have hll := hL.len
  have hfz : (1024 : Int) ≤ (L.length : Int) := by omega
  have HT : Hid (TR w base v L) := hT
  have HR : Hid (At w R #[.int .i64 now, v]) := hR
  obtain ⟨c0, c1, -, -⟩ := hR.two
  rcases hT with ⟨rfl, rfl⟩ | ⟨g, off, c, rfl, -⟩
  · simp at hf
  · clear hR
    go_enter Try.func11, Try.ntmps11
    go_wp2_with fail
    refine (find_n R base now n _ L w HR.out HT.out (by omega) hn).mono ?_
    rintro e w1 ⟨rfl, rfl⟩
    go_wp2
    go_ret
    exact ⟨rfl, rfl⟩
set_option maxHeartbeats 8000000 in
theorem rset_t (R base : Nat) (now n t : Int) (v : Value) (L : List Tm) (w : World) (hR : At w R #[.int .i64 now, v]) (hT : TR w base v L) (hL : WL L) (hRb : R < base) (hbw : base ≤ w.heap.size) (h : setOk n t = true) (hn : lkT L n ≠ none ∨ L.length < 1024) : Calls Try.prog 11 #[.pointer (some ⟨R, 0, none⟩), .int .i64 n, .int .i64 t] w fun e w' => e = .returned (.int .i64 0) ∧ ∃ v', At w' R #[.int .i64 now, v'] ∧ TR w' base v' (putT L (n, t)) ∧ Turn (fun k => k = R) w w' := by
  obtain ⟨⟨h0, h1⟩, h2, h3⟩ := setOk_of h
  have hll := hL.len
  have HT : Hid (TR w base v L) := hT
  have HR : Hid (At w R #[.int .i64 now, v]) := hR
  have hL1 := hL.del n
  obtain ⟨c0, c1, -, -⟩ := hR.two
  clear hR
  cases hq : lkT L n with
  | none =>
    have hlt : (L.length : Int) < 1024 := by
      rcases hn with h | h
      · exact absurd hq h
      · omega
    have hde : delT L n = L := by unfold delT; rw [List.filter_eq_self]; intro e he; simpa using lkT_none hq e he
    have HDE : Hid (delT L n = L) := hde
    clear hde
    have hlen := HT.out.len
    clear hT
    go_enter Try.func11, Try.ntmps11
    go_wp2_with fail
    refine (find_n R base now n _ L w HR.out HT.out (by omega) hq).mono ?_
    rintro e w0 ⟨rfl, rfl⟩
    go_wp2_with fail
    refine (rdrop_n R base now n _ L w0 HR.out HT.out hL hq).mono ?_
    rintro e w1 ⟨rfl, rfl⟩
    have hR1 := HR.out
    have hT1 := HT.out
    rw [← HDE.out] at hT1
    have ht1 : Turn (fun k => k = R) w1 w1 := Turn.refl _
    obtain ⟨v1, hv1⟩ : ∃ x, x = v := ⟨v, rfl⟩
    rw [← hv1] at hR1 hT1
    have hbq : base ≤ w1.heap.size := hbw
    clear HT HR c0 c1 hv1 hlen
    -- @1
    have HPT : Hid (putT L (n, t) = insT (n, t) (delT L n)) := rfl
    have hl1 := hL1.len
    generalize delT L n = L1 at *
    have HR1 : Hid (At w1 R #[.int .i64 now, v1]) := hR1
    have HT1 : Hid (TR w1 base v1 L1) := hT1
    obtain ⟨-, c1, -, f1⟩ := hR1.two
    clear hR1
    rcases hT1 with ⟨rfl, rfl⟩ | ⟨g, off, c, rfl, -, -, -, h5⟩
    · go_upto_region 7 with fail
      refine wp_loop_rounds 1 ?_
      rw [rounds_succ]
      have H1 : Hid (∀ j y, j < 0 → ([] : List Tm)[j]? = some y → y.2 < t ∨ y.2 = t ∧ y.1 < n) := fun j y hj => by omega
      have H2 : Hid (∀ y, ([] : List Tm)[0]? = some y → ¬ (y.2 < t ∨ y.2 = t ∧ y.1 < n)) := fun y hy => by simp at hy
      have hk : 0 ≤ ([] : List Tm).length := by omega
      have HI : Hid (putT L (n, t) = ([] : List Tm).take 0 ++ ([(n, t)] ++ ([] : List Tm).drop 0)) := by show _ = _; rw [HPT.out, ins_at (e := (n, t)) hk H1.out H2.out]; rfl
      clear H1 H2 HPT
      obtain ⟨v2, hs2, hT2⟩ := upto_tr HT1.out (i := 0) hk
      obtain ⟨v3, hs3, hT3⟩ := from_tr HT1.out (i := 0) hk
      have hs2z : ∀ W, (Instr.slice 45 (.slice none 0 0) none (some (.int .i64 0)) none).run Try.prog W = .ok v2 W := hs2
      have hs3z : ∀ W, (Instr.slice 45 (.slice none 0 0) (some (.int .i64 0)) none none).run Try.prog W = .ok v3 W := hs3
      clear hs2 hs3
      obtain ⟨v4, w4, hr4, hO4, ht4⟩ := append_tr (TO.nil w1 w1.heap.size) hT2 (Nat.le_refl _) (by (simp; try omega)) 45
      rw [List.nil_append] at hO4
      have hb4 : Below w1.heap.size w1 w4 := ht4.below (Nat.le_refl _) (fun j hj e => by simp [Value.ownBlock] at e)
      have q5 := bel1 w4 (.cells #[.int .i64 n, .int .i64 t] 57)
      have hTn : TR (w4.alloc (.cells #[.int .i64 n, .int .i64 t] 57)) w4.heap.size (.slice (some ⟨w4.heap.size, 0, none⟩) 1 1) [(n, t)] := TO.tr (World.ownsRow_lit w4 #[.int .i64 n, .int .i64 t] 1 (Nat.le_refl _) (by unfold maxLen; omega) rfl)
      obtain ⟨v5, w5, hr5, hO5, ht5⟩ := append_tr (World.ownsRow.alloc hO4 _) hTn (Nat.le_trans hb4.size q5.size) (by (simp; try omega)) 45
      have hb5 : Below w1.heap.size w1 w5 := (bt hb4 q5).trans (ht5.below (bt hb4 q5).size (fun j hj e => by have := hO4.ge j e; omega))
      obtain ⟨v6, w6, hr6, hO6, ht6⟩ := append_tr hO5 (hT3.later hb5) hb5.size (by (simp; try omega)) 45
      have hb6 : Below w1.heap.size w1 w6 := hb5.trans (ht6.below hb5.size (fun j hj e => by have := hO5.ge j e; omega))
      have hTR := hO6.tr
      rw [List.append_assoc, ← HI.out] at hTR
      obtain ⟨p6, n6, k6, rfl⟩ := hTR.shape
      have hR6 := HR1.out.later hb6
      obtain ⟨-, d6, -, g6⟩ := hR6.two
      obtain ⟨-, d5, -, -⟩ := (HR1.out.later hb5).two
      have HRR : Hid (At w6 R #[.int .i64 now, .slice none 0 0] ∧ TR w6 w1.heap.size (.slice p6 n6 k6) (putT L (n, t)) ∧ Below w1.heap.size w1 w6) := ⟨hR6, hTR, hb6⟩
      clear hT2 hT3 hO4 hO5 hO6 ht4 ht5 ht6 hb4 hb5 hb6 hTR hR6 q5 hTn HT1 HR1 HI
      go_wp2_with (first
        | (at_builtin; refine wpList_append_eq rfl _ _ rfl rfl rfl hr4 ?_)
        | (at_builtin; refine wpList_append_eq rfl _ _ rfl rfl rfl hr5 ?_)
        | (at_builtin; refine wpList_append_eq rfl _ _ rfl rfl rfl hr6 ?_)
        | fail)
      go_ret
      obtain ⟨x1, x2, x3⟩ := HRR.out
      have kt := turn_set w6 R 1 (.slice p6 n6 k6)
      exact ⟨rfl, .slice p6 n6 k6, x1.set 1 _, (x2.low hbq).turn kt (fun j hj _ e => by omega), ht1.trans ((Turn.of_below x3).trans kt)⟩
    · have H5 : Hid (∀ i e, L1[i]? = some e → w1.cell? ⟨g, off + i * 2, none⟩ = some (.int .i64 e.1) ∧ w1.cell? ⟨g, off + i * 2 + 1, none⟩ = some (.int .i64 e.2)) := h5
      clear h5
      go_upto_region 7 with fail
      go_loopw [7] (fun i wr => ∃ k : Nat, i = .int .i64 (k : Int) ∧ k ≤ L1.length ∧ w1 = wr ∧ Hid (∀ j y, j < k → L1[j]? = some y → y.2 < t ∨ y.2 = t ∧ y.1 < n)) (fun i _ => L1.length - (intOf i).toNat)
      case atStart => exact ⟨0, rfl, Nat.zero_le _, rfl, (show Hid _ from fun j y hj => by omega)⟩
      case round =>
        obtain ⟨k, rfl, hk, rfl, H1⟩ := hrel
        have hk0 : (0 : Int) ≤ (k : Int) := by omega
        by_cases hlt1 : k < L1.length
        · have hk1 : (k : Int) < (L1.length : Int) := by omega
          have hge := List.getElem?_eq_getElem hlt1
          obtain ⟨d1, d2⟩ := H5.out k _ hge
          obtain ⟨e9, he9⟩ : ∃ e, e = L1[k] := ⟨_, rfl⟩
          rw [← he9] at d1 d2 hge
          clear he9
          have HGE : Hid (L1[k]? = some e9) := hge
          clear hge
          have H1' : (e9.2 < t ∨ e9.2 = t ∧ e9.1 < n) → Hid (∀ j y, j < k + 1 → L1[j]? = some y → y.2 < t ∨ y.2 = t ∧ y.1 < n) := fun hb j y hj hy => by
            by_cases hjk : j = k
            · subst hjk; rw [HGE.out] at hy; injection hy with hy; rw [← hy]; exact hb
            · exact H1.out j y (by omega) hy
          have H2' : ¬ (e9.2 < t ∨ e9.2 = t ∧ e9.1 < n) → Hid (∀ y, L1[k]? = some y → ¬ (y.2 < t ∨ y.2 = t ∧ y.1 < n)) := fun hb y hy => by
            rw [HGE.out] at hy; injection hy with hy; rw [← hy]; exact hb
          by_cases hb1 : e9.2 < t
          · have H3 := H1' (Or.inl hb1)
            clear H1' H2' H1
            go_wp2
            go_roundw
            case rel => exact ⟨k + 1, by simp, by omega, by first | rfl | trivial, H3⟩
            case measure => (simp [intOf]; try omega)
          · by_cases hb2 : e9.2 = t
            · have hb2z : (e9.2 == t) = true := by simpa using hb2
              by_cases hb3 : e9.1 < n
              · have H3 := H1' (Or.inr ⟨hb2, hb3⟩)
                clear H1' H2' H1 hb2
                go_wp2
                go_roundw
                case rel => exact ⟨k + 1, by simp, by omega, by first | rfl | trivial, H3⟩
                case measure => (simp [intOf]; try omega)
              · have H2 := H2' (by omega)
                clear H1' H2' hb2
                have HI : Hid (putT L (n, t) = L1.take k ++ ([(n, t)] ++ L1.drop k)) := by show _ = _; rw [HPT.out, ins_at (e := (n, t)) hk H1.out H2.out]; rfl
                clear H1 H2 HPT
                obtain ⟨v2, hs2, hT2⟩ := upto_tr HT1.out (i := k) hk
                obtain ⟨v3, hs3, hT3⟩ := from_tr HT1.out (i := k) hk
                obtain ⟨v4, w4, hr4, hO4, ht4⟩ := append_tr (TO.nil w1 w1.heap.size) hT2 (Nat.le_refl _) (by (simp; try omega)) 45
                rw [List.nil_append] at hO4
                have hb4 : Below w1.heap.size w1 w4 := ht4.below (Nat.le_refl _) (fun j hj e => by simp [Value.ownBlock] at e)
                have q5 := bel1 w4 (.cells #[.int .i64 n, .int .i64 t] 57)
                have hTn : TR (w4.alloc (.cells #[.int .i64 n, .int .i64 t] 57)) w4.heap.size (.slice (some ⟨w4.heap.size, 0, none⟩) 1 1) [(n, t)] := TO.tr (World.ownsRow_lit w4 #[.int .i64 n, .int .i64 t] 1 (Nat.le_refl _) (by unfold maxLen; omega) rfl)
                obtain ⟨v5, w5, hr5, hO5, ht5⟩ := append_tr (World.ownsRow.alloc hO4 _) hTn (Nat.le_trans hb4.size q5.size) (by (simp; try omega)) 45
                have hb5 : Below w1.heap.size w1 w5 := (bt hb4 q5).trans (ht5.below (bt hb4 q5).size (fun j hj e => by have := hO4.ge j e; omega))
                obtain ⟨v6, w6, hr6, hO6, ht6⟩ := append_tr hO5 (hT3.later hb5) hb5.size (by (simp; try omega)) 45
                have hb6 : Below w1.heap.size w1 w6 := hb5.trans (ht6.below hb5.size (fun j hj e => by have := hO5.ge j e; omega))
                have hTR := hO6.tr
                rw [List.append_assoc, ← HI.out] at hTR
                obtain ⟨p6, n6, k6, rfl⟩ := hTR.shape
                have hR6 := HR1.out.later hb6
                obtain ⟨-, d6, -, g6⟩ := hR6.two
                obtain ⟨-, d5, -, -⟩ := (HR1.out.later hb5).two
                have HRR : Hid (At w6 R #[.int .i64 now, .slice (some ⟨g, off, none⟩) L1.length c] ∧ TR w6 w1.heap.size (.slice p6 n6 k6) (putT L (n, t)) ∧ Below w1.heap.size w1 w6) := ⟨hR6, hTR, hb6⟩
                clear hT2 hT3 hO4 hO5 hO6 ht4 ht5 ht6 hb4 hb5 hb6 hTR hR6 q5 hTn HT1 HR1 HI
                go_wp2_with (first
                  | (at_builtin; refine wpList_append_eq rfl _ _ rfl rfl rfl hr4 ?_)
                  | (at_builtin; refine wpList_append_eq rfl _ _ rfl rfl rfl hr5 ?_)
                  | (at_builtin; refine wpList_append_eq rfl _ _ rfl rfl rfl hr6 ?_)
                  | fail)
                go_ret
                obtain ⟨x1, x2, x3⟩ := HRR.out
                have kt := turn_set w6 R 1 (.slice p6 n6 k6)
                exact ⟨rfl, .slice p6 n6 k6, x1.set 1 _, (x2.low hbq).turn kt (fun j hj _ e => by omega), ht1.trans ((Turn.of_below x3).trans kt)⟩
            · have hb2z : (e9.2 == t) = false := beq_eq_false_iff_ne.2 hb2
              have H2 := H2' (by omega)
              clear H1' H2' hb2
              have HI : Hid (putT L (n, t) = L1.take k ++ ([(n, t)] ++ L1.drop k)) := by show _ = _; rw [HPT.out, ins_at (e := (n, t)) hk H1.out H2.out]; rfl
              clear H1 H2 HPT
              obtain ⟨v2, hs2, hT2⟩ := upto_tr HT1.out (i := k) hk
              obtain ⟨v3, hs3, hT3⟩ := from_tr HT1.out (i := k) hk
              obtain ⟨v4, w4, hr4, hO4, ht4⟩ := append_tr (TO.nil w1 w1.heap.size) hT2 (Nat.le_refl _) (by (simp; try omega)) 45
              rw [List.nil_append] at hO4
              have hb4 : Below w1.heap.size w1 w4 := ht4.below (Nat.le_refl _) (fun j hj e => by simp [Value.ownBlock] at e)
              have q5 := bel1 w4 (.cells #[.int .i64 n, .int .i64 t] 57)
              have hTn : TR (w4.alloc (.cells #[.int .i64 n, .int .i64 t] 57)) w4.heap.size (.slice (some ⟨w4.heap.size, 0, none⟩) 1 1) [(n, t)] := TO.tr (World.ownsRow_lit w4 #[.int .i64 n, .int .i64 t] 1 (Nat.le_refl _) (by unfold maxLen; omega) rfl)
              obtain ⟨v5, w5, hr5, hO5, ht5⟩ := append_tr (World.ownsRow.alloc hO4 _) hTn (Nat.le_trans hb4.size q5.size) (by (simp; try omega)) 45
              have hb5 : Below w1.heap.size w1 w5 := (bt hb4 q5).trans (ht5.below (bt hb4 q5).size (fun j hj e => by have := hO4.ge j e; omega))
              obtain ⟨v6, w6, hr6, hO6, ht6⟩ := append_tr hO5 (hT3.later hb5) hb5.size (by (simp; try omega)) 45
              have hb6 : Below w1.heap.size w1 w6 := hb5.trans (ht6.below hb5.size (fun j hj e => by have := hO5.ge j e; omega))
              have hTR := hO6.tr
              rw [List.append_assoc, ← HI.out] at hTR
              obtain ⟨p6, n6, k6, rfl⟩ := hTR.shape
              have hR6 := HR1.out.later hb6
              obtain ⟨-, d6, -, g6⟩ := hR6.two
              obtain ⟨-, d5, -, -⟩ := (HR1.out.later hb5).two
              have HRR : Hid (At w6 R #[.int .i64 now, .slice (some ⟨g, off, none⟩) L1.length c] ∧ TR w6 w1.heap.size (.slice p6 n6 k6) (putT L (n, t)) ∧ Below w1.heap.size w1 w6) := ⟨hR6, hTR, hb6⟩
              clear hT2 hT3 hO4 hO5 hO6 ht4 ht5 ht6 hb4 hb5 hb6 hTR hR6 q5 hTn HT1 HR1 HI
              go_wp2_with (first
                | (at_builtin; refine wpList_append_eq rfl _ _ rfl rfl rfl hr4 ?_)
                | (at_builtin; refine wpList_append_eq rfl _ _ rfl rfl rfl hr5 ?_)
                | (at_builtin; refine wpList_append_eq rfl _ _ rfl rfl rfl hr6 ?_)
                | fail)
              go_ret
              obtain ⟨x1, x2, x3⟩ := HRR.out
              have kt := turn_set w6 R 1 (.slice p6 n6 k6)
              exact ⟨rfl, .slice p6 n6 k6, x1.set 1 _, (x2.low hbq).turn kt (fun j hj _ e => by omega), ht1.trans ((Turn.of_below x3).trans kt)⟩
        · have hk1 : ¬ (k : Int) < (L1.length : Int) := by omega
          have H2 : Hid (∀ y, L1[k]? = some y → ¬ (y.2 < t ∨ y.2 = t ∧ y.1 < n)) := fun y hy => absurd (List.getElem?_eq_some_iff.1 hy).1 hlt1
          have HI : Hid (putT L (n, t) = L1.take k ++ ([(n, t)] ++ L1.drop k)) := by show _ = _; rw [HPT.out, ins_at (e := (n, t)) hk H1.out H2.out]; rfl
          clear H1 H2 HPT
          obtain ⟨v2, hs2, hT2⟩ := upto_tr HT1.out (i := k) hk
          obtain ⟨v3, hs3, hT3⟩ := from_tr HT1.out (i := k) hk
          obtain ⟨v4, w4, hr4, hO4, ht4⟩ := append_tr (TO.nil w1 w1.heap.size) hT2 (Nat.le_refl _) (by (simp; try omega)) 45
          rw [List.nil_append] at hO4
          have hb4 : Below w1.heap.size w1 w4 := ht4.below (Nat.le_refl _) (fun j hj e => by simp [Value.ownBlock] at e)
          have q5 := bel1 w4 (.cells #[.int .i64 n, .int .i64 t] 57)
          have hTn : TR (w4.alloc (.cells #[.int .i64 n, .int .i64 t] 57)) w4.heap.size (.slice (some ⟨w4.heap.size, 0, none⟩) 1 1) [(n, t)] := TO.tr (World.ownsRow_lit w4 #[.int .i64 n, .int .i64 t] 1 (Nat.le_refl _) (by unfold maxLen; omega) rfl)
          obtain ⟨v5, w5, hr5, hO5, ht5⟩ := append_tr (World.ownsRow.alloc hO4 _) hTn (Nat.le_trans hb4.size q5.size) (by (simp; try omega)) 45
          have hb5 : Below w1.heap.size w1 w5 := (bt hb4 q5).trans (ht5.below (bt hb4 q5).size (fun j hj e => by have := hO4.ge j e; omega))
          obtain ⟨v6, w6, hr6, hO6, ht6⟩ := append_tr hO5 (hT3.later hb5) hb5.size (by (simp; try omega)) 45
          have hb6 : Below w1.heap.size w1 w6 := hb5.trans (ht6.below hb5.size (fun j hj e => by have := hO5.ge j e; omega))
          have hTR := hO6.tr
          rw [List.append_assoc, ← HI.out] at hTR
          obtain ⟨p6, n6, k6, rfl⟩ := hTR.shape
          have hR6 := HR1.out.later hb6
          obtain ⟨-, d6, -, g6⟩ := hR6.two
          obtain ⟨-, d5, -, -⟩ := (HR1.out.later hb5).two
          have HRR : Hid (At w6 R #[.int .i64 now, .slice (some ⟨g, off, none⟩) L1.length c] ∧ TR w6 w1.heap.size (.slice p6 n6 k6) (putT L (n, t)) ∧ Below w1.heap.size w1 w6) := ⟨hR6, hTR, hb6⟩
          clear hT2 hT3 hO4 hO5 hO6 ht4 ht5 ht6 hb4 hb5 hb6 hTR hR6 q5 hTn HT1 HR1 HI
          go_wp2_with (first
            | (at_builtin; refine wpList_append_eq rfl _ _ rfl rfl rfl hr4 ?_)
            | (at_builtin; refine wpList_append_eq rfl _ _ rfl rfl rfl hr5 ?_)
            | (at_builtin; refine wpList_append_eq rfl _ _ rfl rfl rfl hr6 ?_)
            | fail)
          go_ret
          obtain ⟨x1, x2, x3⟩ := HRR.out
          have kt := turn_set w6 R 1 (.slice p6 n6 k6)
          exact ⟨rfl, .slice p6 n6 k6, x1.set 1 _, (x2.low hbq).turn kt (fun j hj _ e => by omega), ht1.trans ((Turn.of_below x3).trans kt)⟩
    -- @/1
  | some c9 =>
    go_enter Try.func11, Try.ntmps11
    go_wp2_with fail
    refine (find_s R base now n c9 _ L w HR.out HT.out hL hq).mono ?_
    rintro e w0 ⟨i9, rfl, -, rfl⟩
    have hi9 : ¬ (i9 : Int) < 0 := by omega
    go_wp2_with fail
    refine (rdrop_s R base now n c9 _ L w0 HR.out HT.out hL hRb hbw hq).mono ?_
    rintro e w1 ⟨rfl, v1, hR1, hT1, ht1⟩
    have hbq : base ≤ w1.heap.size := Nat.le_trans hbw ht1.size
    clear HT HR c0 c1 hT
    have HPT : Hid (putT L (n, t) = insT (n, t) (delT L n)) := rfl
    have hl1 := hL1.len
    generalize delT L n = L1 at *
    have HR1 : Hid (At w1 R #[.int .i64 now, v1]) := hR1
    have HT1 : Hid (TR w1 base v1 L1) := hT1
    obtain ⟨-, c1, -, f1⟩ := hR1.two
    clear hR1
    rcases hT1 with ⟨rfl, rfl⟩ | ⟨g, off, c, rfl, -, -, -, h5⟩
    · go_upto_region 7 with fail
      refine wp_loop_rounds 1 ?_
      rw [rounds_succ]
      have H1 : Hid (∀ j y, j < 0 → ([] : List Tm)[j]? = some y → y.2 < t ∨ y.2 = t ∧ y.1 < n) := fun j y hj => by omega
      have H2 : Hid (∀ y, ([] : List Tm)[0]? = some y → ¬ (y.2 < t ∨ y.2 = t ∧ y.1 < n)) := fun y hy => by simp at hy
      have hk : 0 ≤ ([] : List Tm).length := by omega
      -- @3
      have HI : Hid (putT L (n, t) = ([] : List Tm).take 0 ++ ([(n, t)] ++ ([] : List Tm).drop 0)) := by show _ = _; rw [HPT.out, ins_at (e := (n, t)) hk H1.out H2.out]; rfl
      clear H1 H2 HPT
      obtain ⟨v2, hs2, hT2⟩ := upto_tr HT1.out (i := 0) hk
      obtain ⟨v3, hs3, hT3⟩ := from_tr HT1.out (i := 0) hk
      have hs2z : ∀ W, (Instr.slice 45 (.slice none 0 0) none (some (.int .i64 0)) none).run Try.prog W = .ok v2 W := hs2
      have hs3z : ∀ W, (Instr.slice 45 (.slice none 0 0) (some (.int .i64 0)) none none).run Try.prog W = .ok v3 W := hs3
      clear hs2 hs3
      obtain ⟨v4, w4, hr4, hO4, ht4⟩ := append_tr (TO.nil w1 w1.heap.size) hT2 (Nat.le_refl _) (by (simp; try omega)) 45
      rw [List.nil_append] at hO4
      have hb4 : Below w1.heap.size w1 w4 := ht4.below (Nat.le_refl _) (fun j hj e => by simp [Value.ownBlock] at e)
      have q5 := bel1 w4 (.cells #[.int .i64 n, .int .i64 t] 57)
      have hTn : TR (w4.alloc (.cells #[.int .i64 n, .int .i64 t] 57)) w4.heap.size (.slice (some ⟨w4.heap.size, 0, none⟩) 1 1) [(n, t)] := TO.tr (World.ownsRow_lit w4 #[.int .i64 n, .int .i64 t] 1 (Nat.le_refl _) (by unfold maxLen; omega) rfl)
      obtain ⟨v5, w5, hr5, hO5, ht5⟩ := append_tr (World.ownsRow.alloc hO4 _) hTn (Nat.le_trans hb4.size q5.size) (by (simp; try omega)) 45
      have hb5 : Below w1.heap.size w1 w5 := (bt hb4 q5).trans (ht5.below (bt hb4 q5).size (fun j hj e => by have := hO4.ge j e; omega))
      obtain ⟨v6, w6, hr6, hO6, ht6⟩ := append_tr hO5 (hT3.later hb5) hb5.size (by (simp; try omega)) 45
      have hb6 : Below w1.heap.size w1 w6 := hb5.trans (ht6.below hb5.size (fun j hj e => by have := hO5.ge j e; omega))
      have hTR := hO6.tr
      rw [List.append_assoc, ← HI.out] at hTR
      obtain ⟨p6, n6, k6, rfl⟩ := hTR.shape
      have hR6 := HR1.out.later hb6
      obtain ⟨-, d6, -, g6⟩ := hR6.two
      obtain ⟨-, d5, -, -⟩ := (HR1.out.later hb5).two
      have HRR : Hid (At w6 R #[.int .i64 now, .slice none 0 0] ∧ TR w6 w1.heap.size (.slice p6 n6 k6) (putT L (n, t)) ∧ Below w1.heap.size w1 w6) := ⟨hR6, hTR, hb6⟩
      clear hT2 hT3 hO4 hO5 hO6 ht4 ht5 ht6 hb4 hb5 hb6 hTR hR6 q5 hTn HT1 HR1 HI
      go_wp2_with (first
        | (at_builtin; refine wpList_append_eq rfl _ _ rfl rfl rfl hr4 ?_)
        | (at_builtin; refine wpList_append_eq rfl _ _ rfl rfl rfl hr5 ?_)
        | (at_builtin; refine wpList_append_eq rfl _ _ rfl rfl rfl hr6 ?_)
        | fail)
      go_ret
      obtain ⟨x1, x2, x3⟩ := HRR.out
      have kt := turn_set w6 R 1 (.slice p6 n6 k6)
      exact ⟨rfl, .slice p6 n6 k6, x1.set 1 _, (x2.low hbq).turn kt (fun j hj _ e => by omega), ht1.trans ((Turn.of_below x3).trans kt)⟩
      -- @/3
    · have H5 : Hid (∀ i e, L1[i]? = some e → w1.cell? ⟨g, off + i * 2, none⟩ = some (.int .i64 e.1) ∧ w1.cell? ⟨g, off + i * 2 + 1, none⟩ = some (.int .i64 e.2)) := h5
      clear h5
      go_upto_region 7 with fail
      go_loopw [7] (fun i wr => ∃ k : Nat, i = .int .i64 (k : Int) ∧ k ≤ L1.length ∧ w1 = wr ∧ Hid (∀ j y, j < k → L1[j]? = some y → y.2 < t ∨ y.2 = t ∧ y.1 < n)) (fun i _ => L1.length - (intOf i).toNat)
      case atStart => exact ⟨0, rfl, Nat.zero_le _, rfl, (show Hid _ from fun j y hj => by omega)⟩
      case round =>
        obtain ⟨k, rfl, hk, rfl, H1⟩ := hrel
        have hk0 : (0 : Int) ≤ (k : Int) := by omega
        by_cases hlt1 : k < L1.length
        · have hk1 : (k : Int) < (L1.length : Int) := by omega
          have hge := List.getElem?_eq_getElem hlt1
          obtain ⟨d1, d2⟩ := H5.out k _ hge
          obtain ⟨e9, he9⟩ : ∃ e, e = L1[k] := ⟨_, rfl⟩
          rw [← he9] at d1 d2 hge
          clear he9
          have HGE : Hid (L1[k]? = some e9) := hge
          clear hge
          have H1' : (e9.2 < t ∨ e9.2 = t ∧ e9.1 < n) → Hid (∀ j y, j < k + 1 → L1[j]? = some y → y.2 < t ∨ y.2 = t ∧ y.1 < n) := fun hb j y hj hy => by
            by_cases hjk : j = k
            · subst hjk; rw [HGE.out] at hy; injection hy with hy; rw [← hy]; exact hb
            · exact H1.out j y (by omega) hy
          have H2' : ¬ (e9.2 < t ∨ e9.2 = t ∧ e9.1 < n) → Hid (∀ y, L1[k]? = some y → ¬ (y.2 < t ∨ y.2 = t ∧ y.1 < n)) := fun hb y hy => by
            rw [HGE.out] at hy; injection hy with hy; rw [← hy]; exact hb
          by_cases hb1 : e9.2 < t
          · have H3 := H1' (Or.inl hb1)
            clear H1' H2' H1
            go_wp2
            go_roundw
            case rel => exact ⟨k + 1, by simp, by omega, by first | rfl | trivial, H3⟩
            case measure => (simp [intOf]; try omega)
          · by_cases hb2 : e9.2 = t
            · have hb2z : (e9.2 == t) = true := by simpa using hb2
              by_cases hb3 : e9.1 < n
              · have H3 := H1' (Or.inr ⟨hb2, hb3⟩)
                clear H1' H2' H1 hb2
                go_wp2
                go_roundw
                case rel => exact ⟨k + 1, by simp, by omega, by first | rfl | trivial, H3⟩
                case measure => (simp [intOf]; try omega)
              · have H2 := H2' (by omega)
                clear H1' H2' hb2
                -- @4
                have HI : Hid (putT L (n, t) = L1.take k ++ ([(n, t)] ++ L1.drop k)) := by show _ = _; rw [HPT.out, ins_at (e := (n, t)) hk H1.out H2.out]; rfl
                clear H1 H2 HPT
                obtain ⟨v2, hs2, hT2⟩ := upto_tr HT1.out (i := k) hk
                obtain ⟨v3, hs3, hT3⟩ := from_tr HT1.out (i := k) hk
                obtain ⟨v4, w4, hr4, hO4, ht4⟩ := append_tr (TO.nil w1 w1.heap.size) hT2 (Nat.le_refl _) (by (simp; try omega)) 45
                rw [List.nil_append] at hO4
                have hb4 : Below w1.heap.size w1 w4 := ht4.below (Nat.le_refl _) (fun j hj e => by simp [Value.ownBlock] at e)
                have q5 := bel1 w4 (.cells #[.int .i64 n, .int .i64 t] 57)
                have hTn : TR (w4.alloc (.cells #[.int .i64 n, .int .i64 t] 57)) w4.heap.size (.slice (some ⟨w4.heap.size, 0, none⟩) 1 1) [(n, t)] := TO.tr (World.ownsRow_lit w4 #[.int .i64 n, .int .i64 t] 1 (Nat.le_refl _) (by unfold maxLen; omega) rfl)
                obtain ⟨v5, w5, hr5, hO5, ht5⟩ := append_tr (World.ownsRow.alloc hO4 _) hTn (Nat.le_trans hb4.size q5.size) (by (simp; try omega)) 45
                have hb5 : Below w1.heap.size w1 w5 := (bt hb4 q5).trans (ht5.below (bt hb4 q5).size (fun j hj e => by have := hO4.ge j e; omega))
                obtain ⟨v6, w6, hr6, hO6, ht6⟩ := append_tr hO5 (hT3.later hb5) hb5.size (by (simp; try omega)) 45
                have hb6 : Below w1.heap.size w1 w6 := hb5.trans (ht6.below hb5.size (fun j hj e => by have := hO5.ge j e; omega))
                have hTR := hO6.tr
                rw [List.append_assoc, ← HI.out] at hTR
                obtain ⟨p6, n6, k6, rfl⟩ := hTR.shape
                have hR6 := HR1.out.later hb6
                obtain ⟨-, d6, -, g6⟩ := hR6.two
                obtain ⟨-, d5, -, -⟩ := (HR1.out.later hb5).two
                have HRR : Hid (At w6 R #[.int .i64 now, .slice (some ⟨g, off, none⟩) L1.length c] ∧ TR w6 w1.heap.size (.slice p6 n6 k6) (putT L (n, t)) ∧ Below w1.heap.size w1 w6) := ⟨hR6, hTR, hb6⟩
                clear hT2 hT3 hO4 hO5 hO6 ht4 ht5 ht6 hb4 hb5 hb6 hTR hR6 q5 hTn HT1 HR1 HI
                go_wp2_with (first
                  | (at_builtin; refine wpList_append_eq rfl _ _ rfl rfl rfl hr4 ?_)
                  | (at_builtin; refine wpList_append_eq rfl _ _ rfl rfl rfl hr5 ?_)
                  | (at_builtin; refine wpList_append_eq rfl _ _ rfl rfl rfl hr6 ?_)
                  | fail)
                go_ret
                obtain ⟨x1, x2, x3⟩ := HRR.out
                have kt := turn_set w6 R 1 (.slice p6 n6 k6)
                exact ⟨rfl, .slice p6 n6 k6, x1.set 1 _, (x2.low hbq).turn kt (fun j hj _ e => by omega), ht1.trans ((Turn.of_below x3).trans kt)⟩
                -- @/4
            · have hb2z : (e9.2 == t) = false := beq_eq_false_iff_ne.2 hb2
              have H2 := H2' (by omega)
              clear H1' H2' hb2
              -- @5
              have HI : Hid (putT L (n, t) = L1.take k ++ ([(n, t)] ++ L1.drop k)) := by show _ = _; rw [HPT.out, ins_at (e := (n, t)) hk H1.out H2.out]; rfl
              clear H1 H2 HPT
              obtain ⟨v2, hs2, hT2⟩ := upto_tr HT1.out (i := k) hk
              obtain ⟨v3, hs3, hT3⟩ := from_tr HT1.out (i := k) hk
              obtain ⟨v4, w4, hr4, hO4, ht4⟩ := append_tr (TO.nil w1 w1.heap.size) hT2 (Nat.le_refl _) (by (simp; try omega)) 45
              rw [List.nil_append] at hO4
              have hb4 : Below w1.heap.size w1 w4 := ht4.below (Nat.le_refl _) (fun j hj e => by simp [Value.ownBlock] at e)
              have q5 := bel1 w4 (.cells #[.int .i64 n, .int .i64 t] 57)
              have hTn : TR (w4.alloc (.cells #[.int .i64 n, .int .i64 t] 57)) w4.heap.size (.slice (some ⟨w4.heap.size, 0, none⟩) 1 1) [(n, t)] := TO.tr (World.ownsRow_lit w4 #[.int .i64 n, .int .i64 t] 1 (Nat.le_refl _) (by unfold maxLen; omega) rfl)
              obtain ⟨v5, w5, hr5, hO5, ht5⟩ := append_tr (World.ownsRow.alloc hO4 _) hTn (Nat.le_trans hb4.size q5.size) (by (simp; try omega)) 45
              have hb5 : Below w1.heap.size w1 w5 := (bt hb4 q5).trans (ht5.below (bt hb4 q5).size (fun j hj e => by have := hO4.ge j e; omega))
              obtain ⟨v6, w6, hr6, hO6, ht6⟩ := append_tr hO5 (hT3.later hb5) hb5.size (by (simp; try omega)) 45
              have hb6 : Below w1.heap.size w1 w6 := hb5.trans (ht6.below hb5.size (fun j hj e => by have := hO5.ge j e; omega))
              have hTR := hO6.tr
              rw [List.append_assoc, ← HI.out] at hTR
              obtain ⟨p6, n6, k6, rfl⟩ := hTR.shape
              have hR6 := HR1.out.later hb6
              obtain ⟨-, d6, -, g6⟩ := hR6.two
              obtain ⟨-, d5, -, -⟩ := (HR1.out.later hb5).two
              have HRR : Hid (At w6 R #[.int .i64 now, .slice (some ⟨g, off, none⟩) L1.length c] ∧ TR w6 w1.heap.size (.slice p6 n6 k6) (putT L (n, t)) ∧ Below w1.heap.size w1 w6) := ⟨hR6, hTR, hb6⟩
              clear hT2 hT3 hO4 hO5 hO6 ht4 ht5 ht6 hb4 hb5 hb6 hTR hR6 q5 hTn HT1 HR1 HI
              go_wp2_with (first
                | (at_builtin; refine wpList_append_eq rfl _ _ rfl rfl rfl hr4 ?_)
                | (at_builtin; refine wpList_append_eq rfl _ _ rfl rfl rfl hr5 ?_)
                | (at_builtin; refine wpList_append_eq rfl _ _ rfl rfl rfl hr6 ?_)
                | fail)
              go_ret
              obtain ⟨x1, x2, x3⟩ := HRR.out
              have kt := turn_set w6 R 1 (.slice p6 n6 k6)
              exact ⟨rfl, .slice p6 n6 k6, x1.set 1 _, (x2.low hbq).turn kt (fun j hj _ e => by omega), ht1.trans ((Turn.of_below x3).trans kt)⟩
              -- @/5
        · have hk1 : ¬ (k : Int) < (L1.length : Int) := by omega
          have H2 : Hid (∀ y, L1[k]? = some y → ¬ (y.2 < t ∨ y.2 = t ∧ y.1 < n)) := fun y hy => absurd (List.getElem?_eq_some_iff.1 hy).1 hlt1
          -- @6
          have HI : Hid (putT L (n, t) = L1.take k ++ ([(n, t)] ++ L1.drop k)) := by show _ = _; rw [HPT.out, ins_at (e := (n, t)) hk H1.out H2.out]; rfl
          clear H1 H2 HPT
          obtain ⟨v2, hs2, hT2⟩ := upto_tr HT1.out (i := k) hk
          obtain ⟨v3, hs3, hT3⟩ := from_tr HT1.out (i := k) hk
          obtain ⟨v4, w4, hr4, hO4, ht4⟩ := append_tr (TO.nil w1 w1.heap.size) hT2 (Nat.le_refl _) (by (simp; try omega)) 45
          rw [List.nil_append] at hO4
          have hb4 : Below w1.heap.size w1 w4 := ht4.below (Nat.le_refl _) (fun j hj e => by simp [Value.ownBlock] at e)
          have q5 := bel1 w4 (.cells #[.int .i64 n, .int .i64 t] 57)
          have hTn : TR (w4.alloc (.cells #[.int .i64 n, .int .i64 t] 57)) w4.heap.size (.slice (some ⟨w4.heap.size, 0, none⟩) 1 1) [(n, t)] := TO.tr (World.ownsRow_lit w4 #[.int .i64 n, .int .i64 t] 1 (Nat.le_refl _) (by unfold maxLen; omega) rfl)
          obtain ⟨v5, w5, hr5, hO5, ht5⟩ := append_tr (World.ownsRow.alloc hO4 _) hTn (Nat.le_trans hb4.size q5.size) (by (simp; try omega)) 45
          have hb5 : Below w1.heap.size w1 w5 := (bt hb4 q5).trans (ht5.below (bt hb4 q5).size (fun j hj e => by have := hO4.ge j e; omega))
          obtain ⟨v6, w6, hr6, hO6, ht6⟩ := append_tr hO5 (hT3.later hb5) hb5.size (by (simp; try omega)) 45
          have hb6 : Below w1.heap.size w1 w6 := hb5.trans (ht6.below hb5.size (fun j hj e => by have := hO5.ge j e; omega))
          have hTR := hO6.tr
          rw [List.append_assoc, ← HI.out] at hTR
          obtain ⟨p6, n6, k6, rfl⟩ := hTR.shape
          have hR6 := HR1.out.later hb6
          obtain ⟨-, d6, -, g6⟩ := hR6.two
          obtain ⟨-, d5, -, -⟩ := (HR1.out.later hb5).two
          have HRR : Hid (At w6 R #[.int .i64 now, .slice (some ⟨g, off, none⟩) L1.length c] ∧ TR w6 w1.heap.size (.slice p6 n6 k6) (putT L (n, t)) ∧ Below w1.heap.size w1 w6) := ⟨hR6, hTR, hb6⟩
          clear hT2 hT3 hO4 hO5 hO6 ht4 ht5 ht6 hb4 hb5 hb6 hTR hR6 q5 hTn HT1 HR1 HI
          go_wp2_with (first
            | (at_builtin; refine wpList_append_eq rfl _ _ rfl rfl rfl hr4 ?_)
            | (at_builtin; refine wpList_append_eq rfl _ _ rfl rfl rfl hr5 ?_)
            | (at_builtin; refine wpList_append_eq rfl _ _ rfl rfl rfl hr6 ?_)
            | fail)
          go_ret
          obtain ⟨x1, x2, x3⟩ := HRR.out
          have kt := turn_set w6 R 1 (.slice p6 n6 k6)
          exact ⟨rfl, .slice p6 n6 k6, x1.set 1 _, (x2.low hbq).turn kt (fun j hj _ e => by omega), ht1.trans ((Turn.of_below x3).trans kt)⟩
          -- @/6
end Go.Proofs.Ytbdloehdhdifpaa
