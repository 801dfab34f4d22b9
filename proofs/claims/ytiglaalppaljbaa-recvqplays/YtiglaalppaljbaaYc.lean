/- The document's Fork. -/
import Derived.Test.YtiglaalppaljbaaYb
namespace Go.Proofs.Ytiglaalppaljbaa
open Go.RowKit Go.Maps Go.Lib
set_option maxRecDepth 100000
set_option linter.unusedVariables false
set_option linter.unusedSimpArgs false


/-- []..{} in a drawn region. -/
theorem step_b0Bo {w : World} {ops : Array Oper} {o : Oper} {a : Act} {K : Act → World → Prop} {Q : Exit → Act → World → Prop} {E : Prop} (base : Nat) (hbase : base ≤ w.heap.size) (hgd : o.guard = none) (ho : o.op = .buildSlice 38 0 #[])
    (h : ∀ g w', w'.ownsRow base 4 1 (.slice (some ⟨g, 0, none⟩) 0 0) 0 [] → Below w.heap.size w w' → K (a.put o.dst (.slice (some ⟨g, 0, none⟩) 0 0)) w') : if Region.wanted o (yielded ops a.tmps) = true then Oper.wp Try.prog o a w K Q else E := by
  have hw : Region.wanted o (yielded ops a.tmps) = true := by simp [Region.wanted, hgd]
  rw [if_pos hw]
  have hr : (Instr.buildSlice 38 0 #[]).run Try.prog w = .ok (.slice (some ⟨w.heap.size, 0, none⟩) 0 0) (w.alloc (.cells #[] 4)) := by kernel_rfl
  unfold Oper.wp
  simp [execOp, ho, hr, Result.andThen]
  exact h _ _ (World.ownsRow_made w #[] 0 hbase (Nat.zero_le _) rfl) (bel1 _ _)
/-- append onto an empty one, in a drawn region. -/
theorem step_clBo {w : World} {ops : Array Oper} {o : Oper} {a : Act} {K : Act → World → Prop} {Q : Exit → Act → World → Prop} {E : Prop} (hgd : o.guard = none) (s x : Operand) (ho : o.op = .call { callee := .builtin .append, args := #[s, x], argTypes := #[38, 38] }) {base g : Nat} {v : Value} {G : List Bool}
    (hs : a.eval s = .slice (some ⟨g, 0, none⟩) 0 0) (hx : a.eval x = v) (hown : w.ownsRow base 4 1 (.slice (some ⟨g, 0, none⟩) 0 0) 0 []) (hv : VBo w v G) (hl : G.length ≤ 100000) (hbase : base ≤ w.heap.size) (hg : base ≤ g)
    (h : ∀ v' w', w'.ownsRow base 4 1 v' G.length (G.map Value.bool) → Turn (fun k => k = g) w w' → Below base w w' → K (a.put o.dst v') w') : if Region.wanted o (yielded ops a.tmps) = true then Oper.wp Try.prog o a w K Q else E := by
  obtain ⟨i0, hi, hz0, hz1, hz2⟩ := info_parts info4
  have hv' := hv
  obtain ⟨gv, ov, c, cur, rfl, hb, h1, h2, h3, h4⟩ := hv
  obtain ⟨v', w', e1, e2, e3, e4, -⟩ := run_append_own_at (P := Try.prog) w base 38 o.type 4 i0 _ 1 1 Try.underlying38 hi hz0 hz1 hz2 rfl (by decide) _ 0 [] hown ⟨gv, ov, none⟩ G.length c (G.map Value.bool) (by rw [List.length_map, Nat.mul_one]) (fun j u hu => by
    rw [List.getElem?_map] at hu
    obtain ⟨b, hb, rfl⟩ := Option.map_eq_some_iff.1 hu
    rw [Addr.add_mid]
    exact hv'.cell hb) (oneBo G) (by unfold maxLen; omega) (by omega) hbase
  rw [Nat.zero_add, List.nil_append] at e2
  have ht : Turn (fun k => k = g) w w' := Turn.of_grown e3 (fun j hj => Or.inl (by cases hj; rfl))
  exact step_append_str hgd s x ho hs hx e1 (h v' w' e2 ht (ht.below hbase (fun k hk e => by omega)))

/-- []..{} in a drawn region. -/
theorem step_b0By {w : World} {ops : Array Oper} {o : Oper} {a : Act} {K : Act → World → Prop} {Q : Exit → Act → World → Prop} {E : Prop} (base : Nat) (hbase : base ≤ w.heap.size) (hgd : o.guard = none) (ho : o.op = .buildSlice 39 0 #[])
    (h : ∀ g w', w'.ownsRow base 5 1 (.slice (some ⟨g, 0, none⟩) 0 0) 0 [] → Below w.heap.size w w' → K (a.put o.dst (.slice (some ⟨g, 0, none⟩) 0 0)) w') : if Region.wanted o (yielded ops a.tmps) = true then Oper.wp Try.prog o a w K Q else E := by
  have hw : Region.wanted o (yielded ops a.tmps) = true := by simp [Region.wanted, hgd]
  rw [if_pos hw]
  have hr : (Instr.buildSlice 39 0 #[]).run Try.prog w = .ok (.slice (some ⟨w.heap.size, 0, none⟩) 0 0) (w.alloc (.cells #[] 5)) := by kernel_rfl
  unfold Oper.wp
  simp [execOp, ho, hr, Result.andThen]
  exact h _ _ (World.ownsRow_made w #[] 0 hbase (Nat.zero_le _) rfl) (bel1 _ _)
/-- append onto an empty one, in a drawn region. -/
theorem step_clBy {w : World} {ops : Array Oper} {o : Oper} {a : Act} {K : Act → World → Prop} {Q : Exit → Act → World → Prop} {E : Prop} (hgd : o.guard = none) (s x : Operand) (ho : o.op = .call { callee := .builtin .append, args := #[s, x], argTypes := #[39, 39] }) {base g : Nat} {v : Value} {G : List UInt8}
    (hs : a.eval s = .slice (some ⟨g, 0, none⟩) 0 0) (hx : a.eval x = v) (hown : w.ownsRow base 5 1 (.slice (some ⟨g, 0, none⟩) 0 0) 0 []) (hv : VBy w v G) (hl : G.length ≤ 100000) (hbase : base ≤ w.heap.size) (hg : base ≤ g)
    (h : ∀ v' w', w'.ownsRow base 5 1 v' G.length (G.map byV) → Turn (fun k => k = g) w w' → Below base w w' → K (a.put o.dst v') w') : if Region.wanted o (yielded ops a.tmps) = true then Oper.wp Try.prog o a w K Q else E := by
  obtain ⟨i0, hi, hz0, hz1, hz2⟩ := info_parts info5
  have hv' := hv
  obtain ⟨gv, ov, c, cur, rfl, hb, h1, h2, h3, h4⟩ := hv
  obtain ⟨v', w', e1, e2, e3, e4, -⟩ := run_append_own_at (P := Try.prog) w base 39 o.type 5 i0 _ 1 1 Try.underlying39 hi hz0 hz1 hz2 rfl (by decide) _ 0 [] hown ⟨gv, ov, none⟩ G.length c (G.map byV) (by rw [List.length_map, Nat.mul_one]) (fun j u hu => by
    rw [List.getElem?_map] at hu
    obtain ⟨b, hb, rfl⟩ := Option.map_eq_some_iff.1 hu
    rw [Addr.add_mid]
    exact hv'.cell hb) (oneBy G) (by unfold maxLen; omega) (by omega) hbase
  rw [Nat.zero_add, List.nil_append] at e2
  have ht : Turn (fun k => k = g) w w' := Turn.of_grown e3 (fun j hj => Or.inl (by cases hj; rfl))
  exact step_append_str hgd s x ho hs hx e1 (h v' w' e2 ht (ht.below hbase (fun k hk e => by omega)))

theorem row_ne {w : World} {b1 b2 : Nat} {v1 v2 : Value} {n1 n2 : Nat} {xs ys : List Value} (h : w.ownsRow b1 4 1 v1 n1 xs) (k : w.ownsRow b2 5 1 v2 n2 ys) : ∀ j, v1.ownBlock = some j → v2.ownBlock = some j → False := by
  intro j e1 e2
  rcases h.2 with ⟨rfl, -⟩ | ⟨g, cap, cur, rfl, -, hb, -⟩
  · cases e1
  · cases e1
    rcases k.2 with ⟨rfl, -⟩ | ⟨g', cap', cur', rfl, -, hb', -⟩
    · cases e2
    · cases e2
      rw [hb] at hb'
      cases hb'
theorem row_lt {w : World} {base : Nat} {e : TypeId} {size : Nat} {v : Value} {n : Nat} {xs : List Value} (h : w.ownsRow base e size v n xs) {k : Nat} (hk : v.ownBlock = some k) : k < w.heap.size := by
  rcases h.2 with ⟨rfl, -⟩ | ⟨g, cap, cur, rfl, hg, hb, -⟩
  · cases hk
  · cases hk; exact (Array.getElem?_eq_some_iff.1 hb).1
theorem row_geG {w : World} {base : Nat} {e : TypeId} {size : Nat} {v : Value} {n : Nat} {xs : List Value} (h : w.ownsRow base e size v n xs) : ∀ k, v.ownBlock = some k → base ≤ k := by
  intro k hk
  rcases h.2 with ⟨rfl, -⟩ | ⟨g, cap, cur, rfl, hg, -⟩
  · cases hk
  · cases hk; exact hg
set_option maxHeartbeats 2000000 in
theorem rfork_any {w : World} {A : Bk} {r : Nat} {Q : Rq} (hX : RX w A r Q) (hf : Q.Fine) :
    Calls Try.prog 12 #[PQ r] w fun e w' => ∃ z, e = .returned (PQ z) ∧ RX w' (fun k => w.heap.size ≤ k ∧ k < w'.heap.size) z Q ∧ Below w.heap.size w w' := by
  obtain ⟨vh, vb, h⟩ := hX
  have hr0 := hf.r0
  have hr1 := hf.r1
  obtain ⟨⟨c0, c1, c2, c3, c4⟩, -⟩ := h.at5.five
  have hc0 : ∀ W, Below w.heap.size w W → W.cell? ⟨r, 0, none⟩ = some (.int .i64 Q.next) := fun W hW => later hW c0
  have hc1 : ∀ W, Below w.heap.size w W → W.cell? ⟨r, 1, none⟩ = some (.int .i64 (Q.room : Int)) := fun W hW => later hW c1
  have hc2 : ∀ W, Below w.heap.size w W → W.cell? ⟨r, 2, none⟩ = some (.string (strB Q.bs)) := fun W hW => later hW c2
  have hc3 : ∀ W, Below w.heap.size w W → W.cell? ⟨r, 3, none⟩ = some vh := fun W hW => later hW c3
  have hc4 : ∀ W, Below w.heap.size w W → W.cell? ⟨r, 4, none⟩ = some vb := fun W hW => later hW c4
  have hVH : ∀ W, Below w.heap.size w W → VBo W vh (hereL Q) := fun W hW => h.hh.later hW
  have hVB : ∀ W, Below w.heap.size w W → VBy W vb (byL Q) := fun W hW => h.hb.later hW
  have hlh := hereL_len Q
  have hlb := byL_len Q
  have HLN : Hid ((hereL Q).length = Q.room ∧ (byL Q).length = Q.room) := ⟨hlh, hlb⟩
  obtain ⟨gH, oH, cH, rfl, -⟩ := h.hh.shape
  obtain ⟨gB, oB, cB, rfl, -⟩ := h.hb.shape
  obtain ⟨ss, hss⟩ : ∃ x, x = strB Q.bs := ⟨_, rfl⟩
  rw [← hss] at hc2
  have HSS : Hid (ss = strB Q.bs) := hss
  obtain ⟨nh, hnh⟩ : ∃ x, x = (hereL Q).length := ⟨_, rfl⟩
  obtain ⟨nb, hnb⟩ : ∃ x, x = (byL Q).length := ⟨_, rfl⟩
  rw [← hnh] at hc3 hVH
  rw [← hnb] at hc4 hVB
  have HNN : Hid (nh = (hereL Q).length ∧ nb = (byL Q).length) := ⟨hnh, hnb⟩
  clear c0 c1 c2 c3 c4 h hss hlh hlb hnh hnb
  go_enter Try.func12, Try.ntmps12
  go_upto_region 1 with fail
  refine wp_region_held_drew (S := (fun W => Below w.heap.size w W)) (by kernel_rfl) ?_ (fun hHeld => ?_)
  · first | exact (Below.refl _ _).drew | assumption
  refine wpAnyH_take (i := 0) (oi := ({ dst := some 3, op := Go.Op.move (Go.Operand.tmp 0), type := 28, pos := "ref.go:29", after := #[], guard := none } : Go.Oper)) (v := .pointer (some ⟨r, 0, none⟩)) rfl (by kernel_rfl) (by kernel_rfl) (by kernel_rfl) (fun _ _ _ h => h) (Or.inl ⟨by rfl, ?_⟩) (by assumption) ?_
  · intro wx hSw
    try dsimp only at hSw
    have u0 := hc0 wx hSw
    have u1 := hc1 wx hSw
    have u2 := hc2 wx hSw
    have u3 := hc3 wx hSw
    have u4 := hc4 wx hSw
    go_simp
    try with_reducible rfl
  try simp only [Act.put, List.setIfInBounds_toArray, List.set_cons_zero, List.set_cons_succ]
  refine wpAnyH_take (i := 1) (oi := ({ dst := some 4, op := Go.Op.nilCheck (Go.Operand.tmp 3), type := 0, pos := "ref.go:29", after := #[{ on := 0, ground := Go.Ground.data }], guard := none } : Go.Oper)) (v := .pointer (some ⟨r, 0, none⟩)) rfl (by kernel_rfl) (by kernel_rfl) (by kernel_rfl) (fun _ _ _ h => h) (Or.inl ⟨by rfl, ?_⟩) (by assumption) ?_
  · intro wx hSw
    try dsimp only at hSw
    have u0 := hc0 wx hSw
    have u1 := hc1 wx hSw
    have u2 := hc2 wx hSw
    have u3 := hc3 wx hSw
    have u4 := hc4 wx hSw
    go_simp
    try with_reducible rfl
  try simp only [Act.put, List.setIfInBounds_toArray, List.set_cons_zero, List.set_cons_succ]
  refine wpAnyH_take (i := 2) (oi := ({ dst := some 5, op := Go.Op.fieldAddr 41 (Go.Operand.tmp 4) 0, type := 0, pos := "ref.go:29", after := #[{ on := 1, ground := Go.Ground.data }], guard := none } : Go.Oper)) (v := .pointer (some ⟨r, 0, none⟩)) rfl (by kernel_rfl) (by kernel_rfl) (by kernel_rfl) (fun _ _ _ h => h) (Or.inl ⟨by rfl, ?_⟩) (by assumption) ?_
  · intro wx hSw
    try dsimp only at hSw
    have u0 := hc0 wx hSw
    have u1 := hc1 wx hSw
    have u2 := hc2 wx hSw
    have u3 := hc3 wx hSw
    have u4 := hc4 wx hSw
    go_simp
    try with_reducible rfl
  try simp only [Act.put, List.setIfInBounds_toArray, List.set_cons_zero, List.set_cons_succ]
  refine wpAnyH_take (i := 3) (oi := ({ dst := some 6, op := Go.Op.load 3 (Go.Operand.tmp 5), type := 3, pos := "ref.go:29", after := #[{ on := 2, ground := Go.Ground.data }], guard := none } : Go.Oper)) (v := .int .i64 Q.next) rfl (by kernel_rfl) (by kernel_rfl) (by kernel_rfl) (fun _ _ _ h => h) (Or.inl ⟨by rfl, ?_⟩) (by assumption) ?_
  · intro wx hSw
    try dsimp only at hSw
    have u0 := hc0 wx hSw
    have u1 := hc1 wx hSw
    have u2 := hc2 wx hSw
    have u3 := hc3 wx hSw
    have u4 := hc4 wx hSw
    go_simp
    try with_reducible rfl
  try simp only [Act.put, List.setIfInBounds_toArray, List.set_cons_zero, List.set_cons_succ]
  refine wpAnyH_take (i := 4) (oi := ({ dst := some 7, op := Go.Op.move (Go.Operand.tmp 0), type := 28, pos := "ref.go:29", after := #[], guard := none } : Go.Oper)) (v := .pointer (some ⟨r, 0, none⟩)) rfl (by kernel_rfl) (by kernel_rfl) (by kernel_rfl) (fun _ _ _ h => h) (Or.inl ⟨by rfl, ?_⟩) (by assumption) ?_
  · intro wx hSw
    try dsimp only at hSw
    have u0 := hc0 wx hSw
    have u1 := hc1 wx hSw
    have u2 := hc2 wx hSw
    have u3 := hc3 wx hSw
    have u4 := hc4 wx hSw
    go_simp
    try with_reducible rfl
  try simp only [Act.put, List.setIfInBounds_toArray, List.set_cons_zero, List.set_cons_succ]
  refine wpAnyH_take (i := 5) (oi := ({ dst := some 8, op := Go.Op.nilCheck (Go.Operand.tmp 7), type := 0, pos := "ref.go:29", after := #[{ on := 4, ground := Go.Ground.data }], guard := none } : Go.Oper)) (v := .pointer (some ⟨r, 0, none⟩)) rfl (by kernel_rfl) (by kernel_rfl) (by kernel_rfl) (fun _ _ _ h => h) (Or.inl ⟨by rfl, ?_⟩) (by assumption) ?_
  · intro wx hSw
    try dsimp only at hSw
    have u0 := hc0 wx hSw
    have u1 := hc1 wx hSw
    have u2 := hc2 wx hSw
    have u3 := hc3 wx hSw
    have u4 := hc4 wx hSw
    go_simp
    try with_reducible rfl
  try simp only [Act.put, List.setIfInBounds_toArray, List.set_cons_zero, List.set_cons_succ]
  refine wpAnyH_take (i := 6) (oi := ({ dst := some 9, op := Go.Op.fieldAddr 41 (Go.Operand.tmp 8) 1, type := 0, pos := "ref.go:29", after := #[{ on := 5, ground := Go.Ground.data }], guard := none } : Go.Oper)) (v := .pointer (some ⟨r, 1, none⟩)) rfl (by kernel_rfl) (by kernel_rfl) (by kernel_rfl) (fun _ _ _ h => h) (Or.inl ⟨by rfl, ?_⟩) (by assumption) ?_
  · intro wx hSw
    try dsimp only at hSw
    have u0 := hc0 wx hSw
    have u1 := hc1 wx hSw
    have u2 := hc2 wx hSw
    have u3 := hc3 wx hSw
    have u4 := hc4 wx hSw
    go_simp
    try with_reducible rfl
  try simp only [Act.put, List.setIfInBounds_toArray, List.set_cons_zero, List.set_cons_succ]
  refine wpAnyH_take (i := 7) (oi := ({ dst := some 10, op := Go.Op.load 3 (Go.Operand.tmp 9), type := 3, pos := "ref.go:29", after := #[{ on := 6, ground := Go.Ground.data }], guard := none } : Go.Oper)) (v := .int .i64 (Q.room : Int)) rfl (by kernel_rfl) (by kernel_rfl) (by kernel_rfl) (fun _ _ _ h => h) (Or.inl ⟨by rfl, ?_⟩) (by assumption) ?_
  · intro wx hSw
    try dsimp only at hSw
    have u0 := hc0 wx hSw
    have u1 := hc1 wx hSw
    have u2 := hc2 wx hSw
    have u3 := hc3 wx hSw
    have u4 := hc4 wx hSw
    go_simp
    try with_reducible rfl
  try simp only [Act.put, List.setIfInBounds_toArray, List.set_cons_zero, List.set_cons_succ]
  refine wpAnyH_take (i := 8) (oi := ({ dst := some 11, op := Go.Op.move (Go.Operand.tmp 0), type := 28, pos := "ref.go:29", after := #[], guard := none } : Go.Oper)) (v := .pointer (some ⟨r, 0, none⟩)) rfl (by kernel_rfl) (by kernel_rfl) (by kernel_rfl) (fun _ _ _ h => h) (Or.inl ⟨by rfl, ?_⟩) (by assumption) ?_
  · intro wx hSw
    try dsimp only at hSw
    have u0 := hc0 wx hSw
    have u1 := hc1 wx hSw
    have u2 := hc2 wx hSw
    have u3 := hc3 wx hSw
    have u4 := hc4 wx hSw
    go_simp
    try with_reducible rfl
  try simp only [Act.put, List.setIfInBounds_toArray, List.set_cons_zero, List.set_cons_succ]
  refine wpAnyH_take (i := 9) (oi := ({ dst := some 12, op := Go.Op.nilCheck (Go.Operand.tmp 11), type := 0, pos := "ref.go:29", after := #[{ on := 8, ground := Go.Ground.data }], guard := none } : Go.Oper)) (v := .pointer (some ⟨r, 0, none⟩)) rfl (by kernel_rfl) (by kernel_rfl) (by kernel_rfl) (fun _ _ _ h => h) (Or.inl ⟨by rfl, ?_⟩) (by assumption) ?_
  · intro wx hSw
    try dsimp only at hSw
    have u0 := hc0 wx hSw
    have u1 := hc1 wx hSw
    have u2 := hc2 wx hSw
    have u3 := hc3 wx hSw
    have u4 := hc4 wx hSw
    go_simp
    try with_reducible rfl
  try simp only [Act.put, List.setIfInBounds_toArray, List.set_cons_zero, List.set_cons_succ]
  refine wpAnyH_take (i := 10) (oi := ({ dst := some 13, op := Go.Op.fieldAddr 41 (Go.Operand.tmp 12) 2, type := 0, pos := "ref.go:29", after := #[{ on := 9, ground := Go.Ground.data }], guard := none } : Go.Oper)) (v := .pointer (some ⟨r, 2, none⟩)) rfl (by kernel_rfl) (by kernel_rfl) (by kernel_rfl) (fun _ _ _ h => h) (Or.inl ⟨by rfl, ?_⟩) (by assumption) ?_
  · intro wx hSw
    try dsimp only at hSw
    have u0 := hc0 wx hSw
    have u1 := hc1 wx hSw
    have u2 := hc2 wx hSw
    have u3 := hc3 wx hSw
    have u4 := hc4 wx hSw
    go_simp
    try with_reducible rfl
  try simp only [Act.put, List.setIfInBounds_toArray, List.set_cons_zero, List.set_cons_succ]
  refine wpAnyH_take (i := 11) (oi := ({ dst := some 14, op := Go.Op.load 9 (Go.Operand.tmp 13), type := 9, pos := "ref.go:29", after := #[{ on := 10, ground := Go.Ground.data }], guard := none } : Go.Oper)) (v := .string ss) rfl (by kernel_rfl) (by kernel_rfl) (by kernel_rfl) (fun _ _ _ h => h) (Or.inl ⟨by rfl, ?_⟩) (by assumption) ?_
  · intro wx hSw
    try dsimp only at hSw
    have u0 := hc0 wx hSw
    have u1 := hc1 wx hSw
    have u2 := hc2 wx hSw
    have u3 := hc3 wx hSw
    have u4 := hc4 wx hSw
    go_simp
    try with_reducible rfl
  try simp only [Act.put, List.setIfInBounds_toArray, List.set_cons_zero, List.set_cons_succ]
  refine wpAnyH_take (i := 13) (oi := ({ dst := some 16, op := Go.Op.move (Go.Operand.tmp 0), type := 28, pos := "ref.go:29", after := #[], guard := none } : Go.Oper)) (v := .pointer (some ⟨r, 0, none⟩)) rfl (by kernel_rfl) (by kernel_rfl) (by kernel_rfl) (fun _ _ _ h => h) (Or.inl ⟨by rfl, ?_⟩) (by assumption) ?_
  · intro wx hSw
    try dsimp only at hSw
    have u0 := hc0 wx hSw
    have u1 := hc1 wx hSw
    have u2 := hc2 wx hSw
    have u3 := hc3 wx hSw
    have u4 := hc4 wx hSw
    go_simp
    try with_reducible rfl
  try simp only [Act.put, List.setIfInBounds_toArray, List.set_cons_zero, List.set_cons_succ]
  refine wpAnyH_take (i := 14) (oi := ({ dst := some 17, op := Go.Op.nilCheck (Go.Operand.tmp 16), type := 0, pos := "ref.go:29", after := #[{ on := 13, ground := Go.Ground.data }], guard := none } : Go.Oper)) (v := .pointer (some ⟨r, 0, none⟩)) rfl (by kernel_rfl) (by kernel_rfl) (by kernel_rfl) (fun _ _ _ h => h) (Or.inl ⟨by rfl, ?_⟩) (by assumption) ?_
  · intro wx hSw
    try dsimp only at hSw
    have u0 := hc0 wx hSw
    have u1 := hc1 wx hSw
    have u2 := hc2 wx hSw
    have u3 := hc3 wx hSw
    have u4 := hc4 wx hSw
    go_simp
    try with_reducible rfl
  try simp only [Act.put, List.setIfInBounds_toArray, List.set_cons_zero, List.set_cons_succ]
  refine wpAnyH_take (i := 15) (oi := ({ dst := some 18, op := Go.Op.fieldAddr 41 (Go.Operand.tmp 17) 3, type := 0, pos := "ref.go:29", after := #[{ on := 14, ground := Go.Ground.data }], guard := none } : Go.Oper)) (v := .pointer (some ⟨r, 3, none⟩)) rfl (by kernel_rfl) (by kernel_rfl) (by kernel_rfl) (fun _ _ _ h => h) (Or.inl ⟨by rfl, ?_⟩) (by assumption) ?_
  · intro wx hSw
    try dsimp only at hSw
    have u0 := hc0 wx hSw
    have u1 := hc1 wx hSw
    have u2 := hc2 wx hSw
    have u3 := hc3 wx hSw
    have u4 := hc4 wx hSw
    go_simp
    try with_reducible rfl
  try simp only [Act.put, List.setIfInBounds_toArray, List.set_cons_zero, List.set_cons_succ]
  refine wpAnyH_take (i := 16) (oi := ({ dst := some 19, op := Go.Op.load 38 (Go.Operand.tmp 18), type := 38, pos := "ref.go:29", after := #[{ on := 15, ground := Go.Ground.data }], guard := none } : Go.Oper)) (v := .slice (some ⟨gH, oH, none⟩) nh cH) rfl (by kernel_rfl) (by kernel_rfl) (by kernel_rfl) (fun _ _ _ h => h) (Or.inl ⟨by rfl, ?_⟩) (by assumption) ?_
  · intro wx hSw
    try dsimp only at hSw
    have u0 := hc0 wx hSw
    have u1 := hc1 wx hSw
    have u2 := hc2 wx hSw
    have u3 := hc3 wx hSw
    have u4 := hc4 wx hSw
    go_simp
    try with_reducible rfl
  try simp only [Act.put, List.setIfInBounds_toArray, List.set_cons_zero, List.set_cons_succ]
  refine wpAnyH_take (i := 19) (oi := ({ dst := some 22, op := Go.Op.move (Go.Operand.tmp 0), type := 28, pos := "ref.go:29", after := #[], guard := none } : Go.Oper)) (v := .pointer (some ⟨r, 0, none⟩)) rfl (by kernel_rfl) (by kernel_rfl) (by kernel_rfl) (fun _ _ _ h => h) (Or.inl ⟨by rfl, ?_⟩) (by assumption) ?_
  · intro wx hSw
    try dsimp only at hSw
    have u0 := hc0 wx hSw
    have u1 := hc1 wx hSw
    have u2 := hc2 wx hSw
    have u3 := hc3 wx hSw
    have u4 := hc4 wx hSw
    go_simp
    try with_reducible rfl
  try simp only [Act.put, List.setIfInBounds_toArray, List.set_cons_zero, List.set_cons_succ]
  refine wpAnyH_take (i := 20) (oi := ({ dst := some 23, op := Go.Op.nilCheck (Go.Operand.tmp 22), type := 0, pos := "ref.go:29", after := #[{ on := 19, ground := Go.Ground.data }], guard := none } : Go.Oper)) (v := .pointer (some ⟨r, 0, none⟩)) rfl (by kernel_rfl) (by kernel_rfl) (by kernel_rfl) (fun _ _ _ h => h) (Or.inl ⟨by rfl, ?_⟩) (by assumption) ?_
  · intro wx hSw
    try dsimp only at hSw
    have u0 := hc0 wx hSw
    have u1 := hc1 wx hSw
    have u2 := hc2 wx hSw
    have u3 := hc3 wx hSw
    have u4 := hc4 wx hSw
    go_simp
    try with_reducible rfl
  try simp only [Act.put, List.setIfInBounds_toArray, List.set_cons_zero, List.set_cons_succ]
  refine wpAnyH_take (i := 21) (oi := ({ dst := some 24, op := Go.Op.fieldAddr 41 (Go.Operand.tmp 23) 4, type := 0, pos := "ref.go:29", after := #[{ on := 20, ground := Go.Ground.data }], guard := none } : Go.Oper)) (v := .pointer (some ⟨r, 4, none⟩)) rfl (by kernel_rfl) (by kernel_rfl) (by kernel_rfl) (fun _ _ _ h => h) (Or.inl ⟨by rfl, ?_⟩) (by assumption) ?_
  · intro wx hSw
    try dsimp only at hSw
    have u0 := hc0 wx hSw
    have u1 := hc1 wx hSw
    have u2 := hc2 wx hSw
    have u3 := hc3 wx hSw
    have u4 := hc4 wx hSw
    go_simp
    try with_reducible rfl
  try simp only [Act.put, List.setIfInBounds_toArray, List.set_cons_zero, List.set_cons_succ]
  refine wpAnyH_take (i := 22) (oi := ({ dst := some 25, op := Go.Op.load 39 (Go.Operand.tmp 24), type := 39, pos := "ref.go:29", after := #[{ on := 21, ground := Go.Ground.data }], guard := none } : Go.Oper)) (v := .slice (some ⟨gB, oB, none⟩) nb cB) rfl (by kernel_rfl) (by kernel_rfl) (by kernel_rfl) (fun _ _ _ h => h) (Or.inl ⟨by rfl, ?_⟩) (by assumption) ?_
  · intro wx hSw
    try dsimp only at hSw
    have u0 := hc0 wx hSw
    have u1 := hc1 wx hSw
    have u2 := hc2 wx hSw
    have u3 := hc3 wx hSw
    have u4 := hc4 wx hSw
    go_simp
    try with_reducible rfl
  try simp only [Act.put, List.setIfInBounds_toArray, List.set_cons_zero, List.set_cons_succ]
  refine wpAnyH_ready (rs := [12, 18]) (by kernel_rfl) (by simp) ?_
  refine AllReadyH.cons (o := ({ dst := some 15, op := Go.Op.buildSlice 38 0 #[], type := 38, pos := "ref.go:29", after := #[], guard := none } : Go.Oper)) rfl (fun K hK => ?_) (AllReadyH.cons (o := ({ dst := some 21, op := Go.Op.buildSlice 39 0 #[], type := 39, pos := "ref.go:29", after := #[], guard := none } : Go.Oper)) rfl (fun K hK => ?_) AllReadyH.nil)
  · refine step_b0Bo w.heap.size hHeld.size (by rfl) (by rfl) ?_
    intro g1 wl hown1 hB1
    refine hK.out _ _ (bt hHeld hB1) (fun hHeld => ?_)
    have hg1 := row_geG hown1 g1 rfl
    try have hown2 := row_later hown2 hB1
    clear hK K
    try simp only [Act.put, List.setIfInBounds_toArray, List.set_cons_zero, List.set_cons_succ]
    refine wpAnyH_ready (rs := [17, 18]) (by kernel_rfl) (by simp) ?_
    refine AllReadyH.cons (o := ({ dst := some 20, op := Go.Op.call { callee := Go.Callee.builtin Go.Builtin.append, args := #[Go.Operand.tmp 15, Go.Operand.tmp 19], argTypes := #[38, 38] }, type := 38, pos := "ref.go:29", after := #[{ on := 12, ground := Go.Ground.data }, { on := 16, ground := Go.Ground.data }], guard := none } : Go.Oper)) rfl (fun K hK => ?_) (AllReadyH.cons (o := ({ dst := some 21, op := Go.Op.buildSlice 39 0 #[], type := 39, pos := "ref.go:29", after := #[], guard := none } : Go.Oper)) rfl (fun K hK => ?_) AllReadyH.nil)
    · refine step_clBo (by rfl) _ _ (by rfl) (by rfl) (by rfl) hown1 (hVH _ hHeld) (by rw [HLN.out.1]; omega) hHeld.size hg1 ?_
      intro v1 wl hO1 ht1 hbb1
      refine hK.out _ _ (hHeld.trans hbb1) (fun hHeld => ?_)
      try have hown2 := row_turn hown2 ht1 (fun k hk e => row_ne hown1 hown2 k (by rw [e]; rfl) hk)
      obtain ⟨gx1, ox1, cx1, hv1, -⟩ := (VBo.of_own hO1 (fun e => by have := HLN.out.1; rw [e] at this; simp at this; omega)).shape
      subst hv1
      clear hK K
      try simp only [Act.put, List.setIfInBounds_toArray, List.set_cons_zero, List.set_cons_succ]
      refine wpAnyH_ready (rs := [18]) (by kernel_rfl) (by simp) ?_
      refine AllReadyH.cons (o := ({ dst := some 21, op := Go.Op.buildSlice 39 0 #[], type := 39, pos := "ref.go:29", after := #[], guard := none } : Go.Oper)) rfl (fun K hK => ?_) AllReadyH.nil
      · refine step_b0By w.heap.size hHeld.size (by rfl) (by rfl) ?_
        intro g2 wl hown2 hB2
        refine hK.out _ _ (bt hHeld hB2) (fun hHeld => ?_)
        have hg2 := row_geG hown2 g2 rfl
        try have hown1 := row_later hown1 hB2
        try have hO1 := row_later hO1 hB2
        clear hK K
        try simp only [Act.put, List.setIfInBounds_toArray, List.set_cons_zero, List.set_cons_succ]
        refine wpAnyH_ready (rs := [23]) (by kernel_rfl) (by simp) ?_
        refine AllReadyH.cons (o := ({ dst := some 26, op := Go.Op.call { callee := Go.Callee.builtin Go.Builtin.append, args := #[Go.Operand.tmp 21, Go.Operand.tmp 25], argTypes := #[39, 39] }, type := 39, pos := "ref.go:29", after := #[{ on := 18, ground := Go.Ground.data }, { on := 22, ground := Go.Ground.data }, { on := 17, ground := Go.Ground.chain }], guard := none } : Go.Oper)) rfl (fun K hK => ?_) AllReadyH.nil
        · refine step_clBy (by rfl) _ _ (by rfl) (by rfl) (by rfl) hown2 (hVB _ hHeld) (by rw [HLN.out.2]; omega) hHeld.size hg2 ?_
          intro v2 wl hO2 ht2 hbb2
          refine hK.out _ _ (hHeld.trans hbb2) (fun hHeld => ?_)
          have hO1 := row_turn hO1 ht2 (fun k hk e => row_ne hO1 hown2 k hk (by rw [e]; rfl))
          obtain ⟨gx2, ox2, cx2, hv2, -⟩ := (VBy.of_own hO2 (fun e => by have := HLN.out.2; rw [e] at this; simp at this; omega)).shape
          subst hv2
          clear hK K
          try simp only [Act.put, List.setIfInBounds_toArray, List.set_cons_zero, List.set_cons_succ]
          refine wpAnyH_take (i := 24) (oi := ({ dst := some 27, op := Go.Op.build 41 #[(0, Go.Operand.tmp 6), (1, Go.Operand.tmp 10), (2, Go.Operand.tmp 14), (3, Go.Operand.tmp 20), (4, Go.Operand.tmp 26)], type := 41, pos := "ref.go:29", after := #[{ on := 3, ground := Go.Ground.data }, { on := 7, ground := Go.Ground.data }, { on := 11, ground := Go.Ground.data }, { on := 17, ground := Go.Ground.data }, { on := 23, ground := Go.Ground.data }], guard := none } : Go.Oper)) (v := .agg #[.int .i64 Q.next, .int .i64 (Q.room : Int), .string ss, .slice (some ⟨gx1, ox1, none⟩) (hereL Q).length cx1, .slice (some ⟨gx2, ox2, none⟩) (byL Q).length cx2]) rfl (by kernel_rfl) (by kernel_rfl) (by kernel_rfl) (fun _ _ _ h => h) (Or.inl ⟨by rfl, ?_⟩) (by assumption) ?_
          · intro wx hSw
            try dsimp only at hSw
            have u0 := hc0 wx hSw
            have u1 := hc1 wx hSw
            have u2 := hc2 wx hSw
            have u3 := hc3 wx hSw
            have u4 := hc4 wx hSw
            go_simp
            try with_reducible rfl
          try simp only [Act.put, List.setIfInBounds_toArray, List.set_cons_zero, List.set_cons_succ]
          refine wpAnyH_ready (rs := [25]) (by kernel_rfl) (by simp) ?_
          refine AllReadyH.cons (o := ({ dst := some 28, op := Go.Op.box 41 (Go.Operand.tmp 27), type := 28, pos := "ref.go:29", after := #[{ on := 24, ground := Go.Ground.data }], guard := none } : Go.Oper)) rfl (fun K hK => ?_) AllReadyH.nil
          · have HB7 := hHeld
            go_simp
            refine hK.out _ _ (bt hHeld (bel1 _ _)) (fun hHeld => ?_)
            clear hK K
            try simp only [Act.put, List.setIfInBounds_toArray, List.set_cons_zero, List.set_cons_succ]
            refine wpAnyH_take (i := 26) (oi := ({ dst := some 2, op := Go.Op.assign (Go.Operand.tmp 28), type := 28, pos := "ref.go:29", after := #[{ on := 25, ground := Go.Ground.data }, { on := 23, ground := Go.Ground.chain }, { on := 0, ground := Go.Ground.phase }, { on := 1, ground := Go.Ground.phase }, { on := 2, ground := Go.Ground.phase }, { on := 3, ground := Go.Ground.phase }, { on := 4, ground := Go.Ground.phase }, { on := 5, ground := Go.Ground.phase }, { on := 6, ground := Go.Ground.phase }, { on := 7, ground := Go.Ground.phase }, { on := 8, ground := Go.Ground.phase }, { on := 9, ground := Go.Ground.phase }, { on := 10, ground := Go.Ground.phase }, { on := 11, ground := Go.Ground.phase }, { on := 12, ground := Go.Ground.phase }, { on := 13, ground := Go.Ground.phase }, { on := 14, ground := Go.Ground.phase }, { on := 15, ground := Go.Ground.phase }, { on := 16, ground := Go.Ground.phase }, { on := 17, ground := Go.Ground.phase }, { on := 18, ground := Go.Ground.phase }, { on := 19, ground := Go.Ground.phase }, { on := 20, ground := Go.Ground.phase }, { on := 21, ground := Go.Ground.phase }, { on := 22, ground := Go.Ground.phase }, { on := 23, ground := Go.Ground.phase }, { on := 24, ground := Go.Ground.phase }, { on := 25, ground := Go.Ground.phase }], guard := none } : Go.Oper)) (v := .pointer (some ⟨wl.heap.size, 0, none⟩)) rfl (by kernel_rfl) (by kernel_rfl) (by kernel_rfl) (fun _ _ _ h => h) (Or.inl ⟨by rfl, ?_⟩) (by assumption) ?_
            · intro wx hSw
              try dsimp only at hSw
              have u0 := hc0 wx hSw
              have u1 := hc1 wx hSw
              have u2 := hc2 wx hSw
              have u3 := hc3 wx hSw
              have u4 := hc4 wx hSw
              go_simp
              try with_reducible rfl
            try simp only [Act.put, List.setIfInBounds_toArray, List.set_cons_zero, List.set_cons_succ]
            refine wpAnyH_done (by kernel_rfl) ?_ _
            go_wp2
            go_ret
            have hs7 := HB7.size
            have hne1 : hereL Q ≠ [] := fun e => by have := HLN.out.1; rw [e] at this; simp at this; omega
            have hne2 : byL Q ≠ [] := fun e => by have := HLN.out.2; rw [e] at this; simp at this; omega
            have k1 := fun k hk => row_geG hO1 k hk
            have k2 := fun k hk => row_lt hO1 (k := k) hk
            have k3 := fun k hk => row_geG hO2 k hk
            have k4 := fun k hk => row_lt hO2 (k := k) hk
            have hAt := At.box wl (ruV Q (.slice (some ⟨gx1, ox1, none⟩) (hereL Q).length cx1) (.slice (some ⟨gx2, ox2, none⟩) (byL Q).length cx2)) 41
            refine ⟨wl.heap.size, rfl, ⟨_, _, ?_, (VBo.of_own hO1 hne1).later (bel1 wl _), (VBy.of_own hO2 hne2).later (bel1 wl _), ⟨hs7, by simp⟩, (fun k hk => ⟨⟨k1 k hk, by have := k2 k hk; simp; omega⟩, by have := k2 k hk; omega⟩), (fun k hk => ⟨⟨k3 k hk, by have := k4 k hk; simp; omega⟩, by have := k4 k hk; omega⟩), fun k hk => hk.2⟩, hHeld⟩
            have h9 := HSS.out
            subst h9
            exact hAt
    · refine step_b0By w.heap.size hHeld.size (by rfl) (by rfl) ?_
      intro g2 wl hown2 hB2
      refine hK.out _ _ (bt hHeld hB2) (fun hHeld => ?_)
      have hg2 := row_geG hown2 g2 rfl
      try have hown1 := row_later hown1 hB2
      try have hO1 := row_later hO1 hB2
      clear hK K
      try simp only [Act.put, List.setIfInBounds_toArray, List.set_cons_zero, List.set_cons_succ]
      refine wpAnyH_ready (rs := [17]) (by kernel_rfl) (by simp) ?_
      refine AllReadyH.cons (o := ({ dst := some 20, op := Go.Op.call { callee := Go.Callee.builtin Go.Builtin.append, args := #[Go.Operand.tmp 15, Go.Operand.tmp 19], argTypes := #[38, 38] }, type := 38, pos := "ref.go:29", after := #[{ on := 12, ground := Go.Ground.data }, { on := 16, ground := Go.Ground.data }], guard := none } : Go.Oper)) rfl (fun K hK => ?_) AllReadyH.nil
      · refine step_clBo (by rfl) _ _ (by rfl) (by rfl) (by rfl) hown1 (hVH _ hHeld) (by rw [HLN.out.1]; omega) hHeld.size hg1 ?_
        intro v1 wl hO1 ht1 hbb1
        refine hK.out _ _ (hHeld.trans hbb1) (fun hHeld => ?_)
        try have hown2 := row_turn hown2 ht1 (fun k hk e => row_ne hown1 hown2 k (by rw [e]; rfl) hk)
        obtain ⟨gx1, ox1, cx1, hv1, -⟩ := (VBo.of_own hO1 (fun e => by have := HLN.out.1; rw [e] at this; simp at this; omega)).shape
        subst hv1
        clear hK K
        try simp only [Act.put, List.setIfInBounds_toArray, List.set_cons_zero, List.set_cons_succ]
        refine wpAnyH_ready (rs := [23]) (by kernel_rfl) (by simp) ?_
        refine AllReadyH.cons (o := ({ dst := some 26, op := Go.Op.call { callee := Go.Callee.builtin Go.Builtin.append, args := #[Go.Operand.tmp 21, Go.Operand.tmp 25], argTypes := #[39, 39] }, type := 39, pos := "ref.go:29", after := #[{ on := 18, ground := Go.Ground.data }, { on := 22, ground := Go.Ground.data }, { on := 17, ground := Go.Ground.chain }], guard := none } : Go.Oper)) rfl (fun K hK => ?_) AllReadyH.nil
        · refine step_clBy (by rfl) _ _ (by rfl) (by rfl) (by rfl) hown2 (hVB _ hHeld) (by rw [HLN.out.2]; omega) hHeld.size hg2 ?_
          intro v2 wl hO2 ht2 hbb2
          refine hK.out _ _ (hHeld.trans hbb2) (fun hHeld => ?_)
          have hO1 := row_turn hO1 ht2 (fun k hk e => row_ne hO1 hown2 k hk (by rw [e]; rfl))
          obtain ⟨gx2, ox2, cx2, hv2, -⟩ := (VBy.of_own hO2 (fun e => by have := HLN.out.2; rw [e] at this; simp at this; omega)).shape
          subst hv2
          clear hK K
          try simp only [Act.put, List.setIfInBounds_toArray, List.set_cons_zero, List.set_cons_succ]
          refine wpAnyH_take (i := 24) (oi := ({ dst := some 27, op := Go.Op.build 41 #[(0, Go.Operand.tmp 6), (1, Go.Operand.tmp 10), (2, Go.Operand.tmp 14), (3, Go.Operand.tmp 20), (4, Go.Operand.tmp 26)], type := 41, pos := "ref.go:29", after := #[{ on := 3, ground := Go.Ground.data }, { on := 7, ground := Go.Ground.data }, { on := 11, ground := Go.Ground.data }, { on := 17, ground := Go.Ground.data }, { on := 23, ground := Go.Ground.data }], guard := none } : Go.Oper)) (v := .agg #[.int .i64 Q.next, .int .i64 (Q.room : Int), .string ss, .slice (some ⟨gx1, ox1, none⟩) (hereL Q).length cx1, .slice (some ⟨gx2, ox2, none⟩) (byL Q).length cx2]) rfl (by kernel_rfl) (by kernel_rfl) (by kernel_rfl) (fun _ _ _ h => h) (Or.inl ⟨by rfl, ?_⟩) (by assumption) ?_
          · intro wx hSw
            try dsimp only at hSw
            have u0 := hc0 wx hSw
            have u1 := hc1 wx hSw
            have u2 := hc2 wx hSw
            have u3 := hc3 wx hSw
            have u4 := hc4 wx hSw
            go_simp
            try with_reducible rfl
          try simp only [Act.put, List.setIfInBounds_toArray, List.set_cons_zero, List.set_cons_succ]
          refine wpAnyH_ready (rs := [25]) (by kernel_rfl) (by simp) ?_
          refine AllReadyH.cons (o := ({ dst := some 28, op := Go.Op.box 41 (Go.Operand.tmp 27), type := 28, pos := "ref.go:29", after := #[{ on := 24, ground := Go.Ground.data }], guard := none } : Go.Oper)) rfl (fun K hK => ?_) AllReadyH.nil
          · have HB7 := hHeld
            go_simp
            refine hK.out _ _ (bt hHeld (bel1 _ _)) (fun hHeld => ?_)
            clear hK K
            try simp only [Act.put, List.setIfInBounds_toArray, List.set_cons_zero, List.set_cons_succ]
            refine wpAnyH_take (i := 26) (oi := ({ dst := some 2, op := Go.Op.assign (Go.Operand.tmp 28), type := 28, pos := "ref.go:29", after := #[{ on := 25, ground := Go.Ground.data }, { on := 23, ground := Go.Ground.chain }, { on := 0, ground := Go.Ground.phase }, { on := 1, ground := Go.Ground.phase }, { on := 2, ground := Go.Ground.phase }, { on := 3, ground := Go.Ground.phase }, { on := 4, ground := Go.Ground.phase }, { on := 5, ground := Go.Ground.phase }, { on := 6, ground := Go.Ground.phase }, { on := 7, ground := Go.Ground.phase }, { on := 8, ground := Go.Ground.phase }, { on := 9, ground := Go.Ground.phase }, { on := 10, ground := Go.Ground.phase }, { on := 11, ground := Go.Ground.phase }, { on := 12, ground := Go.Ground.phase }, { on := 13, ground := Go.Ground.phase }, { on := 14, ground := Go.Ground.phase }, { on := 15, ground := Go.Ground.phase }, { on := 16, ground := Go.Ground.phase }, { on := 17, ground := Go.Ground.phase }, { on := 18, ground := Go.Ground.phase }, { on := 19, ground := Go.Ground.phase }, { on := 20, ground := Go.Ground.phase }, { on := 21, ground := Go.Ground.phase }, { on := 22, ground := Go.Ground.phase }, { on := 23, ground := Go.Ground.phase }, { on := 24, ground := Go.Ground.phase }, { on := 25, ground := Go.Ground.phase }], guard := none } : Go.Oper)) (v := .pointer (some ⟨wl.heap.size, 0, none⟩)) rfl (by kernel_rfl) (by kernel_rfl) (by kernel_rfl) (fun _ _ _ h => h) (Or.inl ⟨by rfl, ?_⟩) (by assumption) ?_
            · intro wx hSw
              try dsimp only at hSw
              have u0 := hc0 wx hSw
              have u1 := hc1 wx hSw
              have u2 := hc2 wx hSw
              have u3 := hc3 wx hSw
              have u4 := hc4 wx hSw
              go_simp
              try with_reducible rfl
            try simp only [Act.put, List.setIfInBounds_toArray, List.set_cons_zero, List.set_cons_succ]
            refine wpAnyH_done (by kernel_rfl) ?_ _
            go_wp2
            go_ret
            have hs7 := HB7.size
            have hne1 : hereL Q ≠ [] := fun e => by have := HLN.out.1; rw [e] at this; simp at this; omega
            have hne2 : byL Q ≠ [] := fun e => by have := HLN.out.2; rw [e] at this; simp at this; omega
            have k1 := fun k hk => row_geG hO1 k hk
            have k2 := fun k hk => row_lt hO1 (k := k) hk
            have k3 := fun k hk => row_geG hO2 k hk
            have k4 := fun k hk => row_lt hO2 (k := k) hk
            have hAt := At.box wl (ruV Q (.slice (some ⟨gx1, ox1, none⟩) (hereL Q).length cx1) (.slice (some ⟨gx2, ox2, none⟩) (byL Q).length cx2)) 41
            refine ⟨wl.heap.size, rfl, ⟨_, _, ?_, (VBo.of_own hO1 hne1).later (bel1 wl _), (VBy.of_own hO2 hne2).later (bel1 wl _), ⟨hs7, by simp⟩, (fun k hk => ⟨⟨k1 k hk, by have := k2 k hk; simp; omega⟩, by have := k2 k hk; omega⟩), (fun k hk => ⟨⟨k3 k hk, by have := k4 k hk; simp; omega⟩, by have := k4 k hk; omega⟩), fun k hk => hk.2⟩, hHeld⟩
            have h9 := HSS.out
            subst h9
            exact hAt
  · refine step_b0By w.heap.size hHeld.size (by rfl) (by rfl) ?_
    intro g2 wl hown2 hB2
    refine hK.out _ _ (bt hHeld hB2) (fun hHeld => ?_)
    have hg2 := row_geG hown2 g2 rfl
    try have hown1 := row_later hown1 hB2
    try have hO1 := row_later hO1 hB2
    clear hK K
    try simp only [Act.put, List.setIfInBounds_toArray, List.set_cons_zero, List.set_cons_succ]
    refine wpAnyH_ready (rs := [12]) (by kernel_rfl) (by simp) ?_
    refine AllReadyH.cons (o := ({ dst := some 15, op := Go.Op.buildSlice 38 0 #[], type := 38, pos := "ref.go:29", after := #[], guard := none } : Go.Oper)) rfl (fun K hK => ?_) AllReadyH.nil
    · refine step_b0Bo w.heap.size hHeld.size (by rfl) (by rfl) ?_
      intro g1 wl hown1 hB1
      refine hK.out _ _ (bt hHeld hB1) (fun hHeld => ?_)
      have hg1 := row_geG hown1 g1 rfl
      try have hown2 := row_later hown2 hB1
      clear hK K
      try simp only [Act.put, List.setIfInBounds_toArray, List.set_cons_zero, List.set_cons_succ]
      refine wpAnyH_ready (rs := [17]) (by kernel_rfl) (by simp) ?_
      refine AllReadyH.cons (o := ({ dst := some 20, op := Go.Op.call { callee := Go.Callee.builtin Go.Builtin.append, args := #[Go.Operand.tmp 15, Go.Operand.tmp 19], argTypes := #[38, 38] }, type := 38, pos := "ref.go:29", after := #[{ on := 12, ground := Go.Ground.data }, { on := 16, ground := Go.Ground.data }], guard := none } : Go.Oper)) rfl (fun K hK => ?_) AllReadyH.nil
      · refine step_clBo (by rfl) _ _ (by rfl) (by rfl) (by rfl) hown1 (hVH _ hHeld) (by rw [HLN.out.1]; omega) hHeld.size hg1 ?_
        intro v1 wl hO1 ht1 hbb1
        refine hK.out _ _ (hHeld.trans hbb1) (fun hHeld => ?_)
        try have hown2 := row_turn hown2 ht1 (fun k hk e => row_ne hown1 hown2 k (by rw [e]; rfl) hk)
        obtain ⟨gx1, ox1, cx1, hv1, -⟩ := (VBo.of_own hO1 (fun e => by have := HLN.out.1; rw [e] at this; simp at this; omega)).shape
        subst hv1
        clear hK K
        try simp only [Act.put, List.setIfInBounds_toArray, List.set_cons_zero, List.set_cons_succ]
        refine wpAnyH_ready (rs := [23]) (by kernel_rfl) (by simp) ?_
        refine AllReadyH.cons (o := ({ dst := some 26, op := Go.Op.call { callee := Go.Callee.builtin Go.Builtin.append, args := #[Go.Operand.tmp 21, Go.Operand.tmp 25], argTypes := #[39, 39] }, type := 39, pos := "ref.go:29", after := #[{ on := 18, ground := Go.Ground.data }, { on := 22, ground := Go.Ground.data }, { on := 17, ground := Go.Ground.chain }], guard := none } : Go.Oper)) rfl (fun K hK => ?_) AllReadyH.nil
        · refine step_clBy (by rfl) _ _ (by rfl) (by rfl) (by rfl) hown2 (hVB _ hHeld) (by rw [HLN.out.2]; omega) hHeld.size hg2 ?_
          intro v2 wl hO2 ht2 hbb2
          refine hK.out _ _ (hHeld.trans hbb2) (fun hHeld => ?_)
          have hO1 := row_turn hO1 ht2 (fun k hk e => row_ne hO1 hown2 k hk (by rw [e]; rfl))
          obtain ⟨gx2, ox2, cx2, hv2, -⟩ := (VBy.of_own hO2 (fun e => by have := HLN.out.2; rw [e] at this; simp at this; omega)).shape
          subst hv2
          clear hK K
          try simp only [Act.put, List.setIfInBounds_toArray, List.set_cons_zero, List.set_cons_succ]
          refine wpAnyH_take (i := 24) (oi := ({ dst := some 27, op := Go.Op.build 41 #[(0, Go.Operand.tmp 6), (1, Go.Operand.tmp 10), (2, Go.Operand.tmp 14), (3, Go.Operand.tmp 20), (4, Go.Operand.tmp 26)], type := 41, pos := "ref.go:29", after := #[{ on := 3, ground := Go.Ground.data }, { on := 7, ground := Go.Ground.data }, { on := 11, ground := Go.Ground.data }, { on := 17, ground := Go.Ground.data }, { on := 23, ground := Go.Ground.data }], guard := none } : Go.Oper)) (v := .agg #[.int .i64 Q.next, .int .i64 (Q.room : Int), .string ss, .slice (some ⟨gx1, ox1, none⟩) (hereL Q).length cx1, .slice (some ⟨gx2, ox2, none⟩) (byL Q).length cx2]) rfl (by kernel_rfl) (by kernel_rfl) (by kernel_rfl) (fun _ _ _ h => h) (Or.inl ⟨by rfl, ?_⟩) (by assumption) ?_
          · intro wx hSw
            try dsimp only at hSw
            have u0 := hc0 wx hSw
            have u1 := hc1 wx hSw
            have u2 := hc2 wx hSw
            have u3 := hc3 wx hSw
            have u4 := hc4 wx hSw
            go_simp
            try with_reducible rfl
          try simp only [Act.put, List.setIfInBounds_toArray, List.set_cons_zero, List.set_cons_succ]
          refine wpAnyH_ready (rs := [25]) (by kernel_rfl) (by simp) ?_
          refine AllReadyH.cons (o := ({ dst := some 28, op := Go.Op.box 41 (Go.Operand.tmp 27), type := 28, pos := "ref.go:29", after := #[{ on := 24, ground := Go.Ground.data }], guard := none } : Go.Oper)) rfl (fun K hK => ?_) AllReadyH.nil
          · have HB7 := hHeld
            go_simp
            refine hK.out _ _ (bt hHeld (bel1 _ _)) (fun hHeld => ?_)
            clear hK K
            try simp only [Act.put, List.setIfInBounds_toArray, List.set_cons_zero, List.set_cons_succ]
            refine wpAnyH_take (i := 26) (oi := ({ dst := some 2, op := Go.Op.assign (Go.Operand.tmp 28), type := 28, pos := "ref.go:29", after := #[{ on := 25, ground := Go.Ground.data }, { on := 23, ground := Go.Ground.chain }, { on := 0, ground := Go.Ground.phase }, { on := 1, ground := Go.Ground.phase }, { on := 2, ground := Go.Ground.phase }, { on := 3, ground := Go.Ground.phase }, { on := 4, ground := Go.Ground.phase }, { on := 5, ground := Go.Ground.phase }, { on := 6, ground := Go.Ground.phase }, { on := 7, ground := Go.Ground.phase }, { on := 8, ground := Go.Ground.phase }, { on := 9, ground := Go.Ground.phase }, { on := 10, ground := Go.Ground.phase }, { on := 11, ground := Go.Ground.phase }, { on := 12, ground := Go.Ground.phase }, { on := 13, ground := Go.Ground.phase }, { on := 14, ground := Go.Ground.phase }, { on := 15, ground := Go.Ground.phase }, { on := 16, ground := Go.Ground.phase }, { on := 17, ground := Go.Ground.phase }, { on := 18, ground := Go.Ground.phase }, { on := 19, ground := Go.Ground.phase }, { on := 20, ground := Go.Ground.phase }, { on := 21, ground := Go.Ground.phase }, { on := 22, ground := Go.Ground.phase }, { on := 23, ground := Go.Ground.phase }, { on := 24, ground := Go.Ground.phase }, { on := 25, ground := Go.Ground.phase }], guard := none } : Go.Oper)) (v := .pointer (some ⟨wl.heap.size, 0, none⟩)) rfl (by kernel_rfl) (by kernel_rfl) (by kernel_rfl) (fun _ _ _ h => h) (Or.inl ⟨by rfl, ?_⟩) (by assumption) ?_
            · intro wx hSw
              try dsimp only at hSw
              have u0 := hc0 wx hSw
              have u1 := hc1 wx hSw
              have u2 := hc2 wx hSw
              have u3 := hc3 wx hSw
              have u4 := hc4 wx hSw
              go_simp
              try with_reducible rfl
            try simp only [Act.put, List.setIfInBounds_toArray, List.set_cons_zero, List.set_cons_succ]
            refine wpAnyH_done (by kernel_rfl) ?_ _
            go_wp2
            go_ret
            have hs7 := HB7.size
            have hne1 : hereL Q ≠ [] := fun e => by have := HLN.out.1; rw [e] at this; simp at this; omega
            have hne2 : byL Q ≠ [] := fun e => by have := HLN.out.2; rw [e] at this; simp at this; omega
            have k1 := fun k hk => row_geG hO1 k hk
            have k2 := fun k hk => row_lt hO1 (k := k) hk
            have k3 := fun k hk => row_geG hO2 k hk
            have k4 := fun k hk => row_lt hO2 (k := k) hk
            have hAt := At.box wl (ruV Q (.slice (some ⟨gx1, ox1, none⟩) (hereL Q).length cx1) (.slice (some ⟨gx2, ox2, none⟩) (byL Q).length cx2)) 41
            refine ⟨wl.heap.size, rfl, ⟨_, _, ?_, (VBo.of_own hO1 hne1).later (bel1 wl _), (VBy.of_own hO2 hne2).later (bel1 wl _), ⟨hs7, by simp⟩, (fun k hk => ⟨⟨k1 k hk, by have := k2 k hk; simp; omega⟩, by have := k2 k hk; omega⟩), (fun k hk => ⟨⟨k3 k hk, by have := k4 k hk; simp; omega⟩, by have := k4 k hk; omega⟩), fun k hk => hk.2⟩, hHeld⟩
            have h9 := HSS.out
            subst h9
            exact hAt
end Go.Proofs.Ytiglaalppaljbaa
