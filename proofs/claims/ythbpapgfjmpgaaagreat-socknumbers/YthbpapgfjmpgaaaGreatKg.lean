/- Rows of those that wait; slices.Delete of the one. -/
import Derived.Test.YthbpapgfjmpgaaaGreatKf
namespace Go.Proofs.YthbpapgfjmpgaaaGreat
open Go.RowKit Go.Maps
set_option maxRecDepth 100000
set_option linter.unusedVariables false
set_option linter.unusedSimpArgs false

theorem step_append_str {w w' : World} {ops : Array Oper} {o : Oper} {a : Act} {K : Act → World → Prop} {Q : Exit → Act → World → Prop} {E : Prop} {v vs v' : Value} {t u : TypeId} (hgd : o.guard = none) (s x : Operand) (ho : o.op = .call { callee := .builtin .append, args := #[s, x], argTypes := #[t, u] })
    (hs : a.eval s = v) (hx : a.eval x = vs) (hr : (Builtin.append_ #[t, u] o.type #[v, vs]).run Tryz.prog w = .ok v' w') (h : K (a.put o.dst v') w') : if Region.wanted o (yielded ops a.tmps) = true then Oper.wp Tryz.prog o a w K Q else E := by
  have hw : Region.wanted o (yielded ops a.tmps) = true := by simp [Region.wanted, hgd]
  rw [if_pos hw]
  unfold Oper.wp execOp
  simp only [ho, resolve, invoke, builtin, Sem.run_bind, Sem.run_pure, Result.andThen_ok, List.map_toArray, List.map_cons, List.map_nil, hs, hx, hr]
  exact h
section
variable {P : Program}
theorem zc_len (z : Array Value) (n : Nat) : (Builtin.zeroCells z n).size = n * z.size := size_zeroCells z n
theorem zc_one {z : Array Value} {n : Nat} (h1 : ∀ u ∈ z, u.oneCell' = true) : ∀ u ∈ (Builtin.zeroCells z n).toList, u.oneCell' = true := by
  intro u hu
  unfold Builtin.zeroCells at hu
  simp at hu
  obtain ⟨i, hi, rfl⟩ := hu
  have hz : 0 < z.size := by
    rcases Nat.eq_zero_or_pos z.size with e | e
    · rw [e] at hi; simp at hi
    · exact e
  have : i % z.size < z.size := Nat.mod_lt _ hz
  first
    | (rw [getElem!_pos z (i % z.size) this]; exact h1 _ (Array.getElem_mem this))
    | (simp [this]; exact h1 _ (Array.getElem_mem this))
    | (simp [Array.getD, this]; exact h1 _ (Array.getElem_mem this))
/-- clear of a row of elements of k cells, in a block that is known. -/
theorem run_clear_rowk (w : World) (t e ty : TypeId) (z : Value) (k : Nat) (ht : P.underlying t = some (.slice e)) (hv : ∀ w, (zeroValue e).run P w = .ok z w) (hk : z.cells.size = k) (h1 : ∀ u ∈ z.cells, u.oneCell' = true) (g o n c : Nat) (cur : Array Value) (T : TypeId)
    (hg : w.heap[g]? = some (.cells cur T (0, 0))) (hfit : o + n * k ≤ cur.size) :
    ∃ zs : List Value, zs.length = n * k ∧ (Builtin.clear_ #[t] ty #[.slice (some ⟨g, o, none⟩) n c]).run P w = .ok (.tuple #[]) (w.setRow g (cur.toList.take o ++ zs ++ cur.toList.drop (o + n * k)).toArray) := by
  cases n with
  | zero =>
    refine ⟨[], by simp, ?_⟩
    have e : (cur.toList.take o ++ [] ++ cur.toList.drop (o + 0 * k)).toArray = cur := by simp
    rw [e, setRow_self w g cur T (0, 0) hg]
    simp [Builtin.clear_, run_underlying ht]
  | succ m =>
    have hl : (Builtin.zeroCells z.cells (m + 1)).toList.length = (m + 1) * k := by rw [Array.length_toList, zc_len, hk]
    have hst := run_storeCells_at P g o T (Builtin.zeroCells z.cells (m + 1)).toList 0 cur w hg (by rw [hl]; simpa using hfit) (zc_one h1)
    rw [hl] at hst
    refine ⟨_, hl, ?_⟩
    simp only [Nat.add_zero] at hst
    simp [Builtin.clear_, run_underlying ht, hv, hst]
end
section
variable {w w' : World} {ops : Array Oper} {rest : List Oper} {o : Oper} {a : Act} {Q : Exit → Act → World → Prop} {v vs v' u : Value} {t t' : TypeId}
theorem wpList_clear_eq (hgd : o.guard = none) (x : Operand) (ho : o.op = .call { callee := .builtin .clear, args := #[x], argTypes := #[t] }) (hx : a.eval x = v) (hr : (Builtin.clear_ #[t] o.type #[v]).run Tryz.prog w = .ok u w') (h : wpList Tryz.prog ops Q rest (a.put o.dst u) w') : wpList Tryz.prog ops Q (o :: rest) a w := by
  refine wpList_plain hgd fun K hK => ?_
  unfold Oper.wp execOp
  simp only [ho, resolve, invoke, builtin, Sem.run_bind, Sem.run_pure, Result.andThen_ok, List.map_toArray, List.map_cons, List.map_nil, hx, hr]
  exact hK _ _ h
theorem wpList_append_eq (hgd : o.guard = none) (s x : Operand) (ho : o.op = .call { callee := .builtin .append, args := #[s, x], argTypes := #[t, t'] }) (hs : a.eval s = v) (hx : a.eval x = vs) (hr : (Builtin.append_ #[t, t'] o.type #[v, vs]).run Tryz.prog w = .ok v' w') (h : wpList Tryz.prog ops Q rest (a.put o.dst v') w') : wpList Tryz.prog ops Q (o :: rest) a w := by
  refine wpList_plain hgd fun K hK => ?_
  unfold Oper.wp execOp
  simp only [ho, resolve, invoke, builtin, Sem.run_bind, Sem.run_pure, Result.andThen_ok, List.map_toArray, List.map_cons, List.map_nil, hs, hx, hr]
  exact hK _ _ h
end
theorem turn_setRow (w : World) (g : Nat) (cs : Array Value) : Turn (fun k => k = g) w (w.setRow g cs) := ⟨rfl, rfl, rfl, by simp, fun k _ hk => setRow_other w g k cs hk⟩
theorem row_turn {S : Nat → Prop} {w w' : World} {base : Nat} {e : TypeId} {size : Nat} {v : Value} {n : Nat} {xs : List Value} (h : w.ownsRow base e size v n xs) (ht : Turn S w w') (hs : ∀ k, v.ownBlock = some k → ¬ S k) : w'.ownsRow base e size v n xs := by
  refine ⟨h.1, ?_⟩
  rcases h.2 with h2 | ⟨g, cap, cur, hv, hg, hb, h3⟩
  · exact Or.inl h2
  · exact Or.inr ⟨g, cap, cur, hv, hg, (ht.block g (Array.getElem?_eq_some_iff.1 hb).1 (hs g (by rw [hv]; rfl))).trans hb, h3⟩
theorem row_later {w w' : World} {base : Nat} {e : TypeId} {size : Nat} {v : Value} {n : Nat} {xs : List Value} (h : w.ownsRow base e size v n xs) (hb : Below w.heap.size w w') : w'.ownsRow base e size v n xs :=
  row_turn (S := fun _ => False) h (Turn.of_below hb) (fun _ _ h => h)

theorem info56 : (Tryz.prog.info? 56).map (fun i => (i.zero, i.size, i.bytes)) = some (some (.pointer none), 1, 8) := by kernel_rfl
theorem zero56 (w : World) : (zeroValue 56).run Tryz.prog w = .ok (.pointer none) w := by kernel_rfl
/-- The row of those that wait. -/
abbrev WR (w : World) (v : Value) (xs : List Value) : Prop := w.ownsRow 0 56 1 v xs.length xs
set_option maxHeartbeats 1000000 in
theorem del_one {w : World} {g cap : Nat} {x : Value} (h : WR w (.slice (some ⟨g, 0, none⟩) 1 cap) [x]) :
    Calls Tryz.prog 18 #[.slice (some ⟨g, 0, none⟩) 1 cap, .int .i64 0, .int .i64 1] w fun e w' => e = .returned (.slice (some ⟨g, 0, none⟩) 0 cap) ∧ WR w' (.slice (some ⟨g, 0, none⟩) 0 cap) [] ∧ Turn (fun k => k = g) w w' := by
  obtain ⟨cur, hb, h1, h2, h3⟩ : ∃ cur, w.heap[g]? = some (.cells cur 56 (0, 0)) ∧ 1 ≤ cap ∧ cap ≤ maxLen ∧ cur.size = cap := by
    rcases h.2 with ⟨e, -⟩ | ⟨g', cap', cur, hv, hg, hb, h1, h2, h3, h4⟩
    · cases e
    · cases hv
      exact ⟨cur, hb, h1, h2, by omega⟩
  have hmax : cap ≤ 9223372036854775807 := h2
  obtain ⟨i0, hi, hz0, hz1, hz2⟩ := info_parts info56
  obtain ⟨A, hA⟩ : ∃ A : Addr, A = (if cap = 1 then (⟨g, 0, none⟩ : Addr) else ⟨g, 1, none⟩) := ⟨_, rfl⟩
  have hroom := run_append_room (P := Tryz.prog) w.drew 52 52 56 i0 Tryz.underlying52 hi g 0 cap cur hb A 0 (cap - 1) [] (by rw [hz1]; rfl) (by intro j u hu; cases hu) (fun u hu => by cases hu) (by omega) (by rw [hz1]; simp)
  have e0 : (cur.toList.take (0 * i0.size) ++ [] ++ cur.toList.drop (0 * i0.size + ([] : List Value).length)).toArray = cur := by simp
  rw [e0, setRow_self w.drew g cur 56 (0, 0) hb] at hroom
  obtain ⟨zs, hzl, hclr⟩ := run_clear_rowk (P := Tryz.prog) w.drew 52 56 0 (.pointer none) 1 Tryz.underlying52 zero56 rfl (by intro u hu; simp [Value.cells] at hu; subst hu; rfl) g 0 1 cap cur 56 hb (by rw [h3]; omega)
  obtain ⟨cu3, hcu3⟩ : ∃ cu3, cu3 = (cur.toList.take 0 ++ zs ++ cur.toList.drop (0 + 1 * 1)).toArray := ⟨_, rfl⟩
  rw [← hcu3] at hclr
  have hfin : WR (w.drew.setRow g cu3) (.slice (some ⟨g, 0, none⟩) 0 cap) [] := by
    refine ⟨by simp, Or.inr ⟨g, cap, cu3, rfl, Nat.zero_le _, setRow_heap _ g cur cu3 56 (0, 0) hb, Nat.zero_le _, h2, ?_, by simp⟩⟩
    rw [hcu3]
    simp [hzl, h3]
    omega
  have htn : Turn (fun k => k = g) w (w.drew.setRow g cu3) := (turn_setRow w.drew g cu3).undrew
  have HH : Hid (WR (w.drew.setRow g cu3) (.slice (some ⟨g, 0, none⟩) 0 cap) [] ∧ Turn (fun k => k = g) w (w.drew.setRow g cu3)) := ⟨hfin, htn⟩
  have hcap : (1 : Int) ≤ (cap : Int) := by omega
  have hAE' : (if cap = 1 then some (⟨g, 0, none⟩ : Addr) else some ⟨g, 1, none⟩) = some A := by rw [hA]; split <;> rfl
  rw [← hAE'] at hroom
  clear h hfin htn hcu3 hA hb hAE' e0 h3
  go_enter Tryz.func18, Tryz.ntmps18
  go_upto_region 5 with fail
  refine wp_region_held_drew (S := (fun _ => True)) (by kernel_rfl) ?_ (fun hHeld => ?_)
  · first | exact trivial | assumption
  refine wpAnyH_take (i := 0) (oi := ({ dst := some 20, op := Go.Op.move (Go.Operand.tmp 0), type := 52, pos := "slices.go:232", after := #[], guard := none } : Go.Oper)) (v := .slice (some ⟨g, 0, none⟩) 1 cap) rfl (by kernel_rfl) (by kernel_rfl) (by kernel_rfl) (fun _ _ _ h => h) (Or.inl ⟨by rfl, ?_⟩) (by assumption) ?_
  · intro wx hSw
    try dsimp only at hSw
    go_simp
    try with_reducible rfl
  try simp only [Act.put, List.setIfInBounds_toArray, List.set_cons_zero, List.set_cons_succ]
  refine wpAnyH_take (i := 1) (oi := ({ dst := some 21, op := Go.Op.move (Go.Operand.tmp 1), type := 3, pos := "slices.go:232", after := #[], guard := none } : Go.Oper)) (v := .int .i64 0) rfl (by kernel_rfl) (by kernel_rfl) (by kernel_rfl) (fun _ _ _ h => h) (Or.inl ⟨by rfl, ?_⟩) (by assumption) ?_
  · intro wx hSw
    try dsimp only at hSw
    go_simp
    try with_reducible rfl
  try simp only [Act.put, List.setIfInBounds_toArray, List.set_cons_zero, List.set_cons_succ]
  refine wpAnyH_take (i := 2) (oi := ({ dst := some 22, op := Go.Op.slice 52 (Go.Operand.tmp 20) none (some (Go.Operand.tmp 21)) none, type := 52, pos := "slices.go:232", after := #[{ on := 0, ground := Go.Ground.data }, { on := 1, ground := Go.Ground.data }], guard := none } : Go.Oper)) (v := .slice (some ⟨g, 0, none⟩) 0 cap) rfl (by kernel_rfl) (by kernel_rfl) (by kernel_rfl) (fun _ _ _ h => h) (Or.inl ⟨by rfl, ?_⟩) (by assumption) ?_
  · intro wx hSw
    try dsimp only at hSw
    go_simp
    try with_reducible rfl
  try simp only [Act.put, List.setIfInBounds_toArray, List.set_cons_zero, List.set_cons_succ]
  refine wpAnyH_take (i := 3) (oi := ({ dst := some 23, op := Go.Op.move (Go.Operand.tmp 0), type := 52, pos := "slices.go:232", after := #[], guard := none } : Go.Oper)) (v := .slice (some ⟨g, 0, none⟩) 1 cap) rfl (by kernel_rfl) (by kernel_rfl) (by kernel_rfl) (fun _ _ _ h => h) (Or.inl ⟨by rfl, ?_⟩) (by assumption) ?_
  · intro wx hSw
    try dsimp only at hSw
    go_simp
    try with_reducible rfl
  try simp only [Act.put, List.setIfInBounds_toArray, List.set_cons_zero, List.set_cons_succ]
  refine wpAnyH_take (i := 4) (oi := ({ dst := some 24, op := Go.Op.move (Go.Operand.tmp 2), type := 3, pos := "slices.go:232", after := #[], guard := none } : Go.Oper)) (v := .int .i64 1) rfl (by kernel_rfl) (by kernel_rfl) (by kernel_rfl) (fun _ _ _ h => h) (Or.inl ⟨by rfl, ?_⟩) (by assumption) ?_
  · intro wx hSw
    try dsimp only at hSw
    go_simp
    try with_reducible rfl
  try simp only [Act.put, List.setIfInBounds_toArray, List.set_cons_zero, List.set_cons_succ]
  refine wpAnyH_take (i := 5) (oi := ({ dst := some 25, op := Go.Op.slice 52 (Go.Operand.tmp 23) (some (Go.Operand.tmp 24)) none none, type := 52, pos := "slices.go:232", after := #[{ on := 3, ground := Go.Ground.data }, { on := 4, ground := Go.Ground.data }], guard := none } : Go.Oper)) (v := .slice (if cap = 1 then some (⟨g, 0, none⟩ : Addr) else some ⟨g, 1, none⟩) 0 (cap - 1)) rfl (by kernel_rfl) (by kernel_rfl) (by kernel_rfl) (fun _ _ _ h => h) (Or.inl ⟨by rfl, ?_⟩) (by assumption) ?_
  · intro wx hSw
    try dsimp only at hSw
    go_simp
    try with_reducible rfl
  try simp only [Act.put, List.setIfInBounds_toArray, List.set_cons_zero, List.set_cons_succ]
  refine wpAnyH_ready (rs := [6]) (by kernel_rfl) (by simp) ?_
  refine AllReadyH.cons (o := ({ dst := some 26, op := Go.Op.call { callee := Go.Callee.builtin Go.Builtin.append, args := #[Go.Operand.tmp 22, Go.Operand.tmp 25], argTypes := #[52, 52] }, type := 52, pos := "slices.go:232", after := #[{ on := 2, ground := Go.Ground.data }, { on := 5, ground := Go.Ground.data }], guard := none } : Go.Oper)) rfl (fun K hK => ?_) AllReadyH.nil
  refine step_append_str (by rfl) _ _ (by rfl) (by rfl) (by rfl) hroom ?_
  refine hK.out _ _ trivial (fun hHeld => ?_)
  clear hK K
  try simp only [Act.put, List.setIfInBounds_toArray, List.set_cons_zero, List.set_cons_succ]
  refine wpAnyH_take (i := 7) (oi := ({ dst := some 0, op := Go.Op.assign (Go.Operand.tmp 26), type := 52, pos := "slices.go:232", after := #[{ on := 6, ground := Go.Ground.data }, { on := 6, ground := Go.Ground.chain }, { on := 0, ground := Go.Ground.phase }, { on := 1, ground := Go.Ground.phase }, { on := 2, ground := Go.Ground.phase }, { on := 3, ground := Go.Ground.phase }, { on := 4, ground := Go.Ground.phase }, { on := 5, ground := Go.Ground.phase }, { on := 6, ground := Go.Ground.phase }], guard := none } : Go.Oper)) (v := .slice (some ⟨g, 0, none⟩) 0 cap) rfl (by kernel_rfl) (by kernel_rfl) (by kernel_rfl) (fun _ _ _ h => h) (Or.inl ⟨by rfl, ?_⟩) (by assumption) ?_
  · intro wx hSw
    try dsimp only at hSw
    go_simp
    try with_reducible rfl
  try simp only [Act.put, List.setIfInBounds_toArray, List.set_cons_zero, List.set_cons_succ]
  refine wpAnyH_done (by kernel_rfl) ?_ _
  generalize Value.slice (if cap = 1 then some (⟨g, 0, none⟩ : Addr) else some ⟨g, 1, none⟩) 0 (cap - 1) = vx
  go_wp2_with (first
    | (at_builtin; refine wpList_clear_eq rfl _ rfl rfl hclr ?_)
    | go_in)
  go_ret
  exact ⟨rfl, HH.out.1, HH.out.2⟩
end Go.Proofs.YthbpapgfjmpgaaaGreat
