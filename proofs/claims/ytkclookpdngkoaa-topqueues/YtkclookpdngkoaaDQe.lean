/- clear; slices.Delete of bytes. -/
import Derived.Test.YtkclookpdngkoaaDQd
namespace Go.Proofs.Ytkclookpdngkoaa.S
open Go.RowKit Go.Maps Go.Lib
set_option maxRecDepth 100000
set_option linter.unusedVariables false
set_option linter.unusedSimpArgs false


section
variable {P : Program}
theorem zc_len (z : Array Value) (n : Nat) : (Builtin.zeroCells z n).size = n * z.size := size_zeroCells z n
theorem zc_one {z : Array Value} {n : Nat} (h1 : ∀ u ∈ z, u.oneCell' = true) : ∀ u ∈ (Builtin.zeroCells z n).toList, u.oneCell' = true := by
  intro u hu
  unfold Builtin.zeroCells at hu
  simp at hu
  obtain ⟨i, hi, rfl⟩ := hu
  have hz : 0 < z.size := by
    rcases Nat.eq_zero_or_pos z.size with e | e
    · rw [e] at hi; simp at hi
    · exact e
  have : i % z.size < z.size := Nat.mod_lt _ hz
  first
    | (rw [getElem!_pos z (i % z.size) this]; exact h1 _ (Array.getElem_mem this))
    | (simp [this]; exact h1 _ (Array.getElem_mem this))
    | (simp [Array.getD, this]; exact h1 _ (Array.getElem_mem this))
/-- clear of a row of elements of k cells, in a block that is known. -/
theorem run_clear_rowk (w : World) (t e ty : TypeId) (z : Value) (k : Nat) (ht : P.underlying t = some (.slice e)) (hv : ∀ w, (zeroValue e).run P w = .ok z w) (hk : z.cells.size = k) (h1 : ∀ u ∈ z.cells, u.oneCell' = true) (g o n c : Nat) (cur : Array Value) (T : TypeId)
    (hg : w.heap[g]? = some (.cells cur T (0, 0))) (hfit : o + n * k ≤ cur.size) :
    ∃ zs : List Value, zs.length = n * k ∧ (Builtin.clear_ #[t] ty #[.slice (some ⟨g, o, none⟩) n c]).run P w = .ok (.tuple #[]) (w.setRow g (cur.toList.take o ++ zs ++ cur.toList.drop (o + n * k)).toArray) := by
  cases n with
  | zero =>
    refine ⟨[], by simp, ?_⟩
    have e : (cur.toList.take o ++ [] ++ cur.toList.drop (o + 0 * k)).toArray = cur := by simp
    rw [e, setRow_self w g cur T (0, 0) hg]
    simp [Builtin.clear_, run_underlying ht]
  | succ m =>
    have hl : (Builtin.zeroCells z.cells (m + 1)).toList.length = (m + 1) * k := by rw [Array.length_toList, zc_len, hk]
    have hst := run_storeCells_at P g o T (Builtin.zeroCells z.cells (m + 1)).toList 0 cur w hg (by rw [hl]; simpa using hfit) (zc_one h1)
    rw [hl] at hst
    refine ⟨_, hl, ?_⟩
    simp only [Nat.add_zero] at hst
    simp [Builtin.clear_, run_underlying ht, hv, hst]
end
section
variable {w w' : World} {ops : Array Oper} {rest : List Oper} {o : Oper} {a : Act} {Q : Exit → Act → World → Prop} {v vs v' u : Value} {t t' : TypeId}
theorem wpList_clear_eq (hgd : o.guard = none) (x : Operand) (ho : o.op = .call { callee := .builtin .clear, args := #[x], argTypes := #[t] }) (hx : a.eval x = v) (hr : (Builtin.clear_ #[t] o.type #[v]).run Try.prog w = .ok u w') (h : wpList Try.prog ops Q rest (a.put o.dst u) w') : wpList Try.prog ops Q (o :: rest) a w := by
  refine wpList_plain hgd fun K hK => ?_
  unfold Oper.wp execOp
  simp only [ho, resolve, invoke, builtin, Sem.run_bind, Sem.run_pure, Result.andThen_ok, List.map_toArray, List.map_cons, List.map_nil, hx, hr]
  exact hK _ _ h
theorem wpList_append_eq (hgd : o.guard = none) (s x : Operand) (ho : o.op = .call { callee := .builtin .append, args := #[s, x], argTypes := #[t, t'] }) (hs : a.eval s = v) (hx : a.eval x = vs) (hr : (Builtin.append_ #[t, t'] o.type #[v, vs]).run Try.prog w = .ok v' w') (h : wpList Try.prog ops Q rest (a.put o.dst v') w') : wpList Try.prog ops Q (o :: rest) a w := by
  refine wpList_plain hgd fun K hK => ?_
  unfold Oper.wp execOp
  simp only [ho, resolve, invoke, builtin, Sem.run_bind, Sem.run_pure, Result.andThen_ok, List.map_toArray, List.map_cons, List.map_nil, hs, hx, hr]
  exact hK _ _ h
end
theorem turn_setRow (w : World) (g : Nat) (cs : Array Value) : Turn (fun k => k = g) w (w.setRow g cs) := ⟨rfl, rfl, rfl, by simp, fun k _ hk => setRow_other w g k cs hk⟩
theorem zero5 (w : World) : (zeroValue 5).run Try.prog w = .ok (.int .u8 0) w := by kernel_rfl
theorem del_zero {w : World} {R : Bk} {vb : Value} {bs : List UInt8} (h : BO w R vb bs) (hl : bs.length ≤ 65536) :
    Calls Try.prog 26 #[vb, .int .i64 0, .int .i64 0] w fun e w' => e = .returned vb ∧ w' = w := by
  obtain ⟨a, c, rfl, h0, hcl, hcz⟩ := h.shape
  clear h h0 hcz
  go_enter Try.func26, Try.ntmps26
  go_wp2
  go_ret
  exact ⟨rfl, rfl⟩
set_option maxHeartbeats 1000000 in
theorem del_some {w : World} {R : Bk} {g cap : Nat} {bs : List UInt8} (d : Nat) (h : BO w R (.slice (some ⟨g, 0, none⟩) bs.length cap) bs) (hd : d ≤ bs.length) (hd0 : 0 < d) (hl : bs.length ≤ 65536) :
    Calls Try.prog 26 #[.slice (some ⟨g, 0, none⟩) bs.length cap, .int .i64 0, .int .i64 (d : Int)] w fun e w' => e = .returned (.slice (some ⟨g, 0, none⟩) (bs.length - d) cap) ∧ BO w' R (.slice (some ⟨g, 0, none⟩) (bs.length - d) cap) (bs.drop d) ∧ Turn (fun k => k = g) w w' := by
  obtain ⟨g', cap', cur, hv, hg, hb, h1, h2, h3, h4⟩ : ∃ g' cap' cur, (Value.slice (some ⟨g, 0, none⟩) bs.length cap) = .slice (some ⟨g', 0, none⟩) bs.length cap' ∧ R g' ∧ w.heap[g']? = some (.cells cur 5 (0, 0)) ∧ bs.length ≤ cap' ∧ cap' ≤ maxLen ∧ cur.size = cap' * 1 ∧ cur.toList.take (bs.length * 1) = bs.map byV := by
    rcases h.2 with ⟨e, -⟩ | h'
    · cases e
    · exact h'
  cases hv
  rw [Nat.mul_one] at h3 h4
  have hmax : cap ≤ 9223372036854775807 := h2
  obtain ⟨n, hn⟩ : ∃ n, n = bs.length := ⟨_, rfl⟩
  obtain ⟨i0, hi, hz0, hz1, hz2⟩ := info_parts info5
  obtain ⟨A, hA⟩ : ∃ A : Addr, A = (if cap = d then (⟨g, 0, none⟩ : Addr) else ⟨g, d, none⟩) := ⟨_, rfl⟩
  have hnews : ∀ j u, ((bs.drop d).map byV)[j]? = some u → w.drew.cell? (A.add j) = some u := by
    intro j u hu
    rw [List.getElem?_map, List.getElem?_drop] at hu
    obtain ⟨b, hb1, rfl⟩ := Option.map_eq_some_iff.1 hu
    have hlt := (List.getElem?_eq_some_iff.1 hb1).1
    rw [hA, if_neg (by omega), Addr.add_mid]
    exact BO.cell h hb1
  have hroom := run_append_room (P := Try.prog) w.drew 50 50 5 i0 Try.underlying50 hi g 0 cap cur hb A (n - d) (cap - d) ((bs.drop d).map byV) (by rw [List.length_map, List.length_drop, hz1, hn, Nat.mul_one]) hnews (fun u hu => by obtain ⟨b, -, rfl⟩ := List.mem_map.1 hu; rfl) (by omega) (by rw [hz1, List.length_map, List.length_drop, h3]; omega)
  rw [hz1, Nat.mul_one, List.take_zero, List.nil_append, Nat.zero_add, Nat.zero_add] at hroom
  obtain ⟨cu2, hcu2⟩ : ∃ cu2, cu2 = ((bs.drop d).map byV ++ cur.toList.drop ((bs.drop d).map byV).length).toArray := ⟨_, rfl⟩
  rw [← hcu2] at hroom
  have hsz2 : cu2.size = cap := by rw [hcu2]; simp; omega
  have hb2 := setRow_heap w.drew g cur cu2 5 (0, 0) hb
  obtain ⟨zs, hzl, hclr⟩ := run_clear_rowk (P := Try.prog) (w.drew.setRow g cu2) 50 5 0 (.int .u8 0) 1 Try.underlying50 zero5 rfl (by intro u hu; simp [Value.cells] at hu; subst hu; rfl) g (n - d) d (cap - (n - d)) cu2 5 hb2 (by rw [hsz2]; omega)
  obtain ⟨cu3, hcu3⟩ : ∃ cu3, cu3 = (cu2.toList.take (n - d) ++ zs ++ cu2.toList.drop (n - d + d * 1)).toArray := ⟨_, rfl⟩
  rw [← hcu3] at hclr
  have hfin : BO ((w.drew.setRow g cu2).setRow g cu3) R (.slice (some ⟨g, 0, none⟩) (n - d) cap) (bs.drop d) := by
    refine ⟨by rw [List.length_map, Nat.mul_one], Or.inr ⟨g, cap, cu3, by rw [List.length_drop, hn], hg, setRow_heap _ g cu2 cu3 5 (0, 0) hb2, by rw [List.length_drop]; omega, h2, ?_, ?_⟩⟩
    · rw [hcu3]; simp [hzl, hsz2]; omega
    · rw [hcu3, hcu2]
      have e1 : ((bs.drop d).map byV).length = n - d := by rw [List.length_map, List.length_drop, hn]
      rw [Nat.mul_one, List.length_drop, ← hn]
      simp only [List.append_assoc]
      rw [List.take_append_of_le_length (by rw [List.length_take, List.length_append, e1]; omega), List.take_take, Nat.min_self, List.take_append_of_le_length (by rw [e1]; omega), List.take_of_length_le (by rw [e1]; omega)]
  have htn : Turn (fun k => k = g) w ((w.drew.setRow g cu2).setRow g cu3) := ((turn_setRow w.drew g cu2).trans (turn_setRow _ g cu3)).undrew
  have HH : Hid (BO ((w.drew.setRow g cu2).setRow g cu3) R (.slice (some ⟨g, 0, none⟩) (n - d) cap) (bs.drop d) ∧ Turn (fun k => k = g) w ((w.drew.setRow g cu2).setRow g cu3)) := ⟨hfin, htn⟩
  rw [← hn] at hd hl h1 ⊢
  have hdn : (d : Int) ≤ (n : Int) := by omega
  have hnc : (n : Int) ≤ (cap : Int) := by omega
  have hdc : (d : Int) ≤ (cap : Int) := by omega
  have hd0' : ¬ ((0 : Int) = (d : Int)) := by omega
  have hAE : Hid (A = (if cap = d then (⟨g, 0, none⟩ : Addr) else ⟨g, d, none⟩)) := hA
  clear h hfin htn hnews hcu2 hcu3 hA hb hb2 h4
  have hAE' : (if cap = d then some (⟨g, 0, none⟩ : Addr) else some ⟨g, d, none⟩) = some A := by rw [hAE.out]; split <;> rfl
  rw [← hAE'] at hroom
  have HN : Hid (n = bs.length) := hn
  have hx1 : ¬ cap = n - d := by omega
  have hx2 : n - (n - d) = d := by omega
  have hx3 : n - d ≤ n := by omega
  have hx4 : ((n - d : Nat) : Int) ≤ (n : Int) := by omega
  clear hn hAE hAE'
  go_enter Try.func26, Try.ntmps26
  go_upto_region 5 with fail
  refine wp_region_held_drew (S := (fun _ => True)) (by kernel_rfl) ?_ (fun hHeld => ?_)
  · first | exact trivial | assumption
  refine wpAnyH_take (i := 0) (oi := ({ dst := some 20, op := Go.Op.move (Go.Operand.tmp 0), type := 50, pos := "slices.go:232", after := #[], guard := none } : Go.Oper)) (v := .slice (some ⟨g, 0, none⟩) n cap) rfl (by kernel_rfl) (by kernel_rfl) (by kernel_rfl) (fun _ _ _ h => h) (Or.inl ⟨by rfl, ?_⟩) (by assumption) ?_
  · intro wx hSw
    try dsimp only at hSw
    go_simp
    try with_reducible rfl
  try simp only [Act.put, List.setIfInBounds_toArray, List.set_cons_zero, List.set_cons_succ]
  refine wpAnyH_take (i := 1) (oi := ({ dst := some 21, op := Go.Op.move (Go.Operand.tmp 1), type := 3, pos := "slices.go:232", after := #[], guard := none } : Go.Oper)) (v := .int .i64 0) rfl (by kernel_rfl) (by kernel_rfl) (by kernel_rfl) (fun _ _ _ h => h) (Or.inl ⟨by rfl, ?_⟩) (by assumption) ?_
  · intro wx hSw
    try dsimp only at hSw
    go_simp
    try with_reducible rfl
  try simp only [Act.put, List.setIfInBounds_toArray, List.set_cons_zero, List.set_cons_succ]
  refine wpAnyH_take (i := 2) (oi := ({ dst := some 22, op := Go.Op.slice 50 (Go.Operand.tmp 20) none (some (Go.Operand.tmp 21)) none, type := 50, pos := "slices.go:232", after := #[{ on := 0, ground := Go.Ground.data }, { on := 1, ground := Go.Ground.data }], guard := none } : Go.Oper)) (v := .slice (some ⟨g, 0, none⟩) 0 cap) rfl (by kernel_rfl) (by kernel_rfl) (by kernel_rfl) (fun _ _ _ h => h) (Or.inl ⟨by rfl, ?_⟩) (by assumption) ?_
  · intro wx hSw
    try dsimp only at hSw
    go_simp
    try with_reducible rfl
  try simp only [Act.put, List.setIfInBounds_toArray, List.set_cons_zero, List.set_cons_succ]
  refine wpAnyH_take (i := 3) (oi := ({ dst := some 23, op := Go.Op.move (Go.Operand.tmp 0), type := 50, pos := "slices.go:232", after := #[], guard := none } : Go.Oper)) (v := .slice (some ⟨g, 0, none⟩) n cap) rfl (by kernel_rfl) (by kernel_rfl) (by kernel_rfl) (fun _ _ _ h => h) (Or.inl ⟨by rfl, ?_⟩) (by assumption) ?_
  · intro wx hSw
    try dsimp only at hSw
    go_simp
    try with_reducible rfl
  try simp only [Act.put, List.setIfInBounds_toArray, List.set_cons_zero, List.set_cons_succ]
  refine wpAnyH_take (i := 4) (oi := ({ dst := some 24, op := Go.Op.move (Go.Operand.tmp 2), type := 3, pos := "slices.go:232", after := #[], guard := none } : Go.Oper)) (v := .int .i64 (d : Int)) rfl (by kernel_rfl) (by kernel_rfl) (by kernel_rfl) (fun _ _ _ h => h) (Or.inl ⟨by rfl, ?_⟩) (by assumption) ?_
  · intro wx hSw
    try dsimp only at hSw
    go_simp
    try with_reducible rfl
  try simp only [Act.put, List.setIfInBounds_toArray, List.set_cons_zero, List.set_cons_succ]
  refine wpAnyH_take (i := 5) (oi := ({ dst := some 25, op := Go.Op.slice 50 (Go.Operand.tmp 23) (some (Go.Operand.tmp 24)) none none, type := 50, pos := "slices.go:232", after := #[{ on := 3, ground := Go.Ground.data }, { on := 4, ground := Go.Ground.data }], guard := none } : Go.Oper)) (v := .slice (if cap = d then some (⟨g, 0, none⟩ : Addr) else some ⟨g, d, none⟩) (n - d) (cap - d)) rfl (by kernel_rfl) (by kernel_rfl) (by kernel_rfl) (fun _ _ _ h => h) (Or.inl ⟨by rfl, ?_⟩) (by assumption) ?_
  · intro wx hSw
    try dsimp only at hSw
    go_simp
    try with_reducible rfl
  try simp only [Act.put, List.setIfInBounds_toArray, List.set_cons_zero, List.set_cons_succ]
  refine wpAnyH_ready (rs := [6]) (by kernel_rfl) (by simp) ?_
  refine AllReadyH.cons (o := ({ dst := some 26, op := Go.Op.call { callee := Go.Callee.builtin Go.Builtin.append, args := #[Go.Operand.tmp 22, Go.Operand.tmp 25], argTypes := #[50, 50] }, type := 50, pos := "slices.go:232", after := #[{ on := 2, ground := Go.Ground.data }, { on := 5, ground := Go.Ground.data }], guard := none } : Go.Oper)) rfl (fun K hK => ?_) AllReadyH.nil
  refine step_append_str (by rfl) _ _ (by rfl) (by rfl) (by rfl) hroom ?_
  refine hK.out _ _ trivial (fun hHeld => ?_)
  clear hK K
  try simp only [Act.put, List.setIfInBounds_toArray, List.set_cons_zero, List.set_cons_succ]
  refine wpAnyH_take (i := 7) (oi := ({ dst := some 0, op := Go.Op.assign (Go.Operand.tmp 26), type := 50, pos := "slices.go:232", after := #[{ on := 6, ground := Go.Ground.data }, { on := 6, ground := Go.Ground.chain }, { on := 0, ground := Go.Ground.phase }, { on := 1, ground := Go.Ground.phase }, { on := 2, ground := Go.Ground.phase }, { on := 3, ground := Go.Ground.phase }, { on := 4, ground := Go.Ground.phase }, { on := 5, ground := Go.Ground.phase }, { on := 6, ground := Go.Ground.phase }], guard := none } : Go.Oper)) (v := .slice (some ⟨g, 0, none⟩) (n - d) cap) rfl (by kernel_rfl) (by kernel_rfl) (by kernel_rfl) (fun _ _ _ h => h) (Or.inl ⟨by rfl, ?_⟩) (by assumption) ?_
  · intro wx hSw
    try dsimp only at hSw
    go_simp
    try with_reducible rfl
  try simp only [Act.put, List.setIfInBounds_toArray, List.set_cons_zero, List.set_cons_succ]
  refine wpAnyH_done (by kernel_rfl) ?_ _
  generalize Value.slice (if cap = d then some (⟨g, 0, none⟩ : Addr) else some ⟨g, d, none⟩) (n - d) (cap - d) = vx
  go_wp2_with (first
    | (at_builtin; refine wpList_clear_eq rfl _ rfl rfl hclr ?_)
    | go_in)
  go_ret
  exact ⟨rfl, HH.out.1, HH.out.2⟩
end Go.Proofs.Ytkclookpdngkoaa.S
