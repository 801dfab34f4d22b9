/- slices.Clone of bytes, maps.Clone, Fork. -/
import Derived.Test.YtadmpdeegnppjaaGreatDoorAl
import Derived.Laws.OwnMore
import Derived.Maps.AppendAt
import Derived.Shelf.SlMaps.Clone
namespace Go.Proofs.YtadmpdeegnppjaaGreatDoor
open Go.RowKit Go.Maps Go.Shelf Go.Lib
set_option maxRecDepth 100000
set_option linter.unusedVariables false
set_option linter.unusedSimpArgs false

theorem eqnil (t e : TypeId) (ht : Tryz.prog.underlying t = some (.slice e)) (w : World) (a : Option Addr) (n c : Nat) : (binOp .eql t (.slice a n c) (.slice none 0 0)).run Tryz.prog w = .ok (.bool a.isNone) w := Lib.run_eql_slice_nil w _ _ a n c 0 0 ht
/-- A copy of bytes. -/
theorem cloneb_any {w : World} {R : Nat} {v : Value} {bs : By} (h : BO w R v bs) (hl : bs.length ≤ 65536) :
    Calls Tryz.prog 18 #[v] w fun e w' => ∃ v', e = .returned v' ∧ BO w' w.heap.size v' bs ∧ Below w.heap.size w w' := by
  obtain ⟨a, c, rfl, h0, hcl, hcz⟩ := h.shape
  cases a with
  | none =>
    obtain rfl := h0 rfl
    obtain rfl := hcz rfl
    have hq := eqnil 41 5 Tryz.underlying41 w none 0 0
    clear h
    go_enter Tryz.func18, Tryz.ntmps18
    go_wp2
    go_ret
    exact ⟨_, rfl, BO.nil _ _, Below.refl _ _⟩
  | some A =>
    have hq := eqnil 41 5 Tryz.underlying41 w (some A) bs.length c
    obtain ⟨g, rfl⟩ : ∃ g, A = ⟨g, 0, none⟩ := by
      rcases h.2 with ⟨e, -⟩ | ⟨g, cap, cur, hv, -⟩
      · cases e
      · cases hv; exact ⟨g, rfl⟩
    obtain ⟨i0, hi, hz0, hz1, hz2⟩ := info_parts info5
    have hown : (w.alloc (.cells #[] 5)).ownsRow w.heap.size 5 1 (.slice (some ⟨w.heap.size, 0, none⟩) 0 0) 0 [] := World.ownsRow_made w #[] 0 (Nat.le_refl _) (Nat.zero_le _) rfl
    obtain ⟨v', w', e1, e2, e3, -⟩ := run_append_own_at (P := Tryz.prog) (w.alloc (.cells #[] 5)) w.heap.size 41 41 5 i0 _ 1 1 Tryz.underlying41 hi hz0 hz1 hz2 rfl (by decide) _ 0 [] hown ⟨g, 0, none⟩ bs.length c (bs.map byV) (by rw [List.length_map, Nat.mul_one]) (fun j u hu => by
      rw [List.getElem?_map] at hu
      obtain ⟨b, hb, rfl⟩ := Option.map_eq_some_iff.1 hu
      rw [Addr.add_mid, Nat.zero_add]
      exact later (bel1 w _) (h.cell hb)) (fun u hu => by obtain ⟨b, -, rfl⟩ := List.mem_map.1 hu; rfl) (by unfold maxLen; omega) (by omega) (by simp)
    rw [Nat.zero_add, List.nil_append] at e2
    have hb' : Below w.heap.size w w' := ((Below.refl _ w).alloc (Nat.le_refl _) _).grown e3 (by simp) (by intro k hk; simp [Value.ownBlock] at hk; omega)
    have HH : Hid (BO w' w.heap.size v' bs ∧ Below w.heap.size w w') := ⟨e2, hb'⟩
    clear h h0 hcz e2 e3 hb' hown
    go_enter Tryz.func18, Tryz.ntmps18
    go_wp2_with (first
      | (at_builtin; refine wpList_appE rfl _ _ rfl rfl rfl e1 ?_)
      | go_in)
    go_ret
    exact ⟨v', rfl, HH.out.1, HH.out.2⟩

section
variable {w w' : World} {A : Bk} {b M : Nat} {v : Value} {s : St}
set_option maxHeartbeats 1000000 in
theorem clonem_any {l : Mp} (h : VS encV w M l) :
    Calls Tryz.prog 17 #[.map (some M)] w fun e w' => e = .returned (.map (some w.heap.size)) ∧ VS encV w' w.heap.size l ∧ Below w.heap.size w w' := by
  have hq := fun w => run_eql_map_nil_sl (P := Tryz.prog) w 40 _ _ (some M) Tryz.underlying40
  have hr := h.2
  obtain ⟨⟨es, clock, hb, F, hs, hD⟩, -⟩ := h
  have HH : Hid (VS encV (w.alloc (.map es clock)) w.heap.size l) := ⟨⟨es, clock, (MapKept.heap_alloc w _).1, F, hs, hD⟩, hr⟩
  clear F hs hD hr
  go_enter Tryz.func17, Tryz.ntmps17
  go_wp2
  rw [run_callFunc_extern Tryz.func28 (by kernel_rfl) (by kernel_rfl) (by kernel_rfl) (e := Extern.MapsClone.clone) (by kernel_rfl), run_maps_clone_sl w 40 hb]
  simp only [Result.andThen]
  rw [Oper.upon_value]
  go_wp2
  rw [run_typeAssert_map_sl _ 40 20 _ _ _ Tryz.underlying40]
  simp only [Result.andThen]
  rw [Oper.upon_value]
  go_wp2
  go_ret
  exact ⟨rfl, HH.out, bel1 _ _⟩
set_option maxHeartbeats 2000000 in
theorem fork_any (h : SX w A b s) (hO : Ok s) : Calls Tryz.prog 7 #[PB b] w fun e w' => e = .returned (PB w.heap.size) ∧ (∃ A', SX w' A' w.heap.size s ∧ ∀ k, A' k → w.heap.size ≤ k) ∧ Below w.heap.size w w' := by
  have hlo := h.lo
  have HLO : Hid (4 ≤ w.heap.size) := by
    obtain ⟨M, v, hY⟩ := h
    have := hlo b hY.inb
    have := hY.at_.1
    show _ ≤ _
    omega
  obtain ⟨M, v, hY⟩ := h
  have hll : s.line.length ≤ 65536 := by have := hO.line; omega
  obtain ⟨a, c, rfl, -⟩ := hY.bo.shape
  obtain ⟨hlt, ⟨c0, c1, c2, c3⟩, -⟩ := hY.at_.four
  have bd : Below w.heap.size w (w.alloc (.cells #[.map (some M), .slice a s.line.length c, .bool s.long, .bool s.over] 43)).drew := Below.drew (bel1 _ _)
  have hF1 : At (w.alloc (.cells #[.map (some M), .slice a s.line.length c, .bool s.long, .bool s.over] 43)).drew w.heap.size #[.map (some M), .slice a s.line.length c, .bool s.long, .bool s.over] := At.later (At.box w _ _) ⟨rfl, rfl, rfl, Nat.le_refl _, fun _ _ => rfl⟩
  have hv1 := hY.vm.later bd
  have ho1 := hY.bo.later bd
  have d0 := later bd c0
  have d1 := later bd c1
  have hY1 := hY.later bd
  have hYlw := hY.lw
  have hbM := hY.ne
  have hinv := hY.inv
  have hvne : ∀ k, (Value.slice a s.line.length c).ownBlock = some k → k ≠ b := fun k hk => (hY.inv k hk).2.1
  clear hY hO hlo
  go_enter Tryz.func7, Tryz.ntmps7
  go_upto_region 2 with fail
  refine wp_region_held_drew (S := (fun W : World => W.cell? ⟨b, 0, none⟩ = some (.map (some M)) ∧ W.cell? ⟨b, 1, none⟩ = some (.slice a s.line.length c))) (by kernel_rfl) ?_ (fun hHeld => ?_)
  · first | exact ⟨d0, d1⟩ | assumption
  refine wpAnyH_take (i := 0) (oi := ({ dst := some 7, op := Go.Op.move (Go.Operand.tmp 0), type := 23, pos := "app.go:56", after := #[], guard := none } : Go.Oper)) (v := .pointer (some ⟨b, 0, none⟩)) rfl (by kernel_rfl) (by kernel_rfl) (by kernel_rfl) (fun _ _ _ h => h) (Or.inl ⟨by rfl, ?_⟩) (by assumption) ?_
  · intro wx hSw
    try dsimp only at hSw
    go_simp
    try with_reducible rfl
  try simp only [Act.put, List.setIfInBounds_toArray, List.set_cons_zero, List.set_cons_succ]
  refine wpAnyH_take (i := 1) (oi := ({ dst := some 8, op := Go.Op.nilCheck (Go.Operand.tmp 7), type := 0, pos := "app.go:56", after := #[{ on := 0, ground := Go.Ground.data }], guard := none } : Go.Oper)) (v := .pointer (some ⟨b, 0, none⟩)) rfl (by kernel_rfl) (by kernel_rfl) (by kernel_rfl) (fun _ _ _ h => h) (Or.inl ⟨by rfl, ?_⟩) (by assumption) ?_
  · intro wx hSw
    try dsimp only at hSw
    go_simp
    try with_reducible rfl
  try simp only [Act.put, List.setIfInBounds_toArray, List.set_cons_zero, List.set_cons_succ]
  refine wpAnyH_take (i := 2) (oi := ({ dst := some 9, op := Go.Op.fieldAddr 43 (Go.Operand.tmp 8) 0, type := 0, pos := "app.go:56", after := #[{ on := 1, ground := Go.Ground.data }], guard := none } : Go.Oper)) (v := .pointer (some ⟨b, 0, none⟩)) rfl (by kernel_rfl) (by kernel_rfl) (by kernel_rfl) (fun _ _ _ h => h) (Or.inl ⟨by rfl, ?_⟩) (by assumption) ?_
  · intro wx hSw
    try dsimp only at hSw
    go_simp
    try with_reducible rfl
  try simp only [Act.put, List.setIfInBounds_toArray, List.set_cons_zero, List.set_cons_succ]
  refine wpAnyH_take (i := 3) (oi := ({ dst := some 10, op := Go.Op.load 40 (Go.Operand.tmp 9), type := 40, pos := "app.go:56", after := #[{ on := 2, ground := Go.Ground.data }], guard := none } : Go.Oper)) (v := .map (some M)) rfl (by kernel_rfl) (by kernel_rfl) (by kernel_rfl) (fun _ _ _ h => h) (Or.inl ⟨by rfl, ?_⟩) (by assumption) ?_
  · intro wx hSw
    try dsimp only at hSw
    go_simp
    try with_reducible rfl
  try simp only [Act.put, List.setIfInBounds_toArray, List.set_cons_zero, List.set_cons_succ]
  refine wpAnyH_take (i := 5) (oi := ({ dst := some 12, op := Go.Op.move (Go.Operand.tmp 0), type := 23, pos := "app.go:56", after := #[], guard := none } : Go.Oper)) (v := .pointer (some ⟨b, 0, none⟩)) rfl (by kernel_rfl) (by kernel_rfl) (by kernel_rfl) (fun _ _ _ h => h) (Or.inl ⟨by rfl, ?_⟩) (by assumption) ?_
  · intro wx hSw
    try dsimp only at hSw
    go_simp
    try with_reducible rfl
  try simp only [Act.put, List.setIfInBounds_toArray, List.set_cons_zero, List.set_cons_succ]
  refine wpAnyH_take (i := 6) (oi := ({ dst := some 13, op := Go.Op.nilCheck (Go.Operand.tmp 12), type := 0, pos := "app.go:56", after := #[{ on := 5, ground := Go.Ground.data }], guard := none } : Go.Oper)) (v := .pointer (some ⟨b, 0, none⟩)) rfl (by kernel_rfl) (by kernel_rfl) (by kernel_rfl) (fun _ _ _ h => h) (Or.inl ⟨by rfl, ?_⟩) (by assumption) ?_
  · intro wx hSw
    try dsimp only at hSw
    go_simp
    try with_reducible rfl
  try simp only [Act.put, List.setIfInBounds_toArray, List.set_cons_zero, List.set_cons_succ]
  refine wpAnyH_take (i := 7) (oi := ({ dst := some 14, op := Go.Op.fieldAddr 43 (Go.Operand.tmp 13) 1, type := 0, pos := "app.go:56", after := #[{ on := 6, ground := Go.Ground.data }], guard := none } : Go.Oper)) (v := .pointer (some ⟨b, 1, none⟩)) rfl (by kernel_rfl) (by kernel_rfl) (by kernel_rfl) (fun _ _ _ h => h) (Or.inl ⟨by rfl, ?_⟩) (by assumption) ?_
  · intro wx hSw
    try dsimp only at hSw
    go_simp
    try with_reducible rfl
  try simp only [Act.put, List.setIfInBounds_toArray, List.set_cons_zero, List.set_cons_succ]
  refine wpAnyH_take (i := 8) (oi := ({ dst := some 15, op := Go.Op.load 41 (Go.Operand.tmp 14), type := 41, pos := "app.go:56", after := #[{ on := 7, ground := Go.Ground.data }], guard := none } : Go.Oper)) (v := .slice a s.line.length c) rfl (by kernel_rfl) (by kernel_rfl) (by kernel_rfl) (fun _ _ _ h => h) (Or.inl ⟨by rfl, ?_⟩) (by assumption) ?_
  · intro wx hSw
    try dsimp only at hSw
    go_simp
    try with_reducible rfl
  try simp only [Act.put, List.setIfInBounds_toArray, List.set_cons_zero, List.set_cons_succ]
  refine wpAnyH_ready (rs := [4]) (by kernel_rfl) (by simp) ?_
  refine AllReadyH.cons (o := ({ dst := some 11, op := Go.Op.call { callee := Go.Callee.value (Go.Operand.func 17), args := #[Go.Operand.tmp 10], argTypes := #[40] }, type := 40, pos := "app.go:56", after := #[{ on := 3, ground := Go.Ground.data }], guard := none } : Go.Oper)) rfl (fun K hK => ?_) AllReadyH.nil
  go_simp
  refine (clonem_any hv1).mono ?_
  rintro e w2 ⟨rfl, hM2, b2⟩
  have hsz1 : (w.alloc (.cells #[.map (some M), .slice a s.line.length c, .bool s.long, .bool s.over] 43)).drew.heap.size = w.heap.size + 1 := World.size_alloc _ _
  rw [hsz1] at hM2 ⊢
  refine hK.out _ _ ⟨later b2 hHeld.1, later b2 hHeld.2⟩ (fun hHeld => ?_)
  clear hK K
  try simp only [Act.put, List.setIfInBounds_toArray, List.set_cons_zero, List.set_cons_succ]
  refine wpAnyH_ready (rs := [9]) (by kernel_rfl) (by simp) ?_
  refine AllReadyH.cons (o := ({ dst := some 16, op := Go.Op.call { callee := Go.Callee.value (Go.Operand.func 18), args := #[Go.Operand.tmp 15], argTypes := #[41] }, type := 41, pos := "app.go:56", after := #[{ on := 8, ground := Go.Ground.data }, { on := 4, ground := Go.Ground.chain }], guard := none } : Go.Oper)) rfl (fun K hK => ?_) AllReadyH.nil
  go_simp
  refine (cloneb_any (ho1.later b2) hll).mono ?_
  rintro e w3 ⟨v3, rfl, hb3, b3⟩
  obtain ⟨a3, c3, rfl, -⟩ := hb3.shape
  refine hK.out _ _ ⟨later b3 hHeld.1, later b3 hHeld.2⟩ (fun hHeld => ?_)
  clear hK K
  try simp only [Act.put, List.setIfInBounds_toArray, List.set_cons_zero, List.set_cons_succ]
  refine wpAnyH_take (i := 10) (oi := ({ dst := some 17, op := Go.Op.fieldAddr 43 (Go.Operand.tmp 3) 0, type := 0, pos := "app.go:56", after := #[{ on := 0, ground := Go.Ground.phase }, { on := 1, ground := Go.Ground.phase }, { on := 2, ground := Go.Ground.phase }, { on := 3, ground := Go.Ground.phase }, { on := 4, ground := Go.Ground.phase }, { on := 5, ground := Go.Ground.textOnly Go.Departure.lateStores }, { on := 6, ground := Go.Ground.textOnly Go.Departure.lateStoresUnsure }, { on := 7, ground := Go.Ground.textOnly Go.Departure.lateStoresUnsure }, { on := 8, ground := Go.Ground.phase }, { on := 9, ground := Go.Ground.phase }], guard := none } : Go.Oper)) (v := .pointer (some ⟨w.heap.size, 0, none⟩)) rfl (by kernel_rfl) (by kernel_rfl) (by kernel_rfl) (fun _ _ _ h => h) (Or.inl ⟨by rfl, ?_⟩) (by assumption) ?_
  · intro wx hSw
    try dsimp only at hSw
    go_simp
    try with_reducible rfl
  try simp only [Act.put, List.setIfInBounds_toArray, List.set_cons_zero, List.set_cons_succ]
  refine wpAnyH_ready (rs := [11]) (by kernel_rfl) (by simp) ?_
  refine AllReadyH.cons (o := ({ dst := none, op := Go.Op.store 40 (Go.Operand.tmp 17) (Go.Operand.tmp 11), type := 0, pos := "app.go:56", after := #[{ on := 10, ground := Go.Ground.data }, { on := 4, ground := Go.Ground.data }, { on := 9, ground := Go.Ground.chain }, { on := 0, ground := Go.Ground.phase }, { on := 1, ground := Go.Ground.phase }, { on := 2, ground := Go.Ground.phase }, { on := 3, ground := Go.Ground.phase }, { on := 4, ground := Go.Ground.phase }, { on := 5, ground := Go.Ground.textOnly Go.Departure.lateStores }, { on := 6, ground := Go.Ground.textOnly Go.Departure.lateStoresUnsure }, { on := 7, ground := Go.Ground.textOnly Go.Departure.lateStoresUnsure }, { on := 8, ground := Go.Ground.phase }, { on := 9, ground := Go.Ground.phase }], guard := none } : Go.Oper)) rfl (fun K hK => ?_) AllReadyH.nil
  have b23 := bt b2 b3
  have hF3 := hF1.later b23
  have hs1 : w.heap.size < (w.alloc (.cells #[.map (some M), .slice a s.line.length c, .bool s.long, .bool s.over] 43)).drew.heap.size := hF1.1
  have hs2 := b2.size
  have hs3 := b3.size
  have hltz : w.heap.size < w3.heap.size := by omega
  obtain ⟨z0, z0f⟩ := hF3.2 0 _ rfl
  obtain ⟨y1, y1f⟩ := hF3.2 1 _ rfl
  have hne : ¬ b = w.heap.size := by omega
  have hF4 := hF3.set 0 (.map (some (w.heap.size + 1)))
  go_simp
  refine hK.out _ _ ⟨(World.cell?_setCell_other _ _ _ _ (by first | (intro e; omega) | (intro e; injection e with e; omega) | (intro e; simp at e; omega))).trans hHeld.1, (World.cell?_setCell_other _ _ _ _ (by first | (intro e; omega) | (intro e; injection e with e; omega) | (intro e; simp at e; omega))).trans hHeld.2⟩ (fun hHeld => ?_)
  clear hK K
  try simp only [Act.put, List.setIfInBounds_toArray, List.set_cons_zero, List.set_cons_succ]
  refine wpAnyH_take (i := 12) (oi := ({ dst := some 18, op := Go.Op.fieldAddr 43 (Go.Operand.tmp 3) 1, type := 0, pos := "app.go:56", after := #[{ on := 0, ground := Go.Ground.phase }, { on := 1, ground := Go.Ground.phase }, { on := 2, ground := Go.Ground.phase }, { on := 3, ground := Go.Ground.phase }, { on := 4, ground := Go.Ground.phase }, { on := 5, ground := Go.Ground.phase }, { on := 6, ground := Go.Ground.phase }, { on := 7, ground := Go.Ground.phase }, { on := 8, ground := Go.Ground.phase }, { on := 9, ground := Go.Ground.phase }, { on := 10, ground := Go.Ground.phase }, { on := 11, ground := Go.Ground.phase }], guard := none } : Go.Oper)) (v := .pointer (some ⟨w.heap.size, 1, none⟩)) rfl (by kernel_rfl) (by kernel_rfl) (by kernel_rfl) (fun _ _ _ h => h) (Or.inl ⟨by rfl, ?_⟩) (by assumption) ?_
  · intro wx hSw
    try dsimp only at hSw
    go_simp
    try with_reducible rfl
  try simp only [Act.put, List.setIfInBounds_toArray, List.set_cons_zero, List.set_cons_succ]
  refine wpAnyH_ready (rs := [13]) (by kernel_rfl) (by simp) ?_
  refine AllReadyH.cons (o := ({ dst := none, op := Go.Op.store 41 (Go.Operand.tmp 18) (Go.Operand.tmp 16), type := 0, pos := "app.go:56", after := #[{ on := 12, ground := Go.Ground.data }, { on := 9, ground := Go.Ground.data }, { on := 11, ground := Go.Ground.chain }, { on := 0, ground := Go.Ground.phase }, { on := 1, ground := Go.Ground.phase }, { on := 2, ground := Go.Ground.phase }, { on := 3, ground := Go.Ground.phase }, { on := 4, ground := Go.Ground.phase }, { on := 5, ground := Go.Ground.phase }, { on := 6, ground := Go.Ground.phase }, { on := 7, ground := Go.Ground.phase }, { on := 8, ground := Go.Ground.phase }, { on := 9, ground := Go.Ground.phase }, { on := 10, ground := Go.Ground.phase }, { on := 11, ground := Go.Ground.phase }], guard := none } : Go.Oper)) rfl (fun K hK => ?_) AllReadyH.nil
  obtain ⟨z1, z1f⟩ := hF4.2 1 _ rfl
  have hltz4 := hF4.1
  have hF5 := hF4.set 1 (.slice a3 s.line.length c3)
  go_simp
  have hH1 := hHeld.1
  have hH2 := hHeld.2
  refine hK.out _ _ ⟨?_, ?_⟩ (fun hHeld => ?_)
  · exact ((turn_set _ w.heap.size 1 _).cell (World.block_lt_of_cell? _ _ hH1) (fun e => hne e) 0).trans hH1
  · exact ((turn_set _ w.heap.size 1 _).cell (World.block_lt_of_cell? _ _ hH2) (fun e => hne e) 1).trans hH2
  clear hK K
  try simp only [Act.put, List.setIfInBounds_toArray, List.set_cons_zero, List.set_cons_succ]
  refine wpAnyH_done (by kernel_rfl) ?_ _
  have bd2 : Below w.heap.size w w3 := bt bd b23
  have ta := turn_set w3 w.heap.size 0 (.map (some (w.heap.size + 1)))
  have tb := turn_set (w3.setCell ⟨w.heap.size, 0, none⟩ (.map (some (w.heap.size + 1)))) w.heap.size 1 (.slice a3 s.line.length c3)
  have tt := ta.trans tb
  have HFIN : Hid (_ ∧ Below w.heap.size w ((w3.setCell ⟨w.heap.size, 0, none⟩ (.map (some (w.heap.size + 1)))).setCell ⟨w.heap.size, 1, none⟩ (.slice a3 s.line.length c3))) := And.intro (show ∃ A', SX ((w3.setCell ⟨w.heap.size, 0, none⟩ (.map (some (w.heap.size + 1)))).setCell ⟨w.heap.size, 1, none⟩ (.slice a3 s.line.length c3)) A' w.heap.size s ∧ ∀ k, A' k → w.heap.size ≤ k from by
    have hgb : ∀ k, (Value.slice a3 s.line.length c3).ownBlock = some k → w2.heap.size ≤ k ∧ k < w3.heap.size := fun k hk => by
      rcases hb3.2 with ⟨e, -⟩ | ⟨g, cap, cur, e, hg, hb, -⟩
      · rw [e] at hk; cases hk
      · rw [e] at hk; cases hk; exact ⟨hg, (Array.getElem?_eq_some_iff.1 hb).1⟩
    refine ⟨fun k => w.heap.size ≤ k ∧ k < w3.heap.size, ⟨w.heap.size + 1, .slice a3 s.line.length c3, hF5, (hM2.later b3).turn tt (fun e => by omega), (show BO w3 0 _ s.line from ⟨hb3.1, hb3.2.imp id (fun ⟨g, cap, cur, hv, hg, r⟩ => ⟨g, cap, cur, hv, Nat.zero_le _, r⟩)⟩).turn tt (fun k hk e => by have := hgb k hk; omega), ⟨Nat.le_refl _, by omega⟩, ⟨by omega, by have := hM2.lt; omega⟩, fun k hk => ?_, by omega, fun k hk => ?_, fun k hk => ?_⟩, fun k hk => hk.1⟩
    · have h1 := hgb k hk
      have := hM2.lt
      exact ⟨⟨by omega, h1.2⟩, by omega, by omega⟩
    · have := tt.size; omega
    · have := HLO.out; omega) (bd2.trans (tt.below (by omega) (fun k hk e => by omega)))
  clear hF5 hF4 hF3 hb3 hM2 ho1 hv1 tt ta tb hHeld z0 z1 z0f z1f y1 y1f
  go_wp2
  go_ret
  exact ⟨rfl, HFIN.out⟩
end
end Go.Proofs.YtadmpdeegnppjaaGreatDoor
