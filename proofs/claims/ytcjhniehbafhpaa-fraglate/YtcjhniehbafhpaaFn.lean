/- begin. -/
import Derived.Test.YtcjhniehbafhpaaFm
namespace Go.Proofs.Ytcjhniehbafhpaa
open Go.RowKit Go.Maps
set_option maxRecDepth 100000
set_option linter.unusedVariables false
set_option linter.unusedSimpArgs false

theorem op_store_at {op : Oper} {a : Act} {K : Act → World → Prop} {Q : Exit → Act → World → Prop} (ty : TypeId) (x y : Operand) (ho : op.op = .store ty x y) (w : World) (b : Nat) (old vs : Array Value) (hx : a.eval x = .pointer (some ⟨b, 0, none⟩)) (hy : a.eval y = .agg vs) (hA : At w b old) (hzs : old.size = vs.size) (hi : (Try.prog.info? ty).map (·.size) = some vs.size) (h1 : vs.all (·.oneCell') = true)
    (h : ∀ w', At w' b vs → Turn (fun k => k = b) w w' → K (a.put op.dst undef) w') : op.wp Try.prog a w K Q := by
  refine wp_store_mid ty x y ho b 0 vs hx hy (by rw [← hzs]; exact at_there hA) hi h1 ?_
  exact h _ (at_whole hA hzs) (turn_setCells b _ _ _)
theorem bel_drew (w : World) : Below w.heap.size w w.drew := (Below.refl _ _).drew
theorem below_turn {b n : Nat} {w w' : World} (h : Turn (fun k => k = b) w w') (hn : n ≤ b) (hw : n ≤ w.heap.size) : Below n w w' := h.below hw (fun k hk e => by omega)
theorem begin_any {w : World} {R B M : Nat} {ro pa la tu : Int} {l : List Pile} (h : BX w R B M ro pa la tu l) (h1 : 0 ≤ tu) (h2 : tu ≤ 1000000000) :
    Calls Try.prog 35 #[.pointer (some ⟨B, 0, none⟩)] w fun e w' => e = .returned (.agg #[.int .i64 la, .int .i64 (tu + 1), .slice none 0 0]) ∧ BX w' R B M ro pa la (tu + 1) l ∧ Turn (fun k => k = B) w w' := by
  have hb1 := bel1 w (.cells #[.int .i64 0, .int .i64 0, .slice none 0 0] 61)
  have hZ := At.box w #[.int .i64 0, .int .i64 0, .slice none 0 0] 61
  have h' := h.later hb1
  have hsz := h.rw'
  have hbl := h.box.1
  have hrl : ∀ x ∈ l, ∀ k, x.v.ownBlock = some k → k < w.heap.size := fun x hx k hk => (h.ok x hx).row.lt k hk
  obtain ⟨c3, f3⟩ := h'.box.2 3 _ rfl
  have hwr : IntKind.i64.wrap (tu + 1) = tu + 1 := by rw [IntKind.wrap_i64]; omega
  go_enter Try.func35, Try.ntmps35
  go_upto_region 1 with fail
  obtain ⟨zb, hzb⟩ : ∃ z, z = w.heap.size := ⟨_, rfl⟩
  rw [← hzb] at hZ hrl
  rw [← hzb]
  have hzB : B < zb := by omega
  have hRz : R ≤ zb := by omega
  generalize w.alloc (.cells #[.int .i64 0, .int .i64 0, .slice none 0 0] 61) = w1 at *
  go_upto_region 2 with fail
  have ht := turn_set w1 B 3 (.int .i64 (tu + 1))
  have hA : At (w1.setCell ⟨B, 3, none⟩ (.int .i64 (tu + 1))) B #[.int .i64 ro, .int .i64 pa, .int .i64 la, .int .i64 (tu + 1), .map (some M)] := h'.box.set 3 (.int .i64 (tu + 1))
  have hBX : BX (w1.setCell ⟨B, 3, none⟩ (.int .i64 (tu + 1))) R B M ro pa la (tu + 1) l := ⟨hA, h'.map.turn ht (fun e => h.ne e.symm), fun x hx => (h'.ok x hx).turn ht (fun k hk e => by have := (h.ok x hx).row.ge k hk; have := h.bR; omega), h.far, h.bR, h.mR, Nat.le_trans h'.rw' ht.size, h.ne⟩
  have hZ2 := hZ.turn ht (by omega)
  have htt : Turn (fun k => k = B) w (w1.setCell ⟨B, 3, none⟩ (.int .i64 (tu + 1))) := (Turn.of_below hb1).trans ht
  clear h h' c3 f3 hZ ht hA hb1
  generalize w1.setCell ⟨B, 3, none⟩ (.int .i64 (tu + 1)) = w2 at *
  have hf2 : ∀ W, Below zb w2 W → W.cell? ⟨B, 2, none⟩ = some (.int .i64 la) := fun W hW => (hW.cell hzB).trans (hBX.box.2 2 _ rfl).1
  have hf3 : ∀ W, Below zb w2 W → W.cell? ⟨B, 3, none⟩ = some (.int .i64 (tu + 1)) := fun W hW => (hW.cell hzB).trans (hBX.box.2 3 _ rfl).1
  refine wp_region_held_drew (S := (fun W => Below zb w2 W)) (by kernel_rfl) ?_ (fun hHeld => ?_)
  · first | exact (Below.refl _ _).drew | assumption
  refine wpAnyH_take (i := 0) (oi := ({ dst := some 10, op := Go.Op.move (Go.Operand.tmp 0), type := 23, pos := "frag.go:115", after := #[], guard := none } : Go.Oper)) (v := .pointer (some ⟨B, 0, none⟩)) rfl (by kernel_rfl) (by kernel_rfl) (by kernel_rfl) (fun _ _ _ h => h) (Or.inl ⟨by rfl, ?_⟩) (by assumption) ?_
  · intro wx hSw
    try dsimp only at hSw
    have u2 := hf2 wx hSw
    have u3 := hf3 wx hSw
    go_simp
    try with_reducible rfl
  try simp only [Act.put, List.setIfInBounds_toArray, List.set_cons_zero, List.set_cons_succ]
  refine wpAnyH_take (i := 1) (oi := ({ dst := some 11, op := Go.Op.nilCheck (Go.Operand.tmp 10), type := 0, pos := "frag.go:115", after := #[{ on := 0, ground := Go.Ground.data }], guard := none } : Go.Oper)) (v := .pointer (some ⟨B, 0, none⟩)) rfl (by kernel_rfl) (by kernel_rfl) (by kernel_rfl) (fun _ _ _ h => h) (Or.inl ⟨by rfl, ?_⟩) (by assumption) ?_
  · intro wx hSw
    try dsimp only at hSw
    have u2 := hf2 wx hSw
    have u3 := hf3 wx hSw
    go_simp
    try with_reducible rfl
  try simp only [Act.put, List.setIfInBounds_toArray, List.set_cons_zero, List.set_cons_succ]
  refine wpAnyH_take (i := 2) (oi := ({ dst := some 12, op := Go.Op.fieldAddr 56 (Go.Operand.tmp 11) 2, type := 0, pos := "frag.go:115", after := #[{ on := 1, ground := Go.Ground.data }], guard := none } : Go.Oper)) (v := .pointer (some ⟨B, 2, none⟩)) rfl (by kernel_rfl) (by kernel_rfl) (by kernel_rfl) (fun _ _ _ h => h) (Or.inl ⟨by rfl, ?_⟩) (by assumption) ?_
  · intro wx hSw
    try dsimp only at hSw
    have u2 := hf2 wx hSw
    have u3 := hf3 wx hSw
    go_simp
    try with_reducible rfl
  try simp only [Act.put, List.setIfInBounds_toArray, List.set_cons_zero, List.set_cons_succ]
  refine wpAnyH_take (i := 3) (oi := ({ dst := some 13, op := Go.Op.load 3 (Go.Operand.tmp 12), type := 3, pos := "frag.go:115", after := #[{ on := 2, ground := Go.Ground.data }], guard := none } : Go.Oper)) (v := .int .i64 la) rfl (by kernel_rfl) (by kernel_rfl) (by kernel_rfl) (fun _ _ _ h => h) (Or.inl ⟨by rfl, ?_⟩) (by assumption) ?_
  · intro wx hSw
    try dsimp only at hSw
    have u2 := hf2 wx hSw
    have u3 := hf3 wx hSw
    go_simp
    try with_reducible rfl
  try simp only [Act.put, List.setIfInBounds_toArray, List.set_cons_zero, List.set_cons_succ]
  refine wpAnyH_take (i := 4) (oi := ({ dst := some 14, op := Go.Op.move (Go.Operand.tmp 0), type := 23, pos := "frag.go:115", after := #[], guard := none } : Go.Oper)) (v := .pointer (some ⟨B, 0, none⟩)) rfl (by kernel_rfl) (by kernel_rfl) (by kernel_rfl) (fun _ _ _ h => h) (Or.inl ⟨by rfl, ?_⟩) (by assumption) ?_
  · intro wx hSw
    try dsimp only at hSw
    have u2 := hf2 wx hSw
    have u3 := hf3 wx hSw
    go_simp
    try with_reducible rfl
  try simp only [Act.put, List.setIfInBounds_toArray, List.set_cons_zero, List.set_cons_succ]
  refine wpAnyH_take (i := 5) (oi := ({ dst := some 15, op := Go.Op.nilCheck (Go.Operand.tmp 14), type := 0, pos := "frag.go:115", after := #[{ on := 4, ground := Go.Ground.data }], guard := none } : Go.Oper)) (v := .pointer (some ⟨B, 0, none⟩)) rfl (by kernel_rfl) (by kernel_rfl) (by kernel_rfl) (fun _ _ _ h => h) (Or.inl ⟨by rfl, ?_⟩) (by assumption) ?_
  · intro wx hSw
    try dsimp only at hSw
    have u2 := hf2 wx hSw
    have u3 := hf3 wx hSw
    go_simp
    try with_reducible rfl
  try simp only [Act.put, List.setIfInBounds_toArray, List.set_cons_zero, List.set_cons_succ]
  refine wpAnyH_take (i := 6) (oi := ({ dst := some 16, op := Go.Op.fieldAddr 56 (Go.Operand.tmp 15) 3, type := 0, pos := "frag.go:115", after := #[{ on := 5, ground := Go.Ground.data }], guard := none } : Go.Oper)) (v := .pointer (some ⟨B, 3, none⟩)) rfl (by kernel_rfl) (by kernel_rfl) (by kernel_rfl) (fun _ _ _ h => h) (Or.inl ⟨by rfl, ?_⟩) (by assumption) ?_
  · intro wx hSw
    try dsimp only at hSw
    have u2 := hf2 wx hSw
    have u3 := hf3 wx hSw
    go_simp
    try with_reducible rfl
  try simp only [Act.put, List.setIfInBounds_toArray, List.set_cons_zero, List.set_cons_succ]
  refine wpAnyH_take (i := 7) (oi := ({ dst := some 17, op := Go.Op.load 3 (Go.Operand.tmp 16), type := 3, pos := "frag.go:115", after := #[{ on := 6, ground := Go.Ground.data }], guard := none } : Go.Oper)) (v := .int .i64 (tu + 1)) rfl (by kernel_rfl) (by kernel_rfl) (by kernel_rfl) (fun _ _ _ h => h) (Or.inl ⟨by rfl, ?_⟩) (by assumption) ?_
  · intro wx hSw
    try dsimp only at hSw
    have u2 := hf2 wx hSw
    have u3 := hf3 wx hSw
    go_simp
    try with_reducible rfl
  try simp only [Act.put, List.setIfInBounds_toArray, List.set_cons_zero, List.set_cons_succ]
  refine wpAnyH_take (i := 8) (oi := ({ dst := some 18, op := Go.Op.build 61 #[(0, Go.Operand.tmp 13), (1, Go.Operand.tmp 17)], type := 61, pos := "frag.go:115", after := #[{ on := 3, ground := Go.Ground.data }, { on := 7, ground := Go.Ground.data }], guard := none } : Go.Oper)) (v := .agg #[.int .i64 la, .int .i64 (tu + 1), .slice none 0 0]) rfl (by kernel_rfl) (by kernel_rfl) (by kernel_rfl) (fun _ _ _ h => h) (Or.inl ⟨by rfl, ?_⟩) (by assumption) ?_
  · intro wx hSw
    try dsimp only at hSw
    have u2 := hf2 wx hSw
    have u3 := hf3 wx hSw
    go_simp
    try with_reducible rfl
  try simp only [Act.put, List.setIfInBounds_toArray, List.set_cons_zero, List.set_cons_succ]
  refine wpAnyH_ready (rs := [9]) (by kernel_rfl) (by simp) ?_
  refine AllReadyH.cons (o := ({ dst := none, op := Go.Op.store 61 (Go.Operand.tmp 2) (Go.Operand.tmp 18), type := 0, pos := "frag.go:115", after := #[{ on := 8, ground := Go.Ground.data }, { on := 0, ground := Go.Ground.phase }, { on := 1, ground := Go.Ground.phase }, { on := 2, ground := Go.Ground.phase }, { on := 3, ground := Go.Ground.phase }, { on := 4, ground := Go.Ground.phase }, { on := 5, ground := Go.Ground.phase }, { on := 6, ground := Go.Ground.phase }, { on := 7, ground := Go.Ground.phase }, { on := 8, ground := Go.Ground.phase }], guard := none } : Go.Oper)) rfl (fun K hK => ?_) AllReadyH.nil
  rw [if_pos (by rfl)]
  refine op_store_at 61 _ _ rfl _ zb #[.int .i64 0, .int .i64 0, .slice none 0 0] #[.int .i64 la, .int .i64 (tu + 1), .slice none 0 0] rfl rfl (hZ2.later (bel_drew w2)) rfl infoX (by simp [Value.oneCell']) ?_
  intro w3 hZ3 ht3
  have hb3 : Below zb w2 w3 := hHeld.trans (below_turn ht3 (Nat.le_refl _) (Nat.le_of_lt hZ2.1))
  refine hK.out _ _ hb3 (fun hHeld => ?_)
  clear hK K
  try simp only [Act.put, List.setIfInBounds_toArray, List.set_cons_zero, List.set_cons_succ]
  refine wpAnyH_done (by kernel_rfl) ?_ _
  have r0 := (hZ3.2 0 _ rfl).1
  have r1 := (hZ3.2 1 _ rfl).1
  have r2 := (hZ3.2 2 _ rfl).1
  have hBX3 := hBX.turn (ht3.undrew) (by omega) (by have := hBX.mR; omega) (fun x hx k hk e => by have := hrl x hx k hk; omega)
  go_wp2
  exact bodyPost_ret (v := .agg #[.int .i64 la, .int .i64 (tu + 1), .slice none 0 0]) (by simp [results, Try.results35, go_sem, r0, r1, r2]) rfl ⟨rfl, hBX3, htt.step ht3.undrew (fun k e => Or.inr (by omega))⟩
end Go.Proofs.Ytcjhniehbafhpaa
