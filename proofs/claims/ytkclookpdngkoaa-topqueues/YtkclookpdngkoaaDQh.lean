/- hole, Hole. -/
import Derived.Test.YtkclookpdngkoaaDQg
namespace Go.Proofs.Ytkclookpdngkoaa.S
open Go.RowKit Go.Maps Go.Lib
set_option maxRecDepth 100000
set_option linter.unusedVariables false
set_option linter.unusedSimpArgs false


def holeL (Q : Qu) : Pt := match Q.ps with
  | [] => (0, Q.sent)
  | x :: r => if x.1 = 0 then (x.2, match r with
    | [] => Q.sent
    | y :: _ => y.1) else (0, x.1)
abbrev HZ : Array Value := #[.int .i64 0, .int .i64 0]
abbrev HV (f t : Nat) : Array Value := #[.int .i64 (f : Int), .int .i64 (t : Int)]
set_option maxHeartbeats 1000000 in
theorem hole_nil {w : World} {R : Bk} {q : Nat} {room left : Int} {sent : Nat} {bs : List UInt8}  {vb vp : Value} (h : QX w R q ⟨room, left, sent, bs, []⟩ vb vp) (hf : Qu.Fine ⟨room, left, sent, bs, []⟩)  :
    Calls Try.prog 20 #[PQ q] w fun e w' => e = .returned (.agg (HV 0 sent)) ∧ Below w.heap.size w w' := by
  have hln : ([] : List Pt).length ≤ 65536 := by have := psOk_len hf.ok; have := hf.sn; have := hf.ln; have := hf.r1; dsimp only at *; omega
  have hs1 : (sent : Int) ≤ 65536 := by have := hf.sn; have := hf.ln; have := hf.r1; dsimp only at *; omega
  obtain ⟨a, c, rfl, h0, hcl, hcz⟩ := h.po.shape
  dsimp only [List.length_nil, List.length_cons] at hcl h hln
  have hb0 := bel1 w (.cells HZ 58)
  have h1 := h.later hb0
  obtain ⟨⟨c0, c1, c2, c3, c4⟩, -⟩ := h1.at5.five
  have hA0 := At.box w HZ 58
  dsimp only at c2 c4
  clear hf
  go_enter Try.func20, Try.ntmps20
  go_upto_region 1 with fail
  have hgz : q < w.heap.size := h.at5.1
  generalize hz0 : w.heap.size = z0 at hA0 hb0 hgz ⊢
  generalize hw1 : w.alloc (.cells HZ 58) = w1 at *
  have hsz1 : w1.heap.size = z0 + 1 := by rw [← hw1, World.size_alloc, hz0]
  have hd2 : ∀ W, Below w1.heap.size w1 W → W.cell? ⟨q, 2, none⟩ = some (.int .i64 (sent : Int)) := fun W hW => later hW c2
  have hd4 : ∀ W, Below w1.heap.size w1 W → W.cell? ⟨q, 4, none⟩ = some (.slice a 0 c) := fun W hW => later hW c4
  refine wp_region_held_drew (S := (fun W => Below w1.heap.size w1 W)) (by kernel_rfl) ?_ (fun hHeld => ?_)
  · first | exact (Below.refl _ _).drew | assumption
  refine wpAnyH_take (i := 0) (oi := ({ dst := some 5, op := Go.Op.move (Go.Operand.tmp 0), type := 24, pos := "sendq.go:131", after := #[], guard := none } : Go.Oper)) (v := .pointer (some ⟨q, 0, none⟩)) rfl (by kernel_rfl) (by kernel_rfl) (by kernel_rfl) (fun _ _ _ h => h) (Or.inl ⟨by rfl, ?_⟩) (by assumption) ?_
  · intro wx hSw
    try dsimp only at hSw
    have u2 := hd2 wx hSw
    have u4 := hd4 wx hSw
    go_simp
    try with_reducible rfl
  try simp only [Act.put, List.setIfInBounds_toArray, List.set_cons_zero, List.set_cons_succ]
  refine wpAnyH_take (i := 1) (oi := ({ dst := some 6, op := Go.Op.nilCheck (Go.Operand.tmp 5), type := 0, pos := "sendq.go:131", after := #[{ on := 0, ground := Go.Ground.data }], guard := none } : Go.Oper)) (v := .pointer (some ⟨q, 0, none⟩)) rfl (by kernel_rfl) (by kernel_rfl) (by kernel_rfl) (fun _ _ _ h => h) (Or.inl ⟨by rfl, ?_⟩) (by assumption) ?_
  · intro wx hSw
    try dsimp only at hSw
    have u2 := hd2 wx hSw
    have u4 := hd4 wx hSw
    go_simp
    try with_reducible rfl
  try simp only [Act.put, List.setIfInBounds_toArray, List.set_cons_zero, List.set_cons_succ]
  refine wpAnyH_take (i := 2) (oi := ({ dst := some 7, op := Go.Op.fieldAddr 53 (Go.Operand.tmp 6) 2, type := 0, pos := "sendq.go:131", after := #[{ on := 1, ground := Go.Ground.data }], guard := none } : Go.Oper)) (v := .pointer (some ⟨q, 2, none⟩)) rfl (by kernel_rfl) (by kernel_rfl) (by kernel_rfl) (fun _ _ _ h => h) (Or.inl ⟨by rfl, ?_⟩) (by assumption) ?_
  · intro wx hSw
    try dsimp only at hSw
    have u2 := hd2 wx hSw
    have u4 := hd4 wx hSw
    go_simp
    try with_reducible rfl
  try simp only [Act.put, List.setIfInBounds_toArray, List.set_cons_zero, List.set_cons_succ]
  refine wpAnyH_take (i := 3) (oi := ({ dst := some 8, op := Go.Op.load 3 (Go.Operand.tmp 7), type := 3, pos := "sendq.go:131", after := #[{ on := 2, ground := Go.Ground.data }], guard := none } : Go.Oper)) (v := .int .i64 (sent : Int)) rfl (by kernel_rfl) (by kernel_rfl) (by kernel_rfl) (fun _ _ _ h => h) (Or.inl ⟨by rfl, ?_⟩) (by assumption) ?_
  · intro wx hSw
    try dsimp only at hSw
    have u2 := hd2 wx hSw
    have u4 := hd4 wx hSw
    go_simp
    try with_reducible rfl
  try simp only [Act.put, List.setIfInBounds_toArray, List.set_cons_zero, List.set_cons_succ]
  refine wpAnyH_take (i := 4) (oi := ({ dst := some 9, op := Go.Op.build 58 #[(0, Go.Operand.const (Go.Value.int Go.IntKind.i64 0)), (1, Go.Operand.tmp 8)], type := 58, pos := "sendq.go:131", after := #[{ on := 3, ground := Go.Ground.data }], guard := none } : Go.Oper)) (v := .agg #[.int .i64 0, .int .i64 (sent : Int)]) rfl (by kernel_rfl) (by kernel_rfl) (by kernel_rfl) (fun _ _ _ h => h) (Or.inl ⟨by rfl, ?_⟩) (by assumption) ?_
  · intro wx hSw
    try dsimp only at hSw
    have u2 := hd2 wx hSw
    have u4 := hd4 wx hSw
    go_simp
    try with_reducible rfl
  try simp only [Act.put, List.setIfInBounds_toArray, List.set_cons_zero, List.set_cons_succ]
  refine wpAnyH_take (i := 5) (oi := ({ dst := some 10, op := Go.Op.move (Go.Operand.tmp 0), type := 24, pos := "sendq.go:131", after := #[{ on := 10, ground := Go.Ground.gcOnly Go.Departure.lateStores }], guard := none } : Go.Oper)) (v := .pointer (some ⟨q, 0, none⟩)) rfl (by kernel_rfl) (by kernel_rfl) (by kernel_rfl) (fun _ _ _ h => h) (Or.inl ⟨by rfl, ?_⟩) (by assumption) ?_
  · intro wx hSw
    try dsimp only at hSw
    have u2 := hd2 wx hSw
    have u4 := hd4 wx hSw
    go_simp
    try with_reducible rfl
  try simp only [Act.put, List.setIfInBounds_toArray, List.set_cons_zero, List.set_cons_succ]
  refine wpAnyH_take (i := 6) (oi := ({ dst := some 11, op := Go.Op.nilCheck (Go.Operand.tmp 10), type := 0, pos := "sendq.go:131", after := #[{ on := 5, ground := Go.Ground.data }, { on := 10, ground := Go.Ground.gcOnly Go.Departure.lateStores }], guard := none } : Go.Oper)) (v := .pointer (some ⟨q, 0, none⟩)) rfl (by kernel_rfl) (by kernel_rfl) (by kernel_rfl) (fun _ _ _ h => h) (Or.inl ⟨by rfl, ?_⟩) (by assumption) ?_
  · intro wx hSw
    try dsimp only at hSw
    have u2 := hd2 wx hSw
    have u4 := hd4 wx hSw
    go_simp
    try with_reducible rfl
  try simp only [Act.put, List.setIfInBounds_toArray, List.set_cons_zero, List.set_cons_succ]
  refine wpAnyH_take (i := 7) (oi := ({ dst := some 12, op := Go.Op.fieldAddr 53 (Go.Operand.tmp 11) 4, type := 0, pos := "sendq.go:131", after := #[{ on := 6, ground := Go.Ground.data }, { on := 10, ground := Go.Ground.gcOnly Go.Departure.lateStores }], guard := none } : Go.Oper)) (v := .pointer (some ⟨q, 4, none⟩)) rfl (by kernel_rfl) (by kernel_rfl) (by kernel_rfl) (fun _ _ _ h => h) (Or.inl ⟨by rfl, ?_⟩) (by assumption) ?_
  · intro wx hSw
    try dsimp only at hSw
    have u2 := hd2 wx hSw
    have u4 := hd4 wx hSw
    go_simp
    try with_reducible rfl
  try simp only [Act.put, List.setIfInBounds_toArray, List.set_cons_zero, List.set_cons_succ]
  refine wpAnyH_take (i := 8) (oi := ({ dst := some 13, op := Go.Op.load 51 (Go.Operand.tmp 12), type := 51, pos := "sendq.go:131", after := #[{ on := 7, ground := Go.Ground.data }, { on := 10, ground := Go.Ground.gcOnly Go.Departure.lateStores }], guard := none } : Go.Oper)) (v := .slice a 0 c) rfl (by kernel_rfl) (by kernel_rfl) (by kernel_rfl) (fun _ _ _ h => h) (Or.inl ⟨by rfl, ?_⟩) (by assumption) ?_
  · intro wx hSw
    try dsimp only at hSw
    have u2 := hd2 wx hSw
    have u4 := hd4 wx hSw
    go_simp
    try with_reducible rfl
  try simp only [Act.put, List.setIfInBounds_toArray, List.set_cons_zero, List.set_cons_succ]
  refine wpAnyH_ready (rs := [9]) (by kernel_rfl) (by simp) ?_
  refine AllReadyH.cons (o := ({ dst := some 3, op := Go.Op.alloc 58, type := 0, pos := "sendq.go:131", after := #[], guard := none } : Go.Oper)) rfl (fun K hK => ?_) AllReadyH.nil
  go_simp
  refine hK.out _ _ ((bel1 _ _).drew) (fun hHeld => ?_)
  clear hK K
  try simp only [Act.put, List.setIfInBounds_toArray, List.set_cons_zero, List.set_cons_succ]
  refine wpAnyH_ready (rs := [10]) (by kernel_rfl) (by simp) ?_
  refine AllReadyH.cons (o := ({ dst := none, op := Go.Op.store 58 (Go.Operand.tmp 3) (Go.Operand.tmp 9), type := 0, pos := "sendq.go:131", after := #[{ on := 9, ground := Go.Ground.data }, { on := 4, ground := Go.Ground.data }, { on := 0, ground := Go.Ground.phase }, { on := 1, ground := Go.Ground.phase }, { on := 2, ground := Go.Ground.phase }, { on := 3, ground := Go.Ground.phase }, { on := 4, ground := Go.Ground.phase }, { on := 5, ground := Go.Ground.textOnly Go.Departure.lateStores }, { on := 6, ground := Go.Ground.textOnly Go.Departure.lateStores }, { on := 7, ground := Go.Ground.textOnly Go.Departure.lateStores }, { on := 8, ground := Go.Ground.textOnly Go.Departure.lateStores }, { on := 9, ground := Go.Ground.phase }], guard := none } : Go.Oper)) rfl (fun K hK => ?_) AllReadyH.nil
  go_simp
  refine hK.out _ _ ((bel1 _ _).drew) (fun hHeld => ?_)
  clear hK K
  try simp only [Act.put, List.setIfInBounds_toArray, List.set_cons_zero, List.set_cons_succ]
  refine wpAnyH_take (i := 11) (oi := ({ dst := some 4, op := Go.Op.assign (Go.Operand.tmp 13), type := 51, pos := "sendq.go:131", after := #[{ on := 8, ground := Go.Ground.data }, { on := 10, ground := Go.Ground.chain }, { on := 0, ground := Go.Ground.phase }, { on := 1, ground := Go.Ground.phase }, { on := 2, ground := Go.Ground.phase }, { on := 3, ground := Go.Ground.phase }, { on := 4, ground := Go.Ground.phase }, { on := 5, ground := Go.Ground.phase }, { on := 6, ground := Go.Ground.phase }, { on := 7, ground := Go.Ground.phase }, { on := 8, ground := Go.Ground.phase }, { on := 9, ground := Go.Ground.phase }, { on := 10, ground := Go.Ground.phase }], guard := none } : Go.Oper)) (v := .slice a 0 c) rfl (by kernel_rfl) (by kernel_rfl) (by kernel_rfl) (fun _ _ _ h => h) (Or.inl ⟨by rfl, ?_⟩) (by assumption) ?_
  · intro wx hSw
    try dsimp only at hSw
    have u2 := hd2 wx hSw
    have u4 := hd4 wx hSw
    go_simp
    try with_reducible rfl
  try simp only [Act.put, List.setIfInBounds_toArray, List.set_cons_zero, List.set_cons_succ]
  refine wpAnyH_done (by kernel_rfl) ?_ _
  have hb2 : Below w1.heap.size w1 (w1.alloc (.cells (HV 0 sent) 58)).drew := (bel1 w1 (.cells (HV 0 sent) 58)).drew
  have h2 := h1.later hb2
  have hA2 : At (w1.alloc (.cells (HV 0 sent) 58)).drew (z0 + 1) (HV 0 sent) := by rw [← hsz1]; exact (At.box w1 (HV 0 sent) 58).later (Below.refl _ _).drew
  have hA02 := hA0.later hb2
  have hbw : Below z0 w (w1.alloc (.cells (HV 0 sent) 58)).drew := hb0.trans (hb2.mono (by omega))
  have hsz2 : z0 + 1 < (w1.alloc (.cells (HV 0 sent) 58)).drew.heap.size := hA2.1
  have e2 : (w1.alloc (Obj.cells #[Value.int .i64 0, Value.int .i64 (sent : Int)] 58)).drew = (w1.alloc (.cells (HV 0 sent) 58)).drew := rfl
  try rw [e2]
  clear e2
  generalize (w1.alloc (.cells (HV 0 sent) 58)).drew = w2 at *
  have z00 := hA02.2 0 _ rfl
  have z01 := hA02.2 1 _ rfl
  have z10 := hA2.2 0 _ rfl
  have z11 := hA2.2 1 _ rfl
  obtain ⟨z00a, z00b⟩ := z00
  obtain ⟨z01a, z01b⟩ := z01
  obtain ⟨z10a, z10b⟩ := z10
  obtain ⟨z11a, z11b⟩ := z11
  go_wp2
  have hR := ((hA02.set 0 (.int .i64 ((0) : Int))).set 1 (.int .i64 ((sent) : Int)))
  have r0 := (hR.2 0 _ rfl).1
  have r1 := (hR.2 1 _ rfl).1
  exact bodyPost_ret (v := .agg (HV (0) (sent))) (by simp [results, Try.results20, go_sem, r0, r1]) rfl ⟨rfl, (hbw).trans (((turn_set _ z0 0 (.int .i64 ((0) : Int))).trans (turn_set _ z0 1 (.int .i64 ((sent) : Int)))).below (by first | omega | (simp; omega)) (fun k hk e => by omega))⟩
set_option maxHeartbeats 1000000 in
theorem hole_from {w : World} {R : Bk} {q : Nat} {room left : Int} {sent : Nat} {bs : List UInt8} {x : Pt} {r : List Pt} {vb vp : Value} (h : QX w R q ⟨room, left, sent, bs, (x :: r)⟩ vb vp) (hf : Qu.Fine ⟨room, left, sent, bs, (x :: r)⟩) (hx : x.1 ≠ 0) :
    Calls Try.prog 20 #[PQ q] w fun e w' => e = .returned (.agg (HV 0 x.1)) ∧ Below w.heap.size w w' := by
  have hln : ((x :: r) : List Pt).length ≤ 65536 := by have := psOk_len hf.ok; have := hf.sn; have := hf.ln; have := hf.r1; dsimp only at *; omega
  have hs1 : (sent : Int) ≤ 65536 := by have := hf.sn; have := hf.ln; have := hf.r1; dsimp only at *; omega
  obtain ⟨a, c, rfl, h0, hcl, hcz⟩ := h.po.shape
  obtain ⟨g, rfl⟩ : ∃ g, a = some ⟨g, 0, none⟩ := by
    rcases h.po.2 with ⟨e, -⟩ | ⟨g, cap, cur, hv, -⟩
    · cases e
    · cases hv; exact ⟨g, rfl⟩
  dsimp only [List.length_nil, List.length_cons] at hcl h hln
  have hgw : g < w.heap.size := (row_kd h.po g rfl).2.lt
  have hb0 := bel1 w (.cells HZ 58)
  have h1 := h.later hb0
  obtain ⟨⟨c0, c1, c2, c3, c4⟩, -⟩ := h1.at5.five
  have hA0 := At.box w HZ 58
  dsimp only at c2 c4
  clear hf
  go_enter Try.func20, Try.ntmps20
  go_upto_region 1 with fail
  have hgz : q < w.heap.size := h.at5.1
  generalize hz0 : w.heap.size = z0 at hA0 hb0 hgz ⊢
  generalize hw1 : w.alloc (.cells HZ 58) = w1 at *
  have hsz1 : w1.heap.size = z0 + 1 := by rw [← hw1, World.size_alloc, hz0]
  have hd2 : ∀ W, Below w1.heap.size w1 W → W.cell? ⟨q, 2, none⟩ = some (.int .i64 (sent : Int)) := fun W hW => later hW c2
  have hd4 : ∀ W, Below w1.heap.size w1 W → W.cell? ⟨q, 4, none⟩ = some (.slice (some ⟨g, 0, none⟩) (r.length + 1) c) := fun W hW => later hW c4
  refine wp_region_held_drew (S := (fun W => Below w1.heap.size w1 W)) (by kernel_rfl) ?_ (fun hHeld => ?_)
  · first | exact (Below.refl _ _).drew | assumption
  refine wpAnyH_take (i := 0) (oi := ({ dst := some 5, op := Go.Op.move (Go.Operand.tmp 0), type := 24, pos := "sendq.go:131", after := #[], guard := none } : Go.Oper)) (v := .pointer (some ⟨q, 0, none⟩)) rfl (by kernel_rfl) (by kernel_rfl) (by kernel_rfl) (fun _ _ _ h => h) (Or.inl ⟨by rfl, ?_⟩) (by assumption) ?_
  · intro wx hSw
    try dsimp only at hSw
    have u2 := hd2 wx hSw
    have u4 := hd4 wx hSw
    go_simp
    try with_reducible rfl
  try simp only [Act.put, List.setIfInBounds_toArray, List.set_cons_zero, List.set_cons_succ]
  refine wpAnyH_take (i := 1) (oi := ({ dst := some 6, op := Go.Op.nilCheck (Go.Operand.tmp 5), type := 0, pos := "sendq.go:131", after := #[{ on := 0, ground := Go.Ground.data }], guard := none } : Go.Oper)) (v := .pointer (some ⟨q, 0, none⟩)) rfl (by kernel_rfl) (by kernel_rfl) (by kernel_rfl) (fun _ _ _ h => h) (Or.inl ⟨by rfl, ?_⟩) (by assumption) ?_
  · intro wx hSw
    try dsimp only at hSw
    have u2 := hd2 wx hSw
    have u4 := hd4 wx hSw
    go_simp
    try with_reducible rfl
  try simp only [Act.put, List.setIfInBounds_toArray, List.set_cons_zero, List.set_cons_succ]
  refine wpAnyH_take (i := 2) (oi := ({ dst := some 7, op := Go.Op.fieldAddr 53 (Go.Operand.tmp 6) 2, type := 0, pos := "sendq.go:131", after := #[{ on := 1, ground := Go.Ground.data }], guard := none } : Go.Oper)) (v := .pointer (some ⟨q, 2, none⟩)) rfl (by kernel_rfl) (by kernel_rfl) (by kernel_rfl) (fun _ _ _ h => h) (Or.inl ⟨by rfl, ?_⟩) (by assumption) ?_
  · intro wx hSw
    try dsimp only at hSw
    have u2 := hd2 wx hSw
    have u4 := hd4 wx hSw
    go_simp
    try with_reducible rfl
  try simp only [Act.put, List.setIfInBounds_toArray, List.set_cons_zero, List.set_cons_succ]
  refine wpAnyH_take (i := 3) (oi := ({ dst := some 8, op := Go.Op.load 3 (Go.Operand.tmp 7), type := 3, pos := "sendq.go:131", after := #[{ on := 2, ground := Go.Ground.data }], guard := none } : Go.Oper)) (v := .int .i64 (sent : Int)) rfl (by kernel_rfl) (by kernel_rfl) (by kernel_rfl) (fun _ _ _ h => h) (Or.inl ⟨by rfl, ?_⟩) (by assumption) ?_
  · intro wx hSw
    try dsimp only at hSw
    have u2 := hd2 wx hSw
    have u4 := hd4 wx hSw
    go_simp
    try with_reducible rfl
  try simp only [Act.put, List.setIfInBounds_toArray, List.set_cons_zero, List.set_cons_succ]
  refine wpAnyH_take (i := 4) (oi := ({ dst := some 9, op := Go.Op.build 58 #[(0, Go.Operand.const (Go.Value.int Go.IntKind.i64 0)), (1, Go.Operand.tmp 8)], type := 58, pos := "sendq.go:131", after := #[{ on := 3, ground := Go.Ground.data }], guard := none } : Go.Oper)) (v := .agg #[.int .i64 0, .int .i64 (sent : Int)]) rfl (by kernel_rfl) (by kernel_rfl) (by kernel_rfl) (fun _ _ _ h => h) (Or.inl ⟨by rfl, ?_⟩) (by assumption) ?_
  · intro wx hSw
    try dsimp only at hSw
    have u2 := hd2 wx hSw
    have u4 := hd4 wx hSw
    go_simp
    try with_reducible rfl
  try simp only [Act.put, List.setIfInBounds_toArray, List.set_cons_zero, List.set_cons_succ]
  refine wpAnyH_take (i := 5) (oi := ({ dst := some 10, op := Go.Op.move (Go.Operand.tmp 0), type := 24, pos := "sendq.go:131", after := #[{ on := 10, ground := Go.Ground.gcOnly Go.Departure.lateStores }], guard := none } : Go.Oper)) (v := .pointer (some ⟨q, 0, none⟩)) rfl (by kernel_rfl) (by kernel_rfl) (by kernel_rfl) (fun _ _ _ h => h) (Or.inl ⟨by rfl, ?_⟩) (by assumption) ?_
  · intro wx hSw
    try dsimp only at hSw
    have u2 := hd2 wx hSw
    have u4 := hd4 wx hSw
    go_simp
    try with_reducible rfl
  try simp only [Act.put, List.setIfInBounds_toArray, List.set_cons_zero, List.set_cons_succ]
  refine wpAnyH_take (i := 6) (oi := ({ dst := some 11, op := Go.Op.nilCheck (Go.Operand.tmp 10), type := 0, pos := "sendq.go:131", after := #[{ on := 5, ground := Go.Ground.data }, { on := 10, ground := Go.Ground.gcOnly Go.Departure.lateStores }], guard := none } : Go.Oper)) (v := .pointer (some ⟨q, 0, none⟩)) rfl (by kernel_rfl) (by kernel_rfl) (by kernel_rfl) (fun _ _ _ h => h) (Or.inl ⟨by rfl, ?_⟩) (by assumption) ?_
  · intro wx hSw
    try dsimp only at hSw
    have u2 := hd2 wx hSw
    have u4 := hd4 wx hSw
    go_simp
    try with_reducible rfl
  try simp only [Act.put, List.setIfInBounds_toArray, List.set_cons_zero, List.set_cons_succ]
  refine wpAnyH_take (i := 7) (oi := ({ dst := some 12, op := Go.Op.fieldAddr 53 (Go.Operand.tmp 11) 4, type := 0, pos := "sendq.go:131", after := #[{ on := 6, ground := Go.Ground.data }, { on := 10, ground := Go.Ground.gcOnly Go.Departure.lateStores }], guard := none } : Go.Oper)) (v := .pointer (some ⟨q, 4, none⟩)) rfl (by kernel_rfl) (by kernel_rfl) (by kernel_rfl) (fun _ _ _ h => h) (Or.inl ⟨by rfl, ?_⟩) (by assumption) ?_
  · intro wx hSw
    try dsimp only at hSw
    have u2 := hd2 wx hSw
    have u4 := hd4 wx hSw
    go_simp
    try with_reducible rfl
  try simp only [Act.put, List.setIfInBounds_toArray, List.set_cons_zero, List.set_cons_succ]
  refine wpAnyH_take (i := 8) (oi := ({ dst := some 13, op := Go.Op.load 51 (Go.Operand.tmp 12), type := 51, pos := "sendq.go:131", after := #[{ on := 7, ground := Go.Ground.data }, { on := 10, ground := Go.Ground.gcOnly Go.Departure.lateStores }], guard := none } : Go.Oper)) (v := .slice (some ⟨g, 0, none⟩) (r.length + 1) c) rfl (by kernel_rfl) (by kernel_rfl) (by kernel_rfl) (fun _ _ _ h => h) (Or.inl ⟨by rfl, ?_⟩) (by assumption) ?_
  · intro wx hSw
    try dsimp only at hSw
    have u2 := hd2 wx hSw
    have u4 := hd4 wx hSw
    go_simp
    try with_reducible rfl
  try simp only [Act.put, List.setIfInBounds_toArray, List.set_cons_zero, List.set_cons_succ]
  refine wpAnyH_ready (rs := [9]) (by kernel_rfl) (by simp) ?_
  refine AllReadyH.cons (o := ({ dst := some 3, op := Go.Op.alloc 58, type := 0, pos := "sendq.go:131", after := #[], guard := none } : Go.Oper)) rfl (fun K hK => ?_) AllReadyH.nil
  go_simp
  refine hK.out _ _ ((bel1 _ _).drew) (fun hHeld => ?_)
  clear hK K
  try simp only [Act.put, List.setIfInBounds_toArray, List.set_cons_zero, List.set_cons_succ]
  refine wpAnyH_ready (rs := [10]) (by kernel_rfl) (by simp) ?_
  refine AllReadyH.cons (o := ({ dst := none, op := Go.Op.store 58 (Go.Operand.tmp 3) (Go.Operand.tmp 9), type := 0, pos := "sendq.go:131", after := #[{ on := 9, ground := Go.Ground.data }, { on := 4, ground := Go.Ground.data }, { on := 0, ground := Go.Ground.phase }, { on := 1, ground := Go.Ground.phase }, { on := 2, ground := Go.Ground.phase }, { on := 3, ground := Go.Ground.phase }, { on := 4, ground := Go.Ground.phase }, { on := 5, ground := Go.Ground.textOnly Go.Departure.lateStores }, { on := 6, ground := Go.Ground.textOnly Go.Departure.lateStores }, { on := 7, ground := Go.Ground.textOnly Go.Departure.lateStores }, { on := 8, ground := Go.Ground.textOnly Go.Departure.lateStores }, { on := 9, ground := Go.Ground.phase }], guard := none } : Go.Oper)) rfl (fun K hK => ?_) AllReadyH.nil
  go_simp
  refine hK.out _ _ ((bel1 _ _).drew) (fun hHeld => ?_)
  clear hK K
  try simp only [Act.put, List.setIfInBounds_toArray, List.set_cons_zero, List.set_cons_succ]
  refine wpAnyH_take (i := 11) (oi := ({ dst := some 4, op := Go.Op.assign (Go.Operand.tmp 13), type := 51, pos := "sendq.go:131", after := #[{ on := 8, ground := Go.Ground.data }, { on := 10, ground := Go.Ground.chain }, { on := 0, ground := Go.Ground.phase }, { on := 1, ground := Go.Ground.phase }, { on := 2, ground := Go.Ground.phase }, { on := 3, ground := Go.Ground.phase }, { on := 4, ground := Go.Ground.phase }, { on := 5, ground := Go.Ground.phase }, { on := 6, ground := Go.Ground.phase }, { on := 7, ground := Go.Ground.phase }, { on := 8, ground := Go.Ground.phase }, { on := 9, ground := Go.Ground.phase }, { on := 10, ground := Go.Ground.phase }], guard := none } : Go.Oper)) (v := .slice (some ⟨g, 0, none⟩) (r.length + 1) c) rfl (by kernel_rfl) (by kernel_rfl) (by kernel_rfl) (fun _ _ _ h => h) (Or.inl ⟨by rfl, ?_⟩) (by assumption) ?_
  · intro wx hSw
    try dsimp only at hSw
    have u2 := hd2 wx hSw
    have u4 := hd4 wx hSw
    go_simp
    try with_reducible rfl
  try simp only [Act.put, List.setIfInBounds_toArray, List.set_cons_zero, List.set_cons_succ]
  refine wpAnyH_done (by kernel_rfl) ?_ _
  have hb2 : Below w1.heap.size w1 (w1.alloc (.cells (HV 0 sent) 58)).drew := (bel1 w1 (.cells (HV 0 sent) 58)).drew
  have h2 := h1.later hb2
  have hA2 : At (w1.alloc (.cells (HV 0 sent) 58)).drew (z0 + 1) (HV 0 sent) := by rw [← hsz1]; exact (At.box w1 (HV 0 sent) 58).later (Below.refl _ _).drew
  have hA02 := hA0.later hb2
  have hbw : Below z0 w (w1.alloc (.cells (HV 0 sent) 58)).drew := hb0.trans (hb2.mono (by omega))
  have hsz2 : z0 + 1 < (w1.alloc (.cells (HV 0 sent) 58)).drew.heap.size := hA2.1
  have e2 : (w1.alloc (Obj.cells #[Value.int .i64 0, Value.int .i64 (sent : Int)] 58)).drew = (w1.alloc (.cells (HV 0 sent) 58)).drew := rfl
  try rw [e2]
  clear e2
  generalize (w1.alloc (.cells (HV 0 sent) 58)).drew = w2 at *
  have z00 := hA02.2 0 _ rfl
  have z01 := hA02.2 1 _ rfl
  have z10 := hA2.2 0 _ rfl
  have z11 := hA2.2 1 _ rfl
  obtain ⟨z00a, z00b⟩ := z00
  obtain ⟨z01a, z01b⟩ := z01
  obtain ⟨z10a, z10b⟩ := z10
  obtain ⟨z11a, z11b⟩ := z11
  have hgz2 : g < z0 := by omega
  obtain ⟨x0, x1⟩ := PO.cell h2.po (j := 0) (e := x) rfl
  rw [Nat.zero_mul] at x0 x1
  rw [Nat.zero_add] at x1
  have hx9 : 0 < ((r.length + 1 : Nat) : Int) := by omega
  have hxn : ((x.1 : Int) == 0) = false := by rw [beq_eq_false_iff_ne]; omega
  have hxl : (0 : Int) < (r.length : Int) + 1 := by omega
  go_wp2
  have hR := (((hA02.turn (turn_set w2 (z0 + 1) 1 (.int .i64 (x.1 : Int))) (by omega)).set 0 (.int .i64 ((0) : Int))).set 1 (.int .i64 ((x.1) : Int)))
  have r0 := (hR.2 0 _ rfl).1
  have r1 := (hR.2 1 _ rfl).1
  exact bodyPost_ret (v := .agg (HV (0) (x.1))) (by simp [results, Try.results20, go_sem, r0, r1]) rfl ⟨rfl, (hbw.trans ((turn_set w2 (z0 + 1) 1 (.int .i64 (x.1 : Int))).below (by omega) (fun k hk e => by omega))).trans (((turn_set _ z0 0 (.int .i64 ((0) : Int))).trans (turn_set _ z0 1 (.int .i64 ((x.1) : Int)))).below (by first | omega | (simp; omega)) (fun k hk e => by omega))⟩
set_option maxHeartbeats 1000000 in
theorem hole_one {w : World} {R : Bk} {q : Nat} {room left : Int} {sent : Nat} {bs : List UInt8} {x : Pt} {vb vp : Value} (h : QX w R q ⟨room, left, sent, bs, [x]⟩ vb vp) (hf : Qu.Fine ⟨room, left, sent, bs, [x]⟩) (hx : x.1 = 0) :
    Calls Try.prog 20 #[PQ q] w fun e w' => e = .returned (.agg (HV x.2 sent)) ∧ Below w.heap.size w w' := by
  have hln : ([x] : List Pt).length ≤ 65536 := by have := psOk_len hf.ok; have := hf.sn; have := hf.ln; have := hf.r1; dsimp only at *; omega
  have hs1 : (sent : Int) ≤ 65536 := by have := hf.sn; have := hf.ln; have := hf.r1; dsimp only at *; omega
  obtain ⟨a, c, rfl, h0, hcl, hcz⟩ := h.po.shape
  obtain ⟨g, rfl⟩ : ∃ g, a = some ⟨g, 0, none⟩ := by
    rcases h.po.2 with ⟨e, -⟩ | ⟨g, cap, cur, hv, -⟩
    · cases e
    · cases hv; exact ⟨g, rfl⟩
  dsimp only [List.length_nil, List.length_cons] at hcl h hln
  have hgw : g < w.heap.size := (row_kd h.po g rfl).2.lt
  have hb0 := bel1 w (.cells HZ 58)
  have h1 := h.later hb0
  obtain ⟨⟨c0, c1, c2, c3, c4⟩, -⟩ := h1.at5.five
  have hA0 := At.box w HZ 58
  dsimp only at c2 c4
  clear hf
  go_enter Try.func20, Try.ntmps20
  go_upto_region 1 with fail
  have hgz : q < w.heap.size := h.at5.1
  generalize hz0 : w.heap.size = z0 at hA0 hb0 hgz ⊢
  generalize hw1 : w.alloc (.cells HZ 58) = w1 at *
  have hsz1 : w1.heap.size = z0 + 1 := by rw [← hw1, World.size_alloc, hz0]
  have hd2 : ∀ W, Below w1.heap.size w1 W → W.cell? ⟨q, 2, none⟩ = some (.int .i64 (sent : Int)) := fun W hW => later hW c2
  have hd4 : ∀ W, Below w1.heap.size w1 W → W.cell? ⟨q, 4, none⟩ = some (.slice (some ⟨g, 0, none⟩) 1 c) := fun W hW => later hW c4
  refine wp_region_held_drew (S := (fun W => Below w1.heap.size w1 W)) (by kernel_rfl) ?_ (fun hHeld => ?_)
  · first | exact (Below.refl _ _).drew | assumption
  refine wpAnyH_take (i := 0) (oi := ({ dst := some 5, op := Go.Op.move (Go.Operand.tmp 0), type := 24, pos := "sendq.go:131", after := #[], guard := none } : Go.Oper)) (v := .pointer (some ⟨q, 0, none⟩)) rfl (by kernel_rfl) (by kernel_rfl) (by kernel_rfl) (fun _ _ _ h => h) (Or.inl ⟨by rfl, ?_⟩) (by assumption) ?_
  · intro wx hSw
    try dsimp only at hSw
    have u2 := hd2 wx hSw
    have u4 := hd4 wx hSw
    go_simp
    try with_reducible rfl
  try simp only [Act.put, List.setIfInBounds_toArray, List.set_cons_zero, List.set_cons_succ]
  refine wpAnyH_take (i := 1) (oi := ({ dst := some 6, op := Go.Op.nilCheck (Go.Operand.tmp 5), type := 0, pos := "sendq.go:131", after := #[{ on := 0, ground := Go.Ground.data }], guard := none } : Go.Oper)) (v := .pointer (some ⟨q, 0, none⟩)) rfl (by kernel_rfl) (by kernel_rfl) (by kernel_rfl) (fun _ _ _ h => h) (Or.inl ⟨by rfl, ?_⟩) (by assumption) ?_
  · intro wx hSw
    try dsimp only at hSw
    have u2 := hd2 wx hSw
    have u4 := hd4 wx hSw
    go_simp
    try with_reducible rfl
  try simp only [Act.put, List.setIfInBounds_toArray, List.set_cons_zero, List.set_cons_succ]
  refine wpAnyH_take (i := 2) (oi := ({ dst := some 7, op := Go.Op.fieldAddr 53 (Go.Operand.tmp 6) 2, type := 0, pos := "sendq.go:131", after := #[{ on := 1, ground := Go.Ground.data }], guard := none } : Go.Oper)) (v := .pointer (some ⟨q, 2, none⟩)) rfl (by kernel_rfl) (by kernel_rfl) (by kernel_rfl) (fun _ _ _ h => h) (Or.inl ⟨by rfl, ?_⟩) (by assumption) ?_
  · intro wx hSw
    try dsimp only at hSw
    have u2 := hd2 wx hSw
    have u4 := hd4 wx hSw
    go_simp
    try with_reducible rfl
  try simp only [Act.put, List.setIfInBounds_toArray, List.set_cons_zero, List.set_cons_succ]
  refine wpAnyH_take (i := 3) (oi := ({ dst := some 8, op := Go.Op.load 3 (Go.Operand.tmp 7), type := 3, pos := "sendq.go:131", after := #[{ on := 2, ground := Go.Ground.data }], guard := none } : Go.Oper)) (v := .int .i64 (sent : Int)) rfl (by kernel_rfl) (by kernel_rfl) (by kernel_rfl) (fun _ _ _ h => h) (Or.inl ⟨by rfl, ?_⟩) (by assumption) ?_
  · intro wx hSw
    try dsimp only at hSw
    have u2 := hd2 wx hSw
    have u4 := hd4 wx hSw
    go_simp
    try with_reducible rfl
  try simp only [Act.put, List.setIfInBounds_toArray, List.set_cons_zero, List.set_cons_succ]
  refine wpAnyH_take (i := 4) (oi := ({ dst := some 9, op := Go.Op.build 58 #[(0, Go.Operand.const (Go.Value.int Go.IntKind.i64 0)), (1, Go.Operand.tmp 8)], type := 58, pos := "sendq.go:131", after := #[{ on := 3, ground := Go.Ground.data }], guard := none } : Go.Oper)) (v := .agg #[.int .i64 0, .int .i64 (sent : Int)]) rfl (by kernel_rfl) (by kernel_rfl) (by kernel_rfl) (fun _ _ _ h => h) (Or.inl ⟨by rfl, ?_⟩) (by assumption) ?_
  · intro wx hSw
    try dsimp only at hSw
    have u2 := hd2 wx hSw
    have u4 := hd4 wx hSw
    go_simp
    try with_reducible rfl
  try simp only [Act.put, List.setIfInBounds_toArray, List.set_cons_zero, List.set_cons_succ]
  refine wpAnyH_take (i := 5) (oi := ({ dst := some 10, op := Go.Op.move (Go.Operand.tmp 0), type := 24, pos := "sendq.go:131", after := #[{ on := 10, ground := Go.Ground.gcOnly Go.Departure.lateStores }], guard := none } : Go.Oper)) (v := .pointer (some ⟨q, 0, none⟩)) rfl (by kernel_rfl) (by kernel_rfl) (by kernel_rfl) (fun _ _ _ h => h) (Or.inl ⟨by rfl, ?_⟩) (by assumption) ?_
  · intro wx hSw
    try dsimp only at hSw
    have u2 := hd2 wx hSw
    have u4 := hd4 wx hSw
    go_simp
    try with_reducible rfl
  try simp only [Act.put, List.setIfInBounds_toArray, List.set_cons_zero, List.set_cons_succ]
  refine wpAnyH_take (i := 6) (oi := ({ dst := some 11, op := Go.Op.nilCheck (Go.Operand.tmp 10), type := 0, pos := "sendq.go:131", after := #[{ on := 5, ground := Go.Ground.data }, { on := 10, ground := Go.Ground.gcOnly Go.Departure.lateStores }], guard := none } : Go.Oper)) (v := .pointer (some ⟨q, 0, none⟩)) rfl (by kernel_rfl) (by kernel_rfl) (by kernel_rfl) (fun _ _ _ h => h) (Or.inl ⟨by rfl, ?_⟩) (by assumption) ?_
  · intro wx hSw
    try dsimp only at hSw
    have u2 := hd2 wx hSw
    have u4 := hd4 wx hSw
    go_simp
    try with_reducible rfl
  try simp only [Act.put, List.setIfInBounds_toArray, List.set_cons_zero, List.set_cons_succ]
  refine wpAnyH_take (i := 7) (oi := ({ dst := some 12, op := Go.Op.fieldAddr 53 (Go.Operand.tmp 11) 4, type := 0, pos := "sendq.go:131", after := #[{ on := 6, ground := Go.Ground.data }, { on := 10, ground := Go.Ground.gcOnly Go.Departure.lateStores }], guard := none } : Go.Oper)) (v := .pointer (some ⟨q, 4, none⟩)) rfl (by kernel_rfl) (by kernel_rfl) (by kernel_rfl) (fun _ _ _ h => h) (Or.inl ⟨by rfl, ?_⟩) (by assumption) ?_
  · intro wx hSw
    try dsimp only at hSw
    have u2 := hd2 wx hSw
    have u4 := hd4 wx hSw
    go_simp
    try with_reducible rfl
  try simp only [Act.put, List.setIfInBounds_toArray, List.set_cons_zero, List.set_cons_succ]
  refine wpAnyH_take (i := 8) (oi := ({ dst := some 13, op := Go.Op.load 51 (Go.Operand.tmp 12), type := 51, pos := "sendq.go:131", after := #[{ on := 7, ground := Go.Ground.data }, { on := 10, ground := Go.Ground.gcOnly Go.Departure.lateStores }], guard := none } : Go.Oper)) (v := .slice (some ⟨g, 0, none⟩) 1 c) rfl (by kernel_rfl) (by kernel_rfl) (by kernel_rfl) (fun _ _ _ h => h) (Or.inl ⟨by rfl, ?_⟩) (by assumption) ?_
  · intro wx hSw
    try dsimp only at hSw
    have u2 := hd2 wx hSw
    have u4 := hd4 wx hSw
    go_simp
    try with_reducible rfl
  try simp only [Act.put, List.setIfInBounds_toArray, List.set_cons_zero, List.set_cons_succ]
  refine wpAnyH_ready (rs := [9]) (by kernel_rfl) (by simp) ?_
  refine AllReadyH.cons (o := ({ dst := some 3, op := Go.Op.alloc 58, type := 0, pos := "sendq.go:131", after := #[], guard := none } : Go.Oper)) rfl (fun K hK => ?_) AllReadyH.nil
  go_simp
  refine hK.out _ _ ((bel1 _ _).drew) (fun hHeld => ?_)
  clear hK K
  try simp only [Act.put, List.setIfInBounds_toArray, List.set_cons_zero, List.set_cons_succ]
  refine wpAnyH_ready (rs := [10]) (by kernel_rfl) (by simp) ?_
  refine AllReadyH.cons (o := ({ dst := none, op := Go.Op.store 58 (Go.Operand.tmp 3) (Go.Operand.tmp 9), type := 0, pos := "sendq.go:131", after := #[{ on := 9, ground := Go.Ground.data }, { on := 4, ground := Go.Ground.data }, { on := 0, ground := Go.Ground.phase }, { on := 1, ground := Go.Ground.phase }, { on := 2, ground := Go.Ground.phase }, { on := 3, ground := Go.Ground.phase }, { on := 4, ground := Go.Ground.phase }, { on := 5, ground := Go.Ground.textOnly Go.Departure.lateStores }, { on := 6, ground := Go.Ground.textOnly Go.Departure.lateStores }, { on := 7, ground := Go.Ground.textOnly Go.Departure.lateStores }, { on := 8, ground := Go.Ground.textOnly Go.Departure.lateStores }, { on := 9, ground := Go.Ground.phase }], guard := none } : Go.Oper)) rfl (fun K hK => ?_) AllReadyH.nil
  go_simp
  refine hK.out _ _ ((bel1 _ _).drew) (fun hHeld => ?_)
  clear hK K
  try simp only [Act.put, List.setIfInBounds_toArray, List.set_cons_zero, List.set_cons_succ]
  refine wpAnyH_take (i := 11) (oi := ({ dst := some 4, op := Go.Op.assign (Go.Operand.tmp 13), type := 51, pos := "sendq.go:131", after := #[{ on := 8, ground := Go.Ground.data }, { on := 10, ground := Go.Ground.chain }, { on := 0, ground := Go.Ground.phase }, { on := 1, ground := Go.Ground.phase }, { on := 2, ground := Go.Ground.phase }, { on := 3, ground := Go.Ground.phase }, { on := 4, ground := Go.Ground.phase }, { on := 5, ground := Go.Ground.phase }, { on := 6, ground := Go.Ground.phase }, { on := 7, ground := Go.Ground.phase }, { on := 8, ground := Go.Ground.phase }, { on := 9, ground := Go.Ground.phase }, { on := 10, ground := Go.Ground.phase }], guard := none } : Go.Oper)) (v := .slice (some ⟨g, 0, none⟩) 1 c) rfl (by kernel_rfl) (by kernel_rfl) (by kernel_rfl) (fun _ _ _ h => h) (Or.inl ⟨by rfl, ?_⟩) (by assumption) ?_
  · intro wx hSw
    try dsimp only at hSw
    have u2 := hd2 wx hSw
    have u4 := hd4 wx hSw
    go_simp
    try with_reducible rfl
  try simp only [Act.put, List.setIfInBounds_toArray, List.set_cons_zero, List.set_cons_succ]
  refine wpAnyH_done (by kernel_rfl) ?_ _
  have hb2 : Below w1.heap.size w1 (w1.alloc (.cells (HV 0 sent) 58)).drew := (bel1 w1 (.cells (HV 0 sent) 58)).drew
  have h2 := h1.later hb2
  have hA2 : At (w1.alloc (.cells (HV 0 sent) 58)).drew (z0 + 1) (HV 0 sent) := by rw [← hsz1]; exact (At.box w1 (HV 0 sent) 58).later (Below.refl _ _).drew
  have hA02 := hA0.later hb2
  have hbw : Below z0 w (w1.alloc (.cells (HV 0 sent) 58)).drew := hb0.trans (hb2.mono (by omega))
  have hsz2 : z0 + 1 < (w1.alloc (.cells (HV 0 sent) 58)).drew.heap.size := hA2.1
  have e2 : (w1.alloc (Obj.cells #[Value.int .i64 0, Value.int .i64 (sent : Int)] 58)).drew = (w1.alloc (.cells (HV 0 sent) 58)).drew := rfl
  try rw [e2]
  clear e2
  generalize (w1.alloc (.cells (HV 0 sent) 58)).drew = w2 at *
  have z00 := hA02.2 0 _ rfl
  have z01 := hA02.2 1 _ rfl
  have z10 := hA2.2 0 _ rfl
  have z11 := hA2.2 1 _ rfl
  obtain ⟨z00a, z00b⟩ := z00
  obtain ⟨z01a, z01b⟩ := z01
  obtain ⟨z10a, z10b⟩ := z10
  obtain ⟨z11a, z11b⟩ := z11
  have hgz2 : g < z0 := by omega
  obtain ⟨x0, x1⟩ := PO.cell h2.po (j := 0) (e := x) rfl
  rw [Nat.zero_mul] at x0 x1
  rw [Nat.zero_add] at x1
  have hx9 : 0 < ((1 : Nat) : Int) := by omega
  have h1c : 1 ≤ c := by omega
  have h1c' : (1 : Int) ≤ (c : Int) := by omega
  have hxz : ((x.1 : Int) == 0) = true := by rw [hx]; rfl
  have HX0 : Hid (x.1 = 0) := hx
  clear hx
  go_upto_region 3 with fail
  refine wp_region_held_drew (S := (fun W => W.cell? ⟨g, 1, none⟩ = some (.int .i64 (x.2 : Int)))) (by kernel_rfl) ?_ (fun hHeld => ?_)
  · first | exact x1 | assumption
  refine wpAnyH_take (i := 0) (oi := ({ dst := some 24, op := Go.Op.move (Go.Operand.tmp 4), type := 51, pos := "sendq.go:133", after := #[], guard := none } : Go.Oper)) (v := .slice (some ⟨g, 0, none⟩) (1) c) rfl (by kernel_rfl) (by kernel_rfl) (by kernel_rfl) (fun _ _ _ h => h) (Or.inl ⟨by rfl, ?_⟩) (by assumption) ?_
  · intro wx hSw
    try dsimp only at hSw
    have u1 := hSw
    go_simp
    try with_reducible rfl
  try simp only [Act.put, List.setIfInBounds_toArray, List.set_cons_zero, List.set_cons_succ]
  refine wpAnyH_take (i := 1) (oi := ({ dst := some 25, op := Go.Op.indexAddr 51 (Go.Operand.tmp 24) (Go.Operand.const (Go.Value.int Go.IntKind.i64 0)), type := 0, pos := "sendq.go:133", after := #[{ on := 0, ground := Go.Ground.data }], guard := none } : Go.Oper)) (v := .pointer (some ⟨g, 0, none⟩)) rfl (by kernel_rfl) (by kernel_rfl) (by kernel_rfl) (fun _ _ _ h => h) (Or.inl ⟨by rfl, ?_⟩) (by assumption) ?_
  · intro wx hSw
    try dsimp only at hSw
    have u1 := hSw
    go_simp
    try with_reducible rfl
  try simp only [Act.put, List.setIfInBounds_toArray, List.set_cons_zero, List.set_cons_succ]
  refine wpAnyH_take (i := 2) (oi := ({ dst := some 26, op := Go.Op.fieldAddr 58 (Go.Operand.tmp 25) 1, type := 0, pos := "sendq.go:133", after := #[{ on := 1, ground := Go.Ground.data }], guard := none } : Go.Oper)) (v := .pointer (some ⟨g, 1, none⟩)) rfl (by kernel_rfl) (by kernel_rfl) (by kernel_rfl) (fun _ _ _ h => h) (Or.inl ⟨by rfl, ?_⟩) (by assumption) ?_
  · intro wx hSw
    try dsimp only at hSw
    have u1 := hSw
    go_simp
    try with_reducible rfl
  try simp only [Act.put, List.setIfInBounds_toArray, List.set_cons_zero, List.set_cons_succ]
  refine wpAnyH_take (i := 3) (oi := ({ dst := some 27, op := Go.Op.load 3 (Go.Operand.tmp 26), type := 3, pos := "sendq.go:133", after := #[{ on := 2, ground := Go.Ground.data }], guard := none } : Go.Oper)) (v := .int .i64 (x.2 : Int)) rfl (by kernel_rfl) (by kernel_rfl) (by kernel_rfl) (fun _ _ _ h => h) (Or.inl ⟨by rfl, ?_⟩) (by assumption) ?_
  · intro wx hSw
    try dsimp only at hSw
    have u1 := hSw
    go_simp
    try with_reducible rfl
  try simp only [Act.put, List.setIfInBounds_toArray, List.set_cons_zero, List.set_cons_succ]
  refine wpAnyH_take (i := 4) (oi := ({ dst := some 28, op := Go.Op.move (Go.Operand.tmp 4), type := 51, pos := "sendq.go:133", after := #[], guard := none } : Go.Oper)) (v := .slice (some ⟨g, 0, none⟩) (1) c) rfl (by kernel_rfl) (by kernel_rfl) (by kernel_rfl) (fun _ _ _ h => h) (Or.inl ⟨by rfl, ?_⟩) (by assumption) ?_
  · intro wx hSw
    try dsimp only at hSw
    have u1 := hSw
    go_simp
    try with_reducible rfl
  try simp only [Act.put, List.setIfInBounds_toArray, List.set_cons_zero, List.set_cons_succ]
  refine wpAnyH_take (i := 5) (oi := ({ dst := some 29, op := Go.Op.slice 51 (Go.Operand.tmp 28) (some (Go.Operand.const (Go.Value.int Go.IntKind.i64 1))) none none, type := 51, pos := "sendq.go:133", after := #[{ on := 4, ground := Go.Ground.data }], guard := none } : Go.Oper)) (v := .slice (if c = 1 then some (⟨g, 0, none⟩ : Addr) else some ⟨g, 2, none⟩) 0 (c - 1)) rfl (by kernel_rfl) (by kernel_rfl) (by kernel_rfl) (fun _ _ _ h => h) (Or.inl ⟨by rfl, ?_⟩) (by assumption) ?_
  · intro wx hSw
    try dsimp only at hSw
    have u1 := hSw
    go_simp
    try with_reducible rfl
  try simp only [Act.put, List.setIfInBounds_toArray, List.set_cons_zero, List.set_cons_succ]
  refine wpAnyH_take (i := 6) (oi := ({ dst := some 30, op := Go.Op.fieldAddr 58 (Go.Operand.tmp 3) 0, type := 0, pos := "sendq.go:133", after := #[{ on := 0, ground := Go.Ground.phase }, { on := 1, ground := Go.Ground.phase }, { on := 2, ground := Go.Ground.phase }, { on := 3, ground := Go.Ground.phase }, { on := 4, ground := Go.Ground.textOnly Go.Departure.lateStores }, { on := 5, ground := Go.Ground.textOnly Go.Departure.lateStoresUnsure }], guard := none } : Go.Oper)) (v := .pointer (some ⟨z0 + 1, 0, none⟩)) rfl (by kernel_rfl) (by kernel_rfl) (by kernel_rfl) (fun _ _ _ h => h) (Or.inl ⟨by rfl, ?_⟩) (by assumption) ?_
  · intro wx hSw
    try dsimp only at hSw
    have u1 := hSw
    go_simp
    try with_reducible rfl
  try simp only [Act.put, List.setIfInBounds_toArray, List.set_cons_zero, List.set_cons_succ]
  refine wpAnyH_ready (rs := [7]) (by kernel_rfl) (by simp) ?_
  refine AllReadyH.cons (o := ({ dst := none, op := Go.Op.store 3 (Go.Operand.tmp 30) (Go.Operand.tmp 27), type := 0, pos := "sendq.go:133", after := #[{ on := 6, ground := Go.Ground.data }, { on := 3, ground := Go.Ground.data }, { on := 0, ground := Go.Ground.phase }, { on := 1, ground := Go.Ground.phase }, { on := 2, ground := Go.Ground.phase }, { on := 3, ground := Go.Ground.phase }, { on := 4, ground := Go.Ground.textOnly Go.Departure.lateStores }, { on := 5, ground := Go.Ground.textOnly Go.Departure.lateStoresUnsure }], guard := none } : Go.Oper)) rfl (fun K hK => ?_) AllReadyH.nil
  have u2 : w2.drew.cell? ⟨z0 + 1, 0, none⟩ = some (.int .i64 0) := z10a
  have u3 : w2.drew.frozen? ⟨z0 + 1, 0, none⟩ = false := z10b
  go_simp
  refine hK.out _ _ ((World.cell?_setCell_other _ _ _ _ (by intro e; injection e with e; omega)).trans x1) (fun hHeld => ?_)
  clear hK K
  try simp only [Act.put, List.setIfInBounds_toArray, List.set_cons_zero, List.set_cons_succ]
  refine wpAnyH_take (i := 8) (oi := ({ dst := some 4, op := Go.Op.assign (Go.Operand.tmp 29), type := 51, pos := "sendq.go:133", after := #[{ on := 5, ground := Go.Ground.data }, { on := 7, ground := Go.Ground.chain }, { on := 0, ground := Go.Ground.phase }, { on := 1, ground := Go.Ground.phase }, { on := 2, ground := Go.Ground.phase }, { on := 3, ground := Go.Ground.phase }, { on := 4, ground := Go.Ground.phase }, { on := 5, ground := Go.Ground.phase }, { on := 6, ground := Go.Ground.phase }, { on := 7, ground := Go.Ground.phase }], guard := none } : Go.Oper)) (v := .slice (if c = 1 then some (⟨g, 0, none⟩ : Addr) else some ⟨g, 2, none⟩) 0 (c - 1)) rfl (by kernel_rfl) (by kernel_rfl) (by kernel_rfl) (fun _ _ _ h => h) (Or.inl ⟨by rfl, ?_⟩) (by assumption) ?_
  · intro wx hSw
    try dsimp only at hSw
    have u1 := hSw
    go_simp
    try with_reducible rfl
  try simp only [Act.put, List.setIfInBounds_toArray, List.set_cons_zero, List.set_cons_succ]
  refine wpAnyH_done (by kernel_rfl) ?_ _
  have hb3 : Turn (fun k => k = z0 + 1) w2 (w2.setCell ⟨z0 + 1, 0, none⟩ (.int .i64 (x.2 : Int))).drew := (turn_set w2.drew (z0 + 1) 0 (.int .i64 (x.2 : Int))).undrew
  have hA3 : At (w2.setCell ⟨z0 + 1, 0, none⟩ (.int .i64 (x.2 : Int))).drew (z0 + 1) (HV x.2 sent) := (hA2.set 0 (.int .i64 (x.2 : Int))).later (Below.refl _ _).drew
  have hA03 := hA02.turn hb3 (by omega)
  have hbw3 : Below z0 w (w2.setCell ⟨z0 + 1, 0, none⟩ (.int .i64 (x.2 : Int))).drew := hbw.trans (hb3.below (by omega) (fun k hk e => by omega))
  have hsz3 := hb3.size
  have hp3 := row_turn h2.po hb3 (fun k hk e => by cases hk; dsimp only at e; omega)
  clear z00a z00b z01a z01b z10a z10b z11a z11b x0 x1
  generalize (w2.setCell ⟨z0 + 1, 0, none⟩ (.int .i64 (x.2 : Int))).drew = w3 at *
  obtain ⟨z00a, z00b⟩ := hA03.2 0 _ rfl
  obtain ⟨z01a, z01b⟩ := hA03.2 1 _ rfl
  obtain ⟨z10a, z10b⟩ := hA3.2 0 _ rfl
  obtain ⟨z11a, z11b⟩ := hA3.2 1 _ rfl
  generalize (if c = 1 then some (⟨g, 0, none⟩ : Addr) else some ⟨g, 2, none⟩) = ar
  go_wp2
  have hR := ((hA03.set 0 (.int .i64 ((x.2) : Int))).set 1 (.int .i64 ((sent) : Int)))
  have r0 := (hR.2 0 _ rfl).1
  have r1 := (hR.2 1 _ rfl).1
  exact bodyPost_ret (v := .agg (HV (x.2) (sent))) (by simp [results, Try.results20, go_sem, r0, r1]) rfl ⟨rfl, (hbw3).trans (((turn_set _ z0 0 (.int .i64 ((x.2) : Int))).trans (turn_set _ z0 1 (.int .i64 ((sent) : Int)))).below (by first | omega | (simp; omega)) (fun k hk e => by omega))⟩
set_option maxHeartbeats 1000000 in
theorem hole_two {w : World} {R : Bk} {q : Nat} {room left : Int} {sent : Nat} {bs : List UInt8} {x y : Pt} {r : List Pt} {vb vp : Value} (h : QX w R q ⟨room, left, sent, bs, (x :: y :: r)⟩ vb vp) (hf : Qu.Fine ⟨room, left, sent, bs, (x :: y :: r)⟩) (hx : x.1 = 0) :
    Calls Try.prog 20 #[PQ q] w fun e w' => e = .returned (.agg (HV x.2 y.1)) ∧ Below w.heap.size w w' := by
  have hln : ((x :: y :: r) : List Pt).length ≤ 65536 := by have := psOk_len hf.ok; have := hf.sn; have := hf.ln; have := hf.r1; dsimp only at *; omega
  have hs1 : (sent : Int) ≤ 65536 := by have := hf.sn; have := hf.ln; have := hf.r1; dsimp only at *; omega
  obtain ⟨a, c, rfl, h0, hcl, hcz⟩ := h.po.shape
  obtain ⟨g, rfl⟩ : ∃ g, a = some ⟨g, 0, none⟩ := by
    rcases h.po.2 with ⟨e, -⟩ | ⟨g, cap, cur, hv, -⟩
    · cases e
    · cases hv; exact ⟨g, rfl⟩
  dsimp only [List.length_nil, List.length_cons] at hcl h hln
  have hgw : g < w.heap.size := (row_kd h.po g rfl).2.lt
  have hb0 := bel1 w (.cells HZ 58)
  have h1 := h.later hb0
  obtain ⟨⟨c0, c1, c2, c3, c4⟩, -⟩ := h1.at5.five
  have hA0 := At.box w HZ 58
  dsimp only at c2 c4
  clear hf
  go_enter Try.func20, Try.ntmps20
  go_upto_region 1 with fail
  have hgz : q < w.heap.size := h.at5.1
  generalize hz0 : w.heap.size = z0 at hA0 hb0 hgz ⊢
  generalize hw1 : w.alloc (.cells HZ 58) = w1 at *
  have hsz1 : w1.heap.size = z0 + 1 := by rw [← hw1, World.size_alloc, hz0]
  have hd2 : ∀ W, Below w1.heap.size w1 W → W.cell? ⟨q, 2, none⟩ = some (.int .i64 (sent : Int)) := fun W hW => later hW c2
  have hd4 : ∀ W, Below w1.heap.size w1 W → W.cell? ⟨q, 4, none⟩ = some (.slice (some ⟨g, 0, none⟩) (r.length + 1 + 1) c) := fun W hW => later hW c4
  refine wp_region_held_drew (S := (fun W => Below w1.heap.size w1 W)) (by kernel_rfl) ?_ (fun hHeld => ?_)
  · first | exact (Below.refl _ _).drew | assumption
  refine wpAnyH_take (i := 0) (oi := ({ dst := some 5, op := Go.Op.move (Go.Operand.tmp 0), type := 24, pos := "sendq.go:131", after := #[], guard := none } : Go.Oper)) (v := .pointer (some ⟨q, 0, none⟩)) rfl (by kernel_rfl) (by kernel_rfl) (by kernel_rfl) (fun _ _ _ h => h) (Or.inl ⟨by rfl, ?_⟩) (by assumption) ?_
  · intro wx hSw
    try dsimp only at hSw
    have u2 := hd2 wx hSw
    have u4 := hd4 wx hSw
    go_simp
    try with_reducible rfl
  try simp only [Act.put, List.setIfInBounds_toArray, List.set_cons_zero, List.set_cons_succ]
  refine wpAnyH_take (i := 1) (oi := ({ dst := some 6, op := Go.Op.nilCheck (Go.Operand.tmp 5), type := 0, pos := "sendq.go:131", after := #[{ on := 0, ground := Go.Ground.data }], guard := none } : Go.Oper)) (v := .pointer (some ⟨q, 0, none⟩)) rfl (by kernel_rfl) (by kernel_rfl) (by kernel_rfl) (fun _ _ _ h => h) (Or.inl ⟨by rfl, ?_⟩) (by assumption) ?_
  · intro wx hSw
    try dsimp only at hSw
    have u2 := hd2 wx hSw
    have u4 := hd4 wx hSw
    go_simp
    try with_reducible rfl
  try simp only [Act.put, List.setIfInBounds_toArray, List.set_cons_zero, List.set_cons_succ]
  refine wpAnyH_take (i := 2) (oi := ({ dst := some 7, op := Go.Op.fieldAddr 53 (Go.Operand.tmp 6) 2, type := 0, pos := "sendq.go:131", after := #[{ on := 1, ground := Go.Ground.data }], guard := none } : Go.Oper)) (v := .pointer (some ⟨q, 2, none⟩)) rfl (by kernel_rfl) (by kernel_rfl) (by kernel_rfl) (fun _ _ _ h => h) (Or.inl ⟨by rfl, ?_⟩) (by assumption) ?_
  · intro wx hSw
    try dsimp only at hSw
    have u2 := hd2 wx hSw
    have u4 := hd4 wx hSw
    go_simp
    try with_reducible rfl
  try simp only [Act.put, List.setIfInBounds_toArray, List.set_cons_zero, List.set_cons_succ]
  refine wpAnyH_take (i := 3) (oi := ({ dst := some 8, op := Go.Op.load 3 (Go.Operand.tmp 7), type := 3, pos := "sendq.go:131", after := #[{ on := 2, ground := Go.Ground.data }], guard := none } : Go.Oper)) (v := .int .i64 (sent : Int)) rfl (by kernel_rfl) (by kernel_rfl) (by kernel_rfl) (fun _ _ _ h => h) (Or.inl ⟨by rfl, ?_⟩) (by assumption) ?_
  · intro wx hSw
    try dsimp only at hSw
    have u2 := hd2 wx hSw
    have u4 := hd4 wx hSw
    go_simp
    try with_reducible rfl
  try simp only [Act.put, List.setIfInBounds_toArray, List.set_cons_zero, List.set_cons_succ]
  refine wpAnyH_take (i := 4) (oi := ({ dst := some 9, op := Go.Op.build 58 #[(0, Go.Operand.const (Go.Value.int Go.IntKind.i64 0)), (1, Go.Operand.tmp 8)], type := 58, pos := "sendq.go:131", after := #[{ on := 3, ground := Go.Ground.data }], guard := none } : Go.Oper)) (v := .agg #[.int .i64 0, .int .i64 (sent : Int)]) rfl (by kernel_rfl) (by kernel_rfl) (by kernel_rfl) (fun _ _ _ h => h) (Or.inl ⟨by rfl, ?_⟩) (by assumption) ?_
  · intro wx hSw
    try dsimp only at hSw
    have u2 := hd2 wx hSw
    have u4 := hd4 wx hSw
    go_simp
    try with_reducible rfl
  try simp only [Act.put, List.setIfInBounds_toArray, List.set_cons_zero, List.set_cons_succ]
  refine wpAnyH_take (i := 5) (oi := ({ dst := some 10, op := Go.Op.move (Go.Operand.tmp 0), type := 24, pos := "sendq.go:131", after := #[{ on := 10, ground := Go.Ground.gcOnly Go.Departure.lateStores }], guard := none } : Go.Oper)) (v := .pointer (some ⟨q, 0, none⟩)) rfl (by kernel_rfl) (by kernel_rfl) (by kernel_rfl) (fun _ _ _ h => h) (Or.inl ⟨by rfl, ?_⟩) (by assumption) ?_
  · intro wx hSw
    try dsimp only at hSw
    have u2 := hd2 wx hSw
    have u4 := hd4 wx hSw
    go_simp
    try with_reducible rfl
  try simp only [Act.put, List.setIfInBounds_toArray, List.set_cons_zero, List.set_cons_succ]
  refine wpAnyH_take (i := 6) (oi := ({ dst := some 11, op := Go.Op.nilCheck (Go.Operand.tmp 10), type := 0, pos := "sendq.go:131", after := #[{ on := 5, ground := Go.Ground.data }, { on := 10, ground := Go.Ground.gcOnly Go.Departure.lateStores }], guard := none } : Go.Oper)) (v := .pointer (some ⟨q, 0, none⟩)) rfl (by kernel_rfl) (by kernel_rfl) (by kernel_rfl) (fun _ _ _ h => h) (Or.inl ⟨by rfl, ?_⟩) (by assumption) ?_
  · intro wx hSw
    try dsimp only at hSw
    have u2 := hd2 wx hSw
    have u4 := hd4 wx hSw
    go_simp
    try with_reducible rfl
  try simp only [Act.put, List.setIfInBounds_toArray, List.set_cons_zero, List.set_cons_succ]
  refine wpAnyH_take (i := 7) (oi := ({ dst := some 12, op := Go.Op.fieldAddr 53 (Go.Operand.tmp 11) 4, type := 0, pos := "sendq.go:131", after := #[{ on := 6, ground := Go.Ground.data }, { on := 10, ground := Go.Ground.gcOnly Go.Departure.lateStores }], guard := none } : Go.Oper)) (v := .pointer (some ⟨q, 4, none⟩)) rfl (by kernel_rfl) (by kernel_rfl) (by kernel_rfl) (fun _ _ _ h => h) (Or.inl ⟨by rfl, ?_⟩) (by assumption) ?_
  · intro wx hSw
    try dsimp only at hSw
    have u2 := hd2 wx hSw
    have u4 := hd4 wx hSw
    go_simp
    try with_reducible rfl
  try simp only [Act.put, List.setIfInBounds_toArray, List.set_cons_zero, List.set_cons_succ]
  refine wpAnyH_take (i := 8) (oi := ({ dst := some 13, op := Go.Op.load 51 (Go.Operand.tmp 12), type := 51, pos := "sendq.go:131", after := #[{ on := 7, ground := Go.Ground.data }, { on := 10, ground := Go.Ground.gcOnly Go.Departure.lateStores }], guard := none } : Go.Oper)) (v := .slice (some ⟨g, 0, none⟩) (r.length + 1 + 1) c) rfl (by kernel_rfl) (by kernel_rfl) (by kernel_rfl) (fun _ _ _ h => h) (Or.inl ⟨by rfl, ?_⟩) (by assumption) ?_
  · intro wx hSw
    try dsimp only at hSw
    have u2 := hd2 wx hSw
    have u4 := hd4 wx hSw
    go_simp
    try with_reducible rfl
  try simp only [Act.put, List.setIfInBounds_toArray, List.set_cons_zero, List.set_cons_succ]
  refine wpAnyH_ready (rs := [9]) (by kernel_rfl) (by simp) ?_
  refine AllReadyH.cons (o := ({ dst := some 3, op := Go.Op.alloc 58, type := 0, pos := "sendq.go:131", after := #[], guard := none } : Go.Oper)) rfl (fun K hK => ?_) AllReadyH.nil
  go_simp
  refine hK.out _ _ ((bel1 _ _).drew) (fun hHeld => ?_)
  clear hK K
  try simp only [Act.put, List.setIfInBounds_toArray, List.set_cons_zero, List.set_cons_succ]
  refine wpAnyH_ready (rs := [10]) (by kernel_rfl) (by simp) ?_
  refine AllReadyH.cons (o := ({ dst := none, op := Go.Op.store 58 (Go.Operand.tmp 3) (Go.Operand.tmp 9), type := 0, pos := "sendq.go:131", after := #[{ on := 9, ground := Go.Ground.data }, { on := 4, ground := Go.Ground.data }, { on := 0, ground := Go.Ground.phase }, { on := 1, ground := Go.Ground.phase }, { on := 2, ground := Go.Ground.phase }, { on := 3, ground := Go.Ground.phase }, { on := 4, ground := Go.Ground.phase }, { on := 5, ground := Go.Ground.textOnly Go.Departure.lateStores }, { on := 6, ground := Go.Ground.textOnly Go.Departure.lateStores }, { on := 7, ground := Go.Ground.textOnly Go.Departure.lateStores }, { on := 8, ground := Go.Ground.textOnly Go.Departure.lateStores }, { on := 9, ground := Go.Ground.phase }], guard := none } : Go.Oper)) rfl (fun K hK => ?_) AllReadyH.nil
  go_simp
  refine hK.out _ _ ((bel1 _ _).drew) (fun hHeld => ?_)
  clear hK K
  try simp only [Act.put, List.setIfInBounds_toArray, List.set_cons_zero, List.set_cons_succ]
  refine wpAnyH_take (i := 11) (oi := ({ dst := some 4, op := Go.Op.assign (Go.Operand.tmp 13), type := 51, pos := "sendq.go:131", after := #[{ on := 8, ground := Go.Ground.data }, { on := 10, ground := Go.Ground.chain }, { on := 0, ground := Go.Ground.phase }, { on := 1, ground := Go.Ground.phase }, { on := 2, ground := Go.Ground.phase }, { on := 3, ground := Go.Ground.phase }, { on := 4, ground := Go.Ground.phase }, { on := 5, ground := Go.Ground.phase }, { on := 6, ground := Go.Ground.phase }, { on := 7, ground := Go.Ground.phase }, { on := 8, ground := Go.Ground.phase }, { on := 9, ground := Go.Ground.phase }, { on := 10, ground := Go.Ground.phase }], guard := none } : Go.Oper)) (v := .slice (some ⟨g, 0, none⟩) (r.length + 1 + 1) c) rfl (by kernel_rfl) (by kernel_rfl) (by kernel_rfl) (fun _ _ _ h => h) (Or.inl ⟨by rfl, ?_⟩) (by assumption) ?_
  · intro wx hSw
    try dsimp only at hSw
    have u2 := hd2 wx hSw
    have u4 := hd4 wx hSw
    go_simp
    try with_reducible rfl
  try simp only [Act.put, List.setIfInBounds_toArray, List.set_cons_zero, List.set_cons_succ]
  refine wpAnyH_done (by kernel_rfl) ?_ _
  have hb2 : Below w1.heap.size w1 (w1.alloc (.cells (HV 0 sent) 58)).drew := (bel1 w1 (.cells (HV 0 sent) 58)).drew
  have h2 := h1.later hb2
  have hA2 : At (w1.alloc (.cells (HV 0 sent) 58)).drew (z0 + 1) (HV 0 sent) := by rw [← hsz1]; exact (At.box w1 (HV 0 sent) 58).later (Below.refl _ _).drew
  have hA02 := hA0.later hb2
  have hbw : Below z0 w (w1.alloc (.cells (HV 0 sent) 58)).drew := hb0.trans (hb2.mono (by omega))
  have hsz2 : z0 + 1 < (w1.alloc (.cells (HV 0 sent) 58)).drew.heap.size := hA2.1
  have e2 : (w1.alloc (Obj.cells #[Value.int .i64 0, Value.int .i64 (sent : Int)] 58)).drew = (w1.alloc (.cells (HV 0 sent) 58)).drew := rfl
  try rw [e2]
  clear e2
  generalize (w1.alloc (.cells (HV 0 sent) 58)).drew = w2 at *
  have z00 := hA02.2 0 _ rfl
  have z01 := hA02.2 1 _ rfl
  have z10 := hA2.2 0 _ rfl
  have z11 := hA2.2 1 _ rfl
  obtain ⟨z00a, z00b⟩ := z00
  obtain ⟨z01a, z01b⟩ := z01
  obtain ⟨z10a, z10b⟩ := z10
  obtain ⟨z11a, z11b⟩ := z11
  have hgz2 : g < z0 := by omega
  obtain ⟨x0, x1⟩ := PO.cell h2.po (j := 0) (e := x) rfl
  rw [Nat.zero_mul] at x0 x1
  rw [Nat.zero_add] at x1
  have hx9 : 0 < ((r.length + 1 + 1 : Nat) : Int) := by omega
  have h1c : 1 ≤ c := by omega
  have hnc : ¬ c = 1 := by omega
  have h1c' : (1 : Int) ≤ (c : Int) := by omega
  have hxl : (0 : Int) < (r.length : Int) + 1 + 1 := by omega
  have hxl2 : (0 : Int) < (r.length : Int) + 1 := by omega
  have hnl : ¬ ((r.length : Int) + 1 + 1 < 1) := by omega
  have hxz : ((x.1 : Int) == 0) = true := by rw [hx]; rfl
  have HX0 : Hid (x.1 = 0) := hx
  clear hx
  go_upto_region 3 with fail
  refine wp_region_held_drew (S := (fun W => W.cell? ⟨g, 1, none⟩ = some (.int .i64 (x.2 : Int)))) (by kernel_rfl) ?_ (fun hHeld => ?_)
  · first | exact x1 | assumption
  refine wpAnyH_take (i := 0) (oi := ({ dst := some 24, op := Go.Op.move (Go.Operand.tmp 4), type := 51, pos := "sendq.go:133", after := #[], guard := none } : Go.Oper)) (v := .slice (some ⟨g, 0, none⟩) (r.length + 1 + 1) c) rfl (by kernel_rfl) (by kernel_rfl) (by kernel_rfl) (fun _ _ _ h => h) (Or.inl ⟨by rfl, ?_⟩) (by assumption) ?_
  · intro wx hSw
    try dsimp only at hSw
    have u1 := hSw
    go_simp
    try with_reducible rfl
  try simp only [Act.put, List.setIfInBounds_toArray, List.set_cons_zero, List.set_cons_succ]
  refine wpAnyH_take (i := 1) (oi := ({ dst := some 25, op := Go.Op.indexAddr 51 (Go.Operand.tmp 24) (Go.Operand.const (Go.Value.int Go.IntKind.i64 0)), type := 0, pos := "sendq.go:133", after := #[{ on := 0, ground := Go.Ground.data }], guard := none } : Go.Oper)) (v := .pointer (some ⟨g, 0, none⟩)) rfl (by kernel_rfl) (by kernel_rfl) (by kernel_rfl) (fun _ _ _ h => h) (Or.inl ⟨by rfl, ?_⟩) (by assumption) ?_
  · intro wx hSw
    try dsimp only at hSw
    have u1 := hSw
    go_simp
    try with_reducible rfl
  try simp only [Act.put, List.setIfInBounds_toArray, List.set_cons_zero, List.set_cons_succ]
  refine wpAnyH_take (i := 2) (oi := ({ dst := some 26, op := Go.Op.fieldAddr 58 (Go.Operand.tmp 25) 1, type := 0, pos := "sendq.go:133", after := #[{ on := 1, ground := Go.Ground.data }], guard := none } : Go.Oper)) (v := .pointer (some ⟨g, 1, none⟩)) rfl (by kernel_rfl) (by kernel_rfl) (by kernel_rfl) (fun _ _ _ h => h) (Or.inl ⟨by rfl, ?_⟩) (by assumption) ?_
  · intro wx hSw
    try dsimp only at hSw
    have u1 := hSw
    go_simp
    try with_reducible rfl
  try simp only [Act.put, List.setIfInBounds_toArray, List.set_cons_zero, List.set_cons_succ]
  refine wpAnyH_take (i := 3) (oi := ({ dst := some 27, op := Go.Op.load 3 (Go.Operand.tmp 26), type := 3, pos := "sendq.go:133", after := #[{ on := 2, ground := Go.Ground.data }], guard := none } : Go.Oper)) (v := .int .i64 (x.2 : Int)) rfl (by kernel_rfl) (by kernel_rfl) (by kernel_rfl) (fun _ _ _ h => h) (Or.inl ⟨by rfl, ?_⟩) (by assumption) ?_
  · intro wx hSw
    try dsimp only at hSw
    have u1 := hSw
    go_simp
    try with_reducible rfl
  try simp only [Act.put, List.setIfInBounds_toArray, List.set_cons_zero, List.set_cons_succ]
  refine wpAnyH_take (i := 4) (oi := ({ dst := some 28, op := Go.Op.move (Go.Operand.tmp 4), type := 51, pos := "sendq.go:133", after := #[], guard := none } : Go.Oper)) (v := .slice (some ⟨g, 0, none⟩) (r.length + 1 + 1) c) rfl (by kernel_rfl) (by kernel_rfl) (by kernel_rfl) (fun _ _ _ h => h) (Or.inl ⟨by rfl, ?_⟩) (by assumption) ?_
  · intro wx hSw
    try dsimp only at hSw
    have u1 := hSw
    go_simp
    try with_reducible rfl
  try simp only [Act.put, List.setIfInBounds_toArray, List.set_cons_zero, List.set_cons_succ]
  refine wpAnyH_take (i := 5) (oi := ({ dst := some 29, op := Go.Op.slice 51 (Go.Operand.tmp 28) (some (Go.Operand.const (Go.Value.int Go.IntKind.i64 1))) none none, type := 51, pos := "sendq.go:133", after := #[{ on := 4, ground := Go.Ground.data }], guard := none } : Go.Oper)) (v := .slice (some ⟨g, 2, none⟩) (r.length + 1) (c - 1)) rfl (by kernel_rfl) (by kernel_rfl) (by kernel_rfl) (fun _ _ _ h => h) (Or.inl ⟨by rfl, ?_⟩) (by assumption) ?_
  · intro wx hSw
    try dsimp only at hSw
    have u1 := hSw
    go_simp
    try with_reducible rfl
  try simp only [Act.put, List.setIfInBounds_toArray, List.set_cons_zero, List.set_cons_succ]
  refine wpAnyH_take (i := 6) (oi := ({ dst := some 30, op := Go.Op.fieldAddr 58 (Go.Operand.tmp 3) 0, type := 0, pos := "sendq.go:133", after := #[{ on := 0, ground := Go.Ground.phase }, { on := 1, ground := Go.Ground.phase }, { on := 2, ground := Go.Ground.phase }, { on := 3, ground := Go.Ground.phase }, { on := 4, ground := Go.Ground.textOnly Go.Departure.lateStores }, { on := 5, ground := Go.Ground.textOnly Go.Departure.lateStoresUnsure }], guard := none } : Go.Oper)) (v := .pointer (some ⟨z0 + 1, 0, none⟩)) rfl (by kernel_rfl) (by kernel_rfl) (by kernel_rfl) (fun _ _ _ h => h) (Or.inl ⟨by rfl, ?_⟩) (by assumption) ?_
  · intro wx hSw
    try dsimp only at hSw
    have u1 := hSw
    go_simp
    try with_reducible rfl
  try simp only [Act.put, List.setIfInBounds_toArray, List.set_cons_zero, List.set_cons_succ]
  refine wpAnyH_ready (rs := [7]) (by kernel_rfl) (by simp) ?_
  refine AllReadyH.cons (o := ({ dst := none, op := Go.Op.store 3 (Go.Operand.tmp 30) (Go.Operand.tmp 27), type := 0, pos := "sendq.go:133", after := #[{ on := 6, ground := Go.Ground.data }, { on := 3, ground := Go.Ground.data }, { on := 0, ground := Go.Ground.phase }, { on := 1, ground := Go.Ground.phase }, { on := 2, ground := Go.Ground.phase }, { on := 3, ground := Go.Ground.phase }, { on := 4, ground := Go.Ground.textOnly Go.Departure.lateStores }, { on := 5, ground := Go.Ground.textOnly Go.Departure.lateStoresUnsure }], guard := none } : Go.Oper)) rfl (fun K hK => ?_) AllReadyH.nil
  have u2 : w2.drew.cell? ⟨z0 + 1, 0, none⟩ = some (.int .i64 0) := z10a
  have u3 : w2.drew.frozen? ⟨z0 + 1, 0, none⟩ = false := z10b
  go_simp
  refine hK.out _ _ ((World.cell?_setCell_other _ _ _ _ (by intro e; injection e with e; omega)).trans x1) (fun hHeld => ?_)
  clear hK K
  try simp only [Act.put, List.setIfInBounds_toArray, List.set_cons_zero, List.set_cons_succ]
  refine wpAnyH_take (i := 8) (oi := ({ dst := some 4, op := Go.Op.assign (Go.Operand.tmp 29), type := 51, pos := "sendq.go:133", after := #[{ on := 5, ground := Go.Ground.data }, { on := 7, ground := Go.Ground.chain }, { on := 0, ground := Go.Ground.phase }, { on := 1, ground := Go.Ground.phase }, { on := 2, ground := Go.Ground.phase }, { on := 3, ground := Go.Ground.phase }, { on := 4, ground := Go.Ground.phase }, { on := 5, ground := Go.Ground.phase }, { on := 6, ground := Go.Ground.phase }, { on := 7, ground := Go.Ground.phase }], guard := none } : Go.Oper)) (v := .slice (some ⟨g, 2, none⟩) (r.length + 1) (c - 1)) rfl (by kernel_rfl) (by kernel_rfl) (by kernel_rfl) (fun _ _ _ h => h) (Or.inl ⟨by rfl, ?_⟩) (by assumption) ?_
  · intro wx hSw
    try dsimp only at hSw
    have u1 := hSw
    go_simp
    try with_reducible rfl
  try simp only [Act.put, List.setIfInBounds_toArray, List.set_cons_zero, List.set_cons_succ]
  refine wpAnyH_done (by kernel_rfl) ?_ _
  have hb3 : Turn (fun k => k = z0 + 1) w2 (w2.setCell ⟨z0 + 1, 0, none⟩ (.int .i64 (x.2 : Int))).drew := (turn_set w2.drew (z0 + 1) 0 (.int .i64 (x.2 : Int))).undrew
  have hA3 : At (w2.setCell ⟨z0 + 1, 0, none⟩ (.int .i64 (x.2 : Int))).drew (z0 + 1) (HV x.2 sent) := (hA2.set 0 (.int .i64 (x.2 : Int))).later (Below.refl _ _).drew
  have hA03 := hA02.turn hb3 (by omega)
  have hbw3 : Below z0 w (w2.setCell ⟨z0 + 1, 0, none⟩ (.int .i64 (x.2 : Int))).drew := hbw.trans (hb3.below (by omega) (fun k hk e => by omega))
  have hsz3 := hb3.size
  have hp3 := row_turn h2.po hb3 (fun k hk e => by cases hk; dsimp only at e; omega)
  clear z00a z00b z01a z01b z10a z10b z11a z11b x0 x1
  generalize (w2.setCell ⟨z0 + 1, 0, none⟩ (.int .i64 (x.2 : Int))).drew = w3 at *
  obtain ⟨z00a, z00b⟩ := hA03.2 0 _ rfl
  obtain ⟨z01a, z01b⟩ := hA03.2 1 _ rfl
  obtain ⟨z10a, z10b⟩ := hA3.2 0 _ rfl
  obtain ⟨z11a, z11b⟩ := hA3.2 1 _ rfl
  obtain ⟨y0, y1⟩ := PO.cell hp3 (j := 1) (e := y) rfl
  rw [Nat.one_mul] at y0 y1
  go_wp2
  have hR := (((hA03.turn (turn_set w3 (z0 + 1) 1 (.int .i64 (y.1 : Int))) (by omega)).set 0 (.int .i64 ((x.2) : Int))).set 1 (.int .i64 ((y.1) : Int)))
  have r0 := (hR.2 0 _ rfl).1
  have r1 := (hR.2 1 _ rfl).1
  exact bodyPost_ret (v := .agg (HV (x.2) (y.1))) (by simp [results, Try.results20, go_sem, r0, r1]) rfl ⟨rfl, (hbw3.trans ((turn_set w3 (z0 + 1) 1 (.int .i64 (y.1 : Int))).below (by omega) (fun k hk e => by omega))).trans (((turn_set _ z0 0 (.int .i64 ((x.2) : Int))).trans (turn_set _ z0 1 (.int .i64 ((y.1) : Int)))).below (by first | omega | (simp; omega)) (fun k hk e => by omega))⟩
end Go.Proofs.Ytkclookpdngkoaa.S
