/- the texts KFr, KFs, in part, merged by program -/
import Derived.Test.YthjbmloemmggaaaGreatDoorProg
import Derived.Test.YthjbmloemmggaaaGreatDoorRows
import Derived.WalkKit
import Derived.WalkSpells
import Derived.Maps.RangeWalk
import Derived.Maps.OwnSet
import Derived.Maps.Ext
import Derived.Maps.Keyed
import Derived.DeepKeys4
import Derived.WalkSmall
import Derived.Deep.Cut
import Derived.Deep.CutRange
import Derived.Deep.MidRow
import Derived.Deep.QuietTactic
import Derived.BigQuiet
import Derived.Deep.RegionWith
import Derived.OwnWalk
import Derived.Laws.CopyRow
import Derived.Shelf.Spec.SlicesInsert
import Derived.Lib.AppendZerosOnto
import Derived.Maps.AppendAt
import Derived.Lib.Overlaps
import Derived.Shelf.Strings.BuilderK
import Derived.Laws.OwnMore
import Derived.Laws.AppendOwn
import Derived.Laws.AppendOwnNone
import Derived.Carry
import Derived.Deep.RegionHeld3
import Derived.LoopN
import Derived.Test.YthjbmloemmggaaaGreatDoorMA01
import Derived.Test.YthjbmloemmggaaaGreatDoorMA04
import Derived.Test.YthjbmloemmggaaaGreatDoorMA07
import Derived.Test.YthjbmloemmggaaaGreatDoorMA08
import Derived.Test.YthjbmloemmggaaaGreatDoorMA09
import Derived.Test.YthjbmloemmggaaaGreatDoorMA10
import Derived.Test.YthjbmloemmggaaaGreatDoorMA11
import Derived.Test.YthjbmloemmggaaaGreatDoorMA12
namespace Go.Proofs.YthjbmloemmggaaaGreatDoor.Ip
open Go.RowKit Go.Maps
set_option maxRecDepth 100000
set_option linter.unusedVariables false
set_option linter.unusedSimpArgs false

set_option maxHeartbeats 8000000 in
theorem lay_whole (p : Pk) (hp : p.Fine) (hm : (mk p).wf) (w : World) (R B M : Nat) (ro pa la tu : Int) (a b : List Pile) (at_ tx : Int) (v : Value) (ps : List Pk) (hBX : BX w R B M ro pa la tu (a ++ ⟨mk p, at_, tx, v, ps⟩ :: b)) (h0 : ps ≠ []) (q : Pk) (ds : List UInt8) (hh : ps.any (hasB p) = false) (hf : fitsL ps p = true) (hc : ∀ i, i ≤ ps.length → Cutp ps p.fr i i → completeB (insL ps i p) = true ∧ (insL ps i p)[0]? = some q ∧ catL (insL ps i p) = ds) :
    Calls Tryz.prog 35 #[.pointer (some ⟨B, 0, none⟩), .agg #[.int .i64 p.f, .int .i64 p.t, .int .i64 p.tl, .int .i64 p.pr, .int .i64 p.id, .int .i64 p.fr, .bool p.mo, .bool p.dn, .string p.op, .string p.da]] w fun e w' => e = .returned (.tuple #[.agg #[.int .i64 q.f, .int .i64 q.t, .int .i64 q.tl, .int .i64 q.pr, .int .i64 q.id, .int .i64 q.fr, .bool false, .bool q.dn, .string q.op, .string ⟨ds.toArray⟩], .bool true, .int .i64 0]) ∧ LayBox w w' R B M ro pa la tu (a ++ ⟨mk p, at_, tx, v, ps⟩ :: b) (a ++ b) := by
  obtain ⟨va, vc, rfl⟩ : ∃ a c, v = .slice a ps.length c := RW.shape (hBX.ok ⟨mk p, at_, tx, v, ps⟩ (by simp)).row
  have hPb := (At.box w #[.int .i64 p.f, .int .i64 p.t, .int .i64 p.tl, .int .i64 p.pr, .int .i64 p.id, .int .i64 p.fr, .bool p.mo, .bool p.dn, .string p.op, .string p.da] 23).later (bel1 _ (.cells #[.int .i64 0, .int .i64 0, .int .i64 0, .int .i64 0, .int .i64 0, .int .i64 0, .bool false, .bool false, .string ⟨#[]⟩, .string ⟨#[]⟩] 23))
  have hZb := At.box2 w (.cells #[.int .i64 p.f, .int .i64 p.t, .int .i64 p.tl, .int .i64 p.pr, .int .i64 p.id, .int .i64 p.fr, .bool p.mo, .bool p.dn, .string p.op, .string p.da] 23) #[.int .i64 0, .int .i64 0, .int .i64 0, .int .i64 0, .int .i64 0, .int .i64 0, .bool false, .bool false, .string ⟨#[]⟩, .string ⟨#[]⟩] 23
  have hl0 := bt (bel1 w (.cells #[.int .i64 p.f, .int .i64 p.t, .int .i64 p.tl, .int .i64 p.pr, .int .i64 p.id, .int .i64 p.fr, .bool p.mo, .bool p.dn, .string p.op, .string p.da] 23)) (bel1 _ (.cells #[.int .i64 0, .int .i64 0, .int .i64 0, .int .i64 0, .int .i64 0, .int .i64 0, .bool false, .bool false, .string ⟨#[]⟩, .string ⟨#[]⟩] 23))
  have hB0 := hBX.later hl0
  have hRw := hBX.rw'
  have hrl : ∀ x ∈ (a ++ ⟨mk p, at_, tx, .slice va ps.length vc, ps⟩ :: b), ∀ k, x.v.ownBlock = some k → k < w.heap.size := fun x hx k hk => (hBX.ok x hx).row.lt k hk
  have HRL : Hid (∀ x ∈ (a ++ ⟨mk p, at_, tx, .slice va ps.length vc, ps⟩ :: b), ∀ k, x.v.ownBlock = some k → k < w.heap.size) := hrl
  have hbR := hBX.bR
  have hmR := hBX.mR
  clear hBX hrl
  go_enter Tryz.func35, Tryz.ntmps35
  go_upto_region 1 with fail
  generalize (w.alloc (.cells #[.int .i64 p.f, .int .i64 p.t, .int .i64 p.tl, .int .i64 p.pr, .int .i64 p.id, .int .i64 p.fr, .bool p.mo, .bool p.dn, .string p.op, .string p.da] 23)).alloc (.cells #[.int .i64 0, .int .i64 0, .int .i64 0, .int .i64 0, .int .i64 0, .int .i64 0, .bool false, .bool false, .string ⟨#[]⟩, .string ⟨#[]⟩] 23) = W0 at *
  have c0 := (hPb.2 0 _ rfl).1
  have c1 := (hPb.2 1 _ rfl).1
  have c3 := (hPb.2 3 _ rfl).1
  have c4 := (hPb.2 4 _ rfl).1
  have hW0 : w.heap.size + 2 ≤ W0.heap.size := by have := hZb.1; omega
  go_upto_region 2 with (first
    | (refine wpList_store_at rfl 113 _ _ rfl _ W0.heap.size #[.int .i64 0, .int .i64 0, .int .i64 0, .int .i64 0] #[.int .i64 p.f, .int .i64 p.t, .int .i64 p.pr, .int .i64 p.id] rfl rfl (At.box W0 #[.int .i64 0, .int .i64 0, .int .i64 0, .int .i64 0] 113) rfl infoM (by simp [Value.oneCell']) ?_; intro w1 hMk ht1)
    | go_in)
  have q1 : Below W0.heap.size W0 w1 := (bel1 W0 (.cells #[.int .i64 0, .int .i64 0, .int .i64 0, .int .i64 0] 113)).trans (below_turn ht1 (Nat.le_refl _) (bel1 W0 _).size)
  have hB1 := hB0.later q1
  have hP1 := hPb.later q1
  have hZ1 := hZb.later q1
  have hl1 := bt hl0 q1
  have hmb := hMk.1
  obtain ⟨mb, hmbe⟩ : ∃ x, x = W0.heap.size := ⟨_, rfl⟩
  rw [← hmbe] at hMk hmb hW0
  rw [← hmbe]
  clear c0 c1 c3 c4 hB0 hPb hZb hl0 ht1 q1 hmbe
  have hf4 : ∀ W, Below w1.heap.size w1 W → W.cell? ⟨B, 4, none⟩ = some (.map (some M)) := fun W hW => later hW (box_map hB1)
  have hm0 : ∀ W, Below w1.heap.size w1 W → W.cell? ⟨mb, 0, none⟩ = some (.int .i64 p.f) := fun W hW => later hW (hMk.2 0 _ rfl).1
  have hm1 : ∀ W, Below w1.heap.size w1 W → W.cell? ⟨mb, 1, none⟩ = some (.int .i64 p.t) := fun W hW => later hW (hMk.2 1 _ rfl).1
  have hm2 : ∀ W, Below w1.heap.size w1 W → W.cell? ⟨mb, 2, none⟩ = some (.int .i64 p.pr) := fun W hW => later hW (hMk.2 2 _ rfl).1
  have hm3 : ∀ W, Below w1.heap.size w1 W → W.cell? ⟨mb, 3, none⟩ = some (.int .i64 p.id) := fun W hW => later hW (hMk.2 3 _ rfl).1
  have hlk : ∀ W, Below w1.heap.size w1 W → (Instr.lookup 71 (.map (some M)) (.agg #[.int .i64 p.f, .int .i64 p.t, .int .i64 p.pr, .int .i64 p.id]) true).run Tryz.prog W = .ok (.tuple #[.agg #[.int .i64 at_, .int .i64 tx, .slice va ps.length vc], .bool true]) W := fun W hW => by
    have h := (hB1.map.later hW).look hm
    rw [glk_of hB1.map.2.1 (m := mk p) (v := .agg #[.int .i64 at_, .int .i64 tx, .slice va ps.length vc]) (List.mem_map.2 ⟨_, List.mem_append_right _ (List.mem_cons_self ..), rfl⟩)] at h
    exact h
  have hone : (#[.int .i64 at_, .int .i64 tx, .slice va ps.length vc] : Array Value).all (·.oneCell') = true := by simp [Value.oneCell']
  refine wp_region_held_drew (S := (fun W => Below w1.heap.size w1 W)) (by kernel_rfl) ?_ (fun hHeld => ?_)
  · first | exact (Below.refl _ _).drew | assumption
  refine wpAnyH_take (i := 0) (oi := ({ dst := some 20, op := Go.Op.move (Go.Operand.tmp 0), type := 34, pos := "frag.go:90", after := #[], guard := none } : Go.Oper)) (v := .pointer (some ⟨B, 0, none⟩)) rfl (by kernel_rfl) (by kernel_rfl) (by kernel_rfl) (fun _ _ _ h => h) (Or.inl ⟨by rfl, ?_⟩) (by assumption) ?_
  · intro wx hSw
    try dsimp only at hSw
    have u4 := hf4 wx hSw
    have um0 := hm0 wx hSw
    have um1 := hm1 wx hSw
    have um2 := hm2 wx hSw
    have um3 := hm3 wx hSw
    have ul := hlk wx hSw
    go_simp
    try with_reducible rfl
  try simp only [Act.put, List.setIfInBounds_toArray, List.set_cons_zero, List.set_cons_succ]
  refine wpAnyH_take (i := 1) (oi := ({ dst := some 21, op := Go.Op.nilCheck (Go.Operand.tmp 20), type := 0, pos := "frag.go:90", after := #[{ on := 0, ground := Go.Ground.data }], guard := none } : Go.Oper)) (v := .pointer (some ⟨B, 0, none⟩)) rfl (by kernel_rfl) (by kernel_rfl) (by kernel_rfl) (fun _ _ _ h => h) (Or.inl ⟨by rfl, ?_⟩) (by assumption) ?_
  · intro wx hSw
    try dsimp only at hSw
    have u4 := hf4 wx hSw
    have um0 := hm0 wx hSw
    have um1 := hm1 wx hSw
    have um2 := hm2 wx hSw
    have um3 := hm3 wx hSw
    have ul := hlk wx hSw
    go_simp
    try with_reducible rfl
  try simp only [Act.put, List.setIfInBounds_toArray, List.set_cons_zero, List.set_cons_succ]
  refine wpAnyH_take (i := 2) (oi := ({ dst := some 22, op := Go.Op.fieldAddr 73 (Go.Operand.tmp 21) 4, type := 0, pos := "frag.go:90", after := #[{ on := 1, ground := Go.Ground.data }], guard := none } : Go.Oper)) (v := .pointer (some ⟨B, 4, none⟩)) rfl (by kernel_rfl) (by kernel_rfl) (by kernel_rfl) (fun _ _ _ h => h) (Or.inl ⟨by rfl, ?_⟩) (by assumption) ?_
  · intro wx hSw
    try dsimp only at hSw
    have u4 := hf4 wx hSw
    have um0 := hm0 wx hSw
    have um1 := hm1 wx hSw
    have um2 := hm2 wx hSw
    have um3 := hm3 wx hSw
    have ul := hlk wx hSw
    go_simp
    try with_reducible rfl
  try simp only [Act.put, List.setIfInBounds_toArray, List.set_cons_zero, List.set_cons_succ]
  refine wpAnyH_take (i := 3) (oi := ({ dst := some 23, op := Go.Op.load 71 (Go.Operand.tmp 22), type := 71, pos := "frag.go:90", after := #[{ on := 2, ground := Go.Ground.data }], guard := none } : Go.Oper)) (v := .map (some M)) rfl (by kernel_rfl) (by kernel_rfl) (by kernel_rfl) (fun _ _ _ h => h) (Or.inl ⟨by rfl, ?_⟩) (by assumption) ?_
  · intro wx hSw
    try dsimp only at hSw
    have u4 := hf4 wx hSw
    have um0 := hm0 wx hSw
    have um1 := hm1 wx hSw
    have um2 := hm2 wx hSw
    have um3 := hm3 wx hSw
    have ul := hlk wx hSw
    go_simp
    try with_reducible rfl
  try simp only [Act.put, List.setIfInBounds_toArray, List.set_cons_zero, List.set_cons_succ]
  refine wpAnyH_take (i := 4) (oi := ({ dst := some 24, op := Go.Op.load 113 (Go.Operand.tmp 7), type := 113, pos := "frag.go:90", after := #[], guard := none } : Go.Oper)) (v := .agg #[.int .i64 p.f, .int .i64 p.t, .int .i64 p.pr, .int .i64 p.id]) rfl (by kernel_rfl) (by kernel_rfl) (by kernel_rfl) (fun _ _ _ h => h) (Or.inl ⟨by rfl, ?_⟩) (by assumption) ?_
  · intro wx hSw
    try dsimp only at hSw
    have u4 := hf4 wx hSw
    have um0 := hm0 wx hSw
    have um1 := hm1 wx hSw
    have um2 := hm2 wx hSw
    have um3 := hm3 wx hSw
    have ul := hlk wx hSw
    go_simp
    try with_reducible rfl
  try simp only [Act.put, List.setIfInBounds_toArray, List.set_cons_zero, List.set_cons_succ]
  refine wpAnyH_take (i := 5) (oi := ({ dst := some 25, op := Go.Op.lookup 71 (Go.Operand.tmp 23) (Go.Operand.tmp 24) true, type := 116, pos := "frag.go:90", after := #[{ on := 3, ground := Go.Ground.data }, { on := 4, ground := Go.Ground.data }], guard := none } : Go.Oper)) (v := .tuple #[.agg #[.int .i64 at_, .int .i64 tx, .slice va ps.length vc], .bool true]) rfl (by kernel_rfl) (by kernel_rfl) (by kernel_rfl) (fun _ _ _ h => h) (Or.inl ⟨by rfl, ?_⟩) (by assumption) ?_
  · intro wx hSw
    try dsimp only at hSw
    have u4 := hf4 wx hSw
    have um0 := hm0 wx hSw
    have um1 := hm1 wx hSw
    have um2 := hm2 wx hSw
    have um3 := hm3 wx hSw
    have ul := hlk wx hSw
    go_simp
    try with_reducible rfl
  try simp only [Act.put, List.setIfInBounds_toArray, List.set_cons_zero, List.set_cons_succ]
  refine wpAnyH_take (i := 6) (oi := ({ dst := some 19, op := Go.Op.move (Go.Operand.tmp 25), type := 116, pos := "frag.go:90", after := #[{ on := 5, ground := Go.Ground.data }], guard := none } : Go.Oper)) (v := .tuple #[.agg #[.int .i64 at_, .int .i64 tx, .slice va ps.length vc], .bool true]) rfl (by kernel_rfl) (by kernel_rfl) (by kernel_rfl) (fun _ _ _ h => h) (Or.inl ⟨by rfl, ?_⟩) (by assumption) ?_
  · intro wx hSw
    try dsimp only at hSw
    have u4 := hf4 wx hSw
    have um0 := hm0 wx hSw
    have um1 := hm1 wx hSw
    have um2 := hm2 wx hSw
    have um3 := hm3 wx hSw
    have ul := hlk wx hSw
    go_simp
    try with_reducible rfl
  try simp only [Act.put, List.setIfInBounds_toArray, List.set_cons_zero, List.set_cons_succ]
  refine wpAnyH_take (i := 7) (oi := ({ dst := some 26, op := Go.Op.extract (Go.Operand.tmp 19) 0, type := 115, pos := "frag.go:90", after := #[{ on := 6, ground := Go.Ground.data }], guard := none } : Go.Oper)) (v := .agg #[.int .i64 at_, .int .i64 tx, .slice va ps.length vc]) rfl (by kernel_rfl) (by kernel_rfl) (by kernel_rfl) (fun _ _ _ h => h) (Or.inl ⟨by rfl, ?_⟩) (by assumption) ?_
  · intro wx hSw
    try dsimp only at hSw
    have u4 := hf4 wx hSw
    have um0 := hm0 wx hSw
    have um1 := hm1 wx hSw
    have um2 := hm2 wx hSw
    have um3 := hm3 wx hSw
    have ul := hlk wx hSw
    go_simp
    try with_reducible rfl
  try simp only [Act.put, List.setIfInBounds_toArray, List.set_cons_zero, List.set_cons_succ]
  refine wpAnyH_take (i := 8) (oi := ({ dst := some 27, op := Go.Op.extract (Go.Operand.tmp 19) 1, type := 4, pos := "frag.go:90", after := #[{ on := 6, ground := Go.Ground.data }, { on := 10, ground := Go.Ground.gcOnly Go.Departure.lateStores }], guard := none } : Go.Oper)) (v := .bool true) rfl (by kernel_rfl) (by kernel_rfl) (by kernel_rfl) (fun _ _ _ h => h) (Or.inl ⟨by rfl, ?_⟩) (by assumption) ?_
  · intro wx hSw
    try dsimp only at hSw
    have u4 := hf4 wx hSw
    have um0 := hm0 wx hSw
    have um1 := hm1 wx hSw
    have um2 := hm2 wx hSw
    have um3 := hm3 wx hSw
    have ul := hlk wx hSw
    go_simp
    try with_reducible rfl
  try simp only [Act.put, List.setIfInBounds_toArray, List.set_cons_zero, List.set_cons_succ]
  refine wpAnyH_ready (rs := [9]) (by kernel_rfl) (by simp) ?_
  refine AllReadyH.cons (o := ({ dst := some 8, op := Go.Op.alloc 115, type := 0, pos := "frag.go:90", after := #[], guard := none } : Go.Oper)) rfl (fun K hK => ?_) AllReadyH.nil
  go_simp
  refine hK.out _ _ (bt hHeld (bel1 _ _)) (fun hHeld => ?_)
  clear hK K
  try simp only [Act.put, List.setIfInBounds_toArray, List.set_cons_zero, List.set_cons_succ]
  refine wpAnyH_ready (rs := [10]) (by kernel_rfl) (by simp) ?_
  refine AllReadyH.cons (o := ({ dst := none, op := Go.Op.store 115 (Go.Operand.tmp 8) (Go.Operand.tmp 26), type := 0, pos := "frag.go:90", after := #[{ on := 9, ground := Go.Ground.data }, { on := 7, ground := Go.Ground.data }, { on := 0, ground := Go.Ground.phase }, { on := 1, ground := Go.Ground.phase }, { on := 2, ground := Go.Ground.phase }, { on := 3, ground := Go.Ground.phase }, { on := 4, ground := Go.Ground.phase }, { on := 5, ground := Go.Ground.phase }, { on := 6, ground := Go.Ground.phase }, { on := 7, ground := Go.Ground.phase }, { on := 8, ground := Go.Ground.textOnly Go.Departure.lateStores }, { on := 9, ground := Go.Ground.phase }], guard := none } : Go.Oper)) rfl (fun K hK => ?_) AllReadyH.nil
  rw [if_pos (by rfl)]
  refine op_store_at 115 _ _ rfl _ w1.heap.size #[.int .i64 0, .int .i64 0, .slice none 0 0] #[.int .i64 at_, .int .i64 tx, .slice va ps.length vc] rfl rfl (At.box w1.drew #[.int .i64 0, .int .i64 0, .slice none 0 0] 115) rfl infoX hone ?_
  intro w2 hX2 ht2
  have hb2 : Below w1.heap.size w1 w2 := hHeld.trans (below_turn ht2 (Nat.le_refl _) hHeld.size)
  refine hK.out _ _ hb2 (fun hHeld => ?_)
  clear hK K
  try simp only [Act.put, List.setIfInBounds_toArray, List.set_cons_zero, List.set_cons_succ]
  refine wpAnyH_take (i := 11) (oi := ({ dst := some 9, op := Go.Op.assign (Go.Operand.tmp 27), type := 4, pos := "frag.go:90", after := #[{ on := 8, ground := Go.Ground.data }, { on := 10, ground := Go.Ground.chain }, { on := 0, ground := Go.Ground.phase }, { on := 1, ground := Go.Ground.phase }, { on := 2, ground := Go.Ground.phase }, { on := 3, ground := Go.Ground.phase }, { on := 4, ground := Go.Ground.phase }, { on := 5, ground := Go.Ground.phase }, { on := 6, ground := Go.Ground.phase }, { on := 7, ground := Go.Ground.phase }, { on := 8, ground := Go.Ground.phase }, { on := 9, ground := Go.Ground.phase }, { on := 10, ground := Go.Ground.phase }], guard := none } : Go.Oper)) (v := .bool true) rfl (by kernel_rfl) (by kernel_rfl) (by kernel_rfl) (fun _ _ _ h => h) (Or.inl ⟨by rfl, ?_⟩) (by assumption) ?_
  · intro wx hSw
    try dsimp only at hSw
    have u4 := hf4 wx hSw
    have um0 := hm0 wx hSw
    have um1 := hm1 wx hSw
    have um2 := hm2 wx hSw
    have um3 := hm3 wx hSw
    have ul := hlk wx hSw
    go_simp
    try with_reducible rfl
  try simp only [Act.put, List.setIfInBounds_toArray, List.set_cons_zero, List.set_cons_succ]
  refine wpAnyH_done (by kernel_rfl) ?_ _
  replace hB1 := hB1.later hb2
  replace hP1 := hP1.later hb2
  replace hZ1 := hZ1.later hb2
  replace hMk := hMk.later hb2
  replace hl1 := bt hl1 hb2
  obtain ⟨xb, hxb⟩ : ∃ x, x = w1.heap.size := ⟨_, rfl⟩
  rw [← hxb] at hX2 hmb
  rw [← hxb]
  have hxs := hX2.1
  clear hf4 hm0 hm1 hm2 hm3 hlk hHeld ht2 hb2 hxb
  go_upto_region 3 with fail
  go_quiet (fail)
  have qd : Below w2.heap.size w2 (w2.drewN nq) := below_drewN (Below.refl _ _) nq
  replace hB1 := hB1.later qd
  replace hP1 := hP1.later qd
  replace hZ1 := hZ1.later qd
  replace hMk := hMk.later qd
  replace hX2 := hX2.later qd
  replace hl1 := bt hl1 qd
  have hxs' := hX2.1
  clear qd hxs
  go_upto_region 5 with fail
  generalize w2.drewN nq = w3 at *
  have htt : Turn (FL B M (a ++ ⟨mk p, at_, tx, .slice va ps.length vc, ps⟩ :: b)) w w3 := Turn.of_below hl1
  have hr5 : RW w3 R (.slice va ps.length vc) ps := (hB1.ok _ (List.mem_append_right _ (List.mem_cons_self ..))).row
  have hok := hB1.ok _ (List.mem_append_right _ (List.mem_cons_self ..))
  have HFI : Hid (∀ q ∈ ps, q.Fine) := hok.fine
  have HRI : Hid (ps.Pairwise (fun a b => a.fr ≤ b.fr)) := hok.rise
  have hle : ps.length ≤ 64 := hok.len
  have hB5 := hB1
  have hP5 := hP1
  have hZ5 := hZ1
  have hM5 := hMk
  have hX5 := hX2
  clear hok hB1 hP1 hZ1 hMk hX2 hl1
  go_upto_region 7 with fail
  have hcon := has_any p ps at_ tx (.slice va ps.length vc) R w3 hr5 (by omega)
  rw [hh] at hcon
  go_wp2_with (first
    | (refine wpList_load_at rfl 115 _ rfl _ xb #[.int .i64 at_, .int .i64 tx, .slice va ps.length vc] _ rfl hX5 Tryz.underlying115 infoX ?_)
    | (refine wpList_load_at rfl 23 _ rfl _ w.heap.size #[.int .i64 p.f, .int .i64 p.t, .int .i64 p.tl, .int .i64 p.pr, .int .i64 p.id, .int .i64 p.fr, .bool p.mo, .bool p.dn, .string p.op, .string p.da] _ rfl hP5 Tryz.underlying23 (by kernel_rfl) ?_)
    | fail)
  refine hcon.mono ?_
  rintro e w6 ⟨rfl, l6⟩
  clear hcon
  replace hB5 := hB5.later l6
  replace hP5 := hP5.later l6
  replace hZ5 := hZ5.later l6
  replace hM5 := hM5.later l6
  replace hX5 := hX5.later l6
  replace hr5 := hr5.later l6
  replace htt := htt.later l6
  clear l6
  have hcon := fitsP_any p ps at_ tx (.slice va ps.length vc) R w6 hr5 (by omega) hp HFI.out
  rw [hf] at hcon
  go_wp2_with (first
    | (refine wpList_load_at rfl 115 _ rfl _ xb #[.int .i64 at_, .int .i64 tx, .slice va ps.length vc] _ rfl hX5 Tryz.underlying115 infoX ?_)
    | (refine wpList_load_at rfl 23 _ rfl _ w.heap.size #[.int .i64 p.f, .int .i64 p.t, .int .i64 p.tl, .int .i64 p.pr, .int .i64 p.id, .int .i64 p.fr, .bool p.mo, .bool p.dn, .string p.op, .string p.da] _ rfl hP5 Tryz.underlying23 (by kernel_rfl) ?_)
    | fail)
  refine hcon.mono ?_
  rintro e w7 ⟨rfl, l6⟩
  clear hcon
  replace hB5 := hB5.later l6
  replace hP5 := hP5.later l6
  replace hZ5 := hZ5.later l6
  replace hM5 := hM5.later l6
  replace hX5 := hX5.later l6
  replace hr5 := hr5.later l6
  replace htt := htt.later l6
  have hl64 := fitsL_len hf
  have hRw7 : R ≤ w7.heap.size := hB5.rw'
  have hs7 : w.heap.size ≤ w7.heap.size := by have := hX5.1; omega
  clear l6
  have hcon := with_any p ps at_ tx (.slice va ps.length vc) R w7 hr5 (by omega) hp HFI.out HRI.out hRw7
  go_wp2_with (first
    | (refine wpList_load_at rfl 115 _ rfl _ xb #[.int .i64 at_, .int .i64 tx, .slice va ps.length vc] _ rfl hX5 Tryz.underlying115 infoX ?_)
    | (refine wpList_load_at rfl 23 _ rfl _ w.heap.size #[.int .i64 p.f, .int .i64 p.t, .int .i64 p.tl, .int .i64 p.pr, .int .i64 p.id, .int .i64 p.fr, .bool p.mo, .bool p.dn, .string p.op, .string p.da] _ rfl hP5 Tryz.underlying23 (by kernel_rfl) ?_)
    | fail)
  refine hcon.mono ?_
  rintro e w8 ⟨v', i, rfl, hi, hcut, hr8, ht8, hloc⟩
  clear hcon
  have hvo : ∀ k, (.slice va ps.length vc : Value).ownBlock = some k → k < w.heap.size ∧ R ≤ k ∧ FL B M (a ++ ⟨mk p, at_, tx, .slice va ps.length vc, ps⟩ :: b) k := fun k hk => ⟨HRL.out _ (List.mem_append_right _ (List.mem_cons_self ..)) k hk, (hB5.ok _ (List.mem_append_right _ (List.mem_cons_self ..))).row.ge k hk, Or.inr (Or.inr ⟨_, List.mem_append_right _ (List.mem_cons_self ..), hk⟩)⟩
  have hv'o : ∀ k, v'.ownBlock = some k → k ≠ xb ∧ k ≠ mb ∧ k ≠ w.heap.size ∧ k ≠ w.heap.size + 1 ∧ (k < w.heap.size ∨ w7.heap.size ≤ k) := fun k hk => by
    have h7 := hX5.1
    rcases hloc with e | e
    · rw [e] at hk
      have := (hvo k hk).1
      omega
    · have := e k hk
      omega
  have HV : Hid (∀ k, v'.ownBlock = some k → (.slice va ps.length vc : Value).ownBlock = some k ∨ w7.heap.size ≤ k) := fun k hk => by
    rcases hloc with e | e
    · exact Or.inl (by rw [← e]; exact hk)
    · exact Or.inr (e k hk)
  have n1 : ¬ ((.slice va ps.length vc : Value).ownBlock = some xb) := fun e => by have := (hvo _ e).1; omega
  have n2 : ¬ ((.slice va ps.length vc : Value).ownBlock = some mb) := fun e => by have := (hvo _ e).1; omega
  have n3 : ¬ ((.slice va ps.length vc : Value).ownBlock = some w.heap.size) := fun e => by have := (hvo _ e).1; omega
  have n4 : ¬ ((.slice va ps.length vc : Value).ownBlock = some (w.heap.size + 1)) := fun e => by have := (hvo _ e).1; omega
  have n5 : ¬ ((.slice va ps.length vc : Value).ownBlock = some B) := fun e => by have := (hvo _ e).2.1; omega
  have n6 : ¬ ((.slice va ps.length vc : Value).ownBlock = some M) := fun e => by have := (hvo _ e).2.1; omega
  have hP8 := hP5.turn ht8 n3
  have hZ8 := hZ5.turn ht8 n4
  have hM8 := hM5.turn ht8 n2
  have hX8 := hX5.turn ht8 n1
  have hbx8 := hB5.box.turn ht8 n5
  have hmp8 := hB5.map.turn ht8 n6
  have htt8 := htt.step ht8 (fun k e => Or.inl (hvo k e).2.2)
  have hnew := hc i hi hcut
  have hil := ins_len (p := p) hi
  have hne' : insL ps i p ≠ [] := fun e => by rw [e] at hil; simp at hil
  have hfi' : ∀ q ∈ insL ps i p, q.Fine := fun q hq => by
    rcases ins_mem hq with h | h
    · rw [h]; exact hp
    · exact HFI.out q h
  have hri' := ins_rise HRI.out hcut
  have hoth : ∀ x ∈ (a ++ b), Pile.Ok w8 R x ∧ apart x ⟨mk p, at_, tx, v', insL ps i p⟩ := fun x hx => by
    have hin := inAll (y := ⟨mk p, at_, tx, .slice va ps.length vc, ps⟩) hx
    have hap := far_all hB5.far hx
    refine ⟨(hB5.ok x hin).turn ht8 (fun k hk e => hap k hk e), fun k hk e => ?_⟩
    rcases HV.out k e with h | h
    · exact hap k hk h
    · have := HRL.out x hin k hk
      have := hX5.1
      omega
  obtain ⟨a', c', rfl⟩ := hr8.shape
  obtain ⟨ns, hns⟩ : ∃ ns, ns = insL ps i p := ⟨_, rfl⟩
  rw [← hns] at hr8 hne' hfi' hri' hil hnew hoth hv'o HV
  rw [← hns]
  obtain ⟨m', hm'⟩ : ∃ m', m' = ns.length := ⟨_, rfl⟩
  rw [← hm'] at hr8 hoth hv'o HV
  rw [← hm']
  have HM : Hid (m' = ns.length) := hm'
  have HN : Hid (ns = insL ps i p) := hns
  have hm64 : ns.length ≤ 64 := by omega
  clear hm' hns
  have hs8 : w7.heap.size ≤ w8.heap.size := ht8.size
  clear hloc hX5 hP5 hZ5 hM5 htt ht8 hr5
  go_upto_region 13 with (first
    | (refine wpList_store_at rfl 115 _ _ rfl _ xb #[.int .i64 at_, .int .i64 tx, .slice va ps.length vc] #[.int .i64 at_, .int .i64 tx, .slice a' m' c'] rfl rfl hX8 rfl infoX (by simp [Value.oneCell']) ?_; intro w9 hX9 ht9)
    | go_in)
  have o1 : ∀ k, (Value.slice a' m' c').ownBlock = some k → ¬ (k = xb) := fun k hk => (hv'o k hk).1
  have hr9 := hr8.turn ht9 o1
  have hP9 := hP8.turn ht9 (by omega)
  have hZ9 := hZ8.turn ht9 (by omega)
  have hM9 := hM8.turn ht9 (by omega)
  have hbx9 := hbx8.turn ht9 (by omega)
  have hmp9 := hmp8.turn ht9 (by omega)
  have htt9 := htt8.step ht9 (fun k e => Or.inr (by omega))
  have hot9 : ∀ x ∈ (a ++ b), Pile.Ok w9 R x ∧ apart x ⟨mk p, at_, tx, .slice a' m' c', ns⟩ := fun x hx => ⟨(hoth x hx).1.turn ht9 (fun k hk e => by have := HRL.out x (inAll hx) k hk; omega), (hoth x hx).2⟩
  have hs9 : w8.heap.size ≤ w9.heap.size := ht9.size
  clear hr8 hP8 hZ8 hM8 hX8 hbx8 hmp8 htt8 hoth ht9
  have hcon := complete_any ns at_ tx (.slice a' m' c') R w9 (by have := hr9; exact this) (by omega) hne' hfi'
  rw [hnew.1] at hcon
  go_wp2_with (first
    | (refine wpList_load_at rfl 115 _ rfl _ xb #[.int .i64 at_, .int .i64 tx, .slice a' m' c'] _ rfl hX9 Tryz.underlying115 infoX ?_)
    | fail)
  refine hcon.mono ?_
  rintro e w10 ⟨rfl, l10⟩
  clear hcon
  replace hr9 := hr9.later l10
  replace hZ9 := hZ9.later l10
  replace hM9 := hM9.later l10
  replace hX9 := hX9.later l10
  replace hbx9 := hbx9.later l10
  replace hmp9 := hmp9.later l10
  replace htt9 := htt9.later l10
  replace hot9 : ∀ x ∈ (a ++ b), Pile.Ok w10 R x ∧ apart x ⟨mk p, at_, tx, .slice a' m' c', ns⟩ := fun x hx => ⟨(hot9 x hx).1.turn (S := fun _ => False) (Turn.of_below l10) (fun _ _ h => h), (hot9 x hx).2⟩
  have g4 : w10.cell? ⟨B, 4, none⟩ = some (.map (some M)) := (hbx9.2 4 _ rfl).1
  have m0 : w10.cell? ⟨mb, 0, none⟩ = some (.int .i64 p.f) := (hM9.2 0 _ rfl).1
  have m1 : w10.cell? ⟨mb, 1, none⟩ = some (.int .i64 p.t) := (hM9.2 1 _ rfl).1
  have m2 : w10.cell? ⟨mb, 2, none⟩ = some (.int .i64 p.pr) := (hM9.2 2 _ rfl).1
  have m3 : w10.cell? ⟨mb, 3, none⟩ = some (.int .i64 p.id) := (hM9.2 3 _ rfl).1
  have x0 : w10.cell? ⟨xb, 0, none⟩ = some (.int .i64 at_) := (hX9.2 0 _ rfl).1
  have x1 : w10.cell? ⟨xb, 1, none⟩ = some (.int .i64 tx) := (hX9.2 1 _ rfl).1
  have x2 : w10.cell? ⟨xb, 2, none⟩ = some (.slice a' m' c') := (hX9.2 2 _ rfl).1
  have hs10 : w9.heap.size ≤ w10.heap.size := l10.size
  clear l10
  have hmp9' : GM w10 M (a.map Pile.en ++ (mk p, .agg #[.int .i64 at_, .int .i64 tx, .slice va ps.length vc]) :: b.map Pile.en) := by
    have := hmp9
    rw [List.map_append, List.map_cons] at this
    exact this
  have hdel := fun ty => GM.del (w := w10.drew) hmp9' ty
  obtain ⟨W3, hr3, hG3, ht3⟩ := hdel 0
  have hr3' : (Builtin.delete_ #[71, 113] 0 #[.map (some M), .agg #[.int .i64 p.f, .int .i64 p.t, .int .i64 p.pr, .int .i64 p.id]]).run Tryz.prog w10.drew = .ok (.tuple #[]) W3 := hr3
  clear hr3 hdel
  replace ht3 := ht3.undrew
  have hZ3 := hZ9.turn ht3 (by omega)
  have hX3 := hX9.turn ht3 (by omega)
  have hr3r := hr9.turn ht3 (fun k hk e => by have := hr9.ge k hk; omega)
  have hBXn : BX W3 R B M ro pa la tu (a ++ b) := by
    refine ⟨hbx9.turn ht3 hB5.ne, ?_, ?_, far_del hB5.far, hbR, hmR, Nat.le_trans (Nat.le_trans hRw7 hs8) (Nat.le_trans (Nat.le_trans hs9 hs10) ht3.size), hB5.ne⟩
    · rw [List.map_append]
      exact hG3
    · intro x hx
      exact (hot9 x hx).1.turn ht3 (fun k hk e => by have := (hot9 x hx).1.row.ge k hk; omega)
  have htt3 := htt9.step ht3 (fun k e => Or.inl (Or.inr (Or.inl e)))
  have HB3 : Hid (BX W3 R B M ro pa la tu (a ++ b)) := hBXn
  have HT3 : Hid (Turn (FL B M (a ++ ⟨mk p, at_, tx, .slice va ps.length vc, ps⟩ :: b)) w W3) := htt3
  have hcon := whole_any ns q at_ tx (.slice a' m' c') R W3 hr3r (by omega) hnew.2.1 hfi'
  rw [hnew.2.2] at hcon
  have HHH : Hid (∀ x ∈ a ++ b, ∀ k, x.v.ownBlock = some k → k < w.heap.size) := fun x hx k hk => HRL.out x (inAll hx) k hk
  have hz3 := hZ3.1
  clear hZ9 hM9 hX9 hbx9 hmp9 hmp9' htt9 hot9 hG3 hBXn htt3 hr9 hnew hr3r hB5
  go_upto_region 16 with fail
  go_region
  go_wp2_with (first
    | (refine wpList_load_at rfl 115 _ rfl _ xb #[.int .i64 at_, .int .i64 tx, .slice a' m' c'] _ rfl hX3 Tryz.underlying115 infoX ?_)
    | fail)
  refine hcon.mono ?_
  rintro e w11 ⟨rfl, l11⟩
  have hZ11 := hZ3.later l11
  go_wp2_with (first
    | (refine wpList_store_at rfl 23 _ _ rfl _ (w.heap.size + 1) #[.int .i64 0, .int .i64 0, .int .i64 0, .int .i64 0, .int .i64 0, .int .i64 0, .bool false, .bool false, .string ⟨#[]⟩, .string ⟨#[]⟩] #[.int .i64 q.f, .int .i64 q.t, .int .i64 q.tl, .int .i64 q.pr, .int .i64 q.id, .int .i64 q.fr, .bool false, .bool q.dn, .string q.op, .string ⟨ds.toArray⟩] rfl rfl hZ11 rfl (by kernel_rfl) (by simp [Value.oneCell']) ?_; intro w12 hZ12 ht12))
  have r0 := (hZ12.2 0 _ rfl).1
  have r1 := (hZ12.2 1 _ rfl).1
  have r2 := (hZ12.2 2 _ rfl).1
  have r3 := (hZ12.2 3 _ rfl).1
  have r4 := (hZ12.2 4 _ rfl).1
  have r5 := (hZ12.2 5 _ rfl).1
  have r6 := (hZ12.2 6 _ rfl).1
  have r7 := (hZ12.2 7 _ rfl).1
  have r8 := (hZ12.2 8 _ rfl).1
  have r9 := (hZ12.2 9 _ rfl).1
  exact bodyPost_ret (v := .tuple #[.agg #[.int .i64 q.f, .int .i64 q.t, .int .i64 q.tl, .int .i64 q.pr, .int .i64 q.id, .int .i64 q.fr, .bool false, .bool q.dn, .string q.op, .string ⟨ds.toArray⟩], .bool true, .int .i64 0]) (by simp [results, Tryz.results35, go_sem, r0, r1, r2, r3, r4, r5, r6, r7, r8, r9]) rfl ⟨rfl, (HB3.out.later l11).turn ht12 (by omega) (by omega) (fun x hx k hk e => by have := HHH.out x hx k hk; omega), (HT3.out.later l11).step ht12 (fun k e => Or.inr (by omega))⟩
end Go.Proofs.YthjbmloemmggaaaGreatDoor.Ip

namespace Go.Proofs.YthjbmloemmggaaaGreatDoor.Ip
open Go.RowKit Go.Maps
set_option maxRecDepth 100000
set_option linter.unusedVariables false
set_option linter.unusedSimpArgs false

def Pk.may (p : Pk) : Bool := mayP p.f p.t p.tl p.pr p.id p.fr p.mo p.op.size p.da.size
theorem may_fine {p : Pk} (h : p.may = true) : p.Fine := by
  obtain ⟨-, -, -, -, -, ⟨h1, h2⟩, -, h3, -, h4, h5⟩ := mayP_q h
  exact ⟨h1, h2, by omega, by omega⟩
theorem may_wf {p : Pk} (h : p.may = true) : (mk p).wf := by
  obtain ⟨⟨a1, a2⟩, ⟨b1, b2⟩, -, ⟨c1, c2⟩, ⟨d1, d2⟩, -⟩ := mayP_q h
  exact ⟨WalkArith.wf_i64 (by show _ ∧ _; exact ⟨by show _ ≤ p.f; omega, by show p.f ≤ _; omega⟩), WalkArith.wf_i64 (by show _ ∧ _; exact ⟨by show _ ≤ p.t; omega, by show p.t ≤ _; omega⟩), WalkArith.wf_i64 (by show _ ∧ _; exact ⟨by show _ ≤ p.pr; omega, by show p.pr ≤ _; omega⟩), WalkArith.wf_i64 (by show _ ∧ _; exact ⟨by show _ ≤ p.id; omega, by show p.id ≤ _; omega⟩)⟩
def TP (w w' : World) (R B M : Nat) (ro pa now tu : Int) (l : List Pile) (Φ : World → World → Prop) : Prop := ∃ W W', BX W R B M ro pa now tu l ∧ Turn (fun k => k = B) w W ∧ w.heap.size + 1 < W.heap.size ∧ Φ W W' ∧ Turn (fun k => k = w.heap.size + 1) W' w'
set_option maxHeartbeats 4000000 in
theorem takeW (p : Pk) (hmay : p.may = true) (w : World) (R B M : Nat) (ro pa la tu : Int) (l : List Pile) (hBX : BX w R B M ro pa la tu l) (now : Int) (hn1 : la ≤ now) (hn2 : now ≤ 1099511627776) (hwh : wholeB p.fr p.mo = true) :
    Calls Tryz.prog 14 #[.pointer (some ⟨B, 0, none⟩), .agg #[.int .i64 p.f, .int .i64 p.t, .int .i64 p.tl, .int .i64 p.pr, .int .i64 p.id, .int .i64 p.fr, .bool p.mo, .bool p.dn, .string p.op, .string p.da], .int .i64 now] w fun e w' => e = .returned (.tuple #[.agg #[.int .i64 p.f, .int .i64 p.t, .int .i64 p.tl, .int .i64 p.pr, .int .i64 p.id, .int .i64 p.fr, .bool p.mo, .bool p.dn, .string p.op, .string p.da], .bool true, .int .i64 0]) ∧ TP w w' R B M ro pa now tu l (fun W W' => W' = W) := by
  have hp := may_fine hmay
  have ho : p.op.size ≤ 1125899906842624 := by have := hp.ol; omega
  have hd : p.da.size ≤ 1125899906842624 := by have := hp.dl; omega
  have hPb := (At.box w #[.int .i64 p.f, .int .i64 p.t, .int .i64 p.tl, .int .i64 p.pr, .int .i64 p.id, .int .i64 p.fr, .bool p.mo, .bool p.dn, .string p.op, .string p.da] 23).later (bel1 _ (.cells #[.int .i64 0, .int .i64 0, .int .i64 0, .int .i64 0, .int .i64 0, .int .i64 0, .bool false, .bool false, .string ⟨#[]⟩, .string ⟨#[]⟩] 23))
  have hZb := At.box2 w (.cells #[.int .i64 p.f, .int .i64 p.t, .int .i64 p.tl, .int .i64 p.pr, .int .i64 p.id, .int .i64 p.fr, .bool p.mo, .bool p.dn, .string p.op, .string p.da] 23) #[.int .i64 0, .int .i64 0, .int .i64 0, .int .i64 0, .int .i64 0, .int .i64 0, .bool false, .bool false, .string ⟨#[]⟩, .string ⟨#[]⟩] 23
  have hl0 := bt (bel1 w (.cells #[.int .i64 p.f, .int .i64 p.t, .int .i64 p.tl, .int .i64 p.pr, .int .i64 p.id, .int .i64 p.fr, .bool p.mo, .bool p.dn, .string p.op, .string p.da] 23)) (bel1 _ (.cells #[.int .i64 0, .int .i64 0, .int .i64 0, .int .i64 0, .int .i64 0, .int .i64 0, .bool false, .bool false, .string ⟨#[]⟩, .string ⟨#[]⟩] 23))
  have hB0 := hBX.later hl0
  have hbR := hBX.bR
  have hRw := hBX.rw'
  clear hBX
  go_enter Tryz.func14, Tryz.ntmps14
  go_upto_region 1 with fail
  generalize (w.alloc (.cells #[.int .i64 p.f, .int .i64 p.t, .int .i64 p.tl, .int .i64 p.pr, .int .i64 p.id, .int .i64 p.fr, .bool p.mo, .bool p.dn, .string p.op, .string p.da] 23)).alloc (.cells #[.int .i64 0, .int .i64 0, .int .i64 0, .int .i64 0, .int .i64 0, .int .i64 0, .bool false, .bool false, .string ⟨#[]⟩, .string ⟨#[]⟩] 23) = W0 at *
  go_wp2_with (first | (refine wpList_load_at rfl 23 _ rfl _ w.heap.size #[.int .i64 p.f, .int .i64 p.t, .int .i64 p.tl, .int .i64 p.pr, .int .i64 p.id, .int .i64 p.fr, .bool p.mo, .bool p.dn, .string p.op, .string p.da] _ rfl hPb Tryz.underlying23 (by kernel_rfl) ?_) | fail)
  refine (chk_t (dn := p.dn) hmay _ ho hd).mono ?_
  rintro e w1 ⟨rfl, l1⟩
  replace hPb := hPb.later l1
  replace hZb := hZb.later l1
  replace hB0 := hB0.later l1
  replace hl0 := bt hl0 l1
  go_wp2_with fail
  refine (move_any hB0 now hn1 hn2).mono ?_
  rintro e w2 ⟨rfl, hB2, ht2⟩
  have hP2 := hPb.turn ht2 (by omega)
  have hZ2 := hZb.turn ht2 (by omega)
  have htt : Turn (fun k => k = B) w w2 := (Turn.of_below hl0).trans ht2
  clear hPb hZb hB0 hl0 ht2 l1
  have hwc := whl_any p.f p.t p.tl p.pr p.id p.fr p.mo p.dn p.op p.da w2
  rw [hwh] at hwc
  go_wp2_with (first | (refine wpList_load_at rfl 23 _ rfl _ w.heap.size #[.int .i64 p.f, .int .i64 p.t, .int .i64 p.tl, .int .i64 p.pr, .int .i64 p.id, .int .i64 p.fr, .bool p.mo, .bool p.dn, .string p.op, .string p.da] _ rfl hP2 Tryz.underlying23 (by kernel_rfl) ?_) | fail)
  refine hwc.mono ?_
  rintro e w3 ⟨rfl, l3⟩
  clear hwc
  replace hP2 := hP2.later l3
  replace hZ2 := hZ2.later l3
  replace hB2 := hB2.later l3
  replace htt := htt.later l3
  have hs3 := hZ2.1
  clear l3
  have hone := oneQ p
  go_wp2_with (first
    | (refine wpList_load_at rfl 23 _ rfl _ w.heap.size #[.int .i64 p.f, .int .i64 p.t, .int .i64 p.tl, .int .i64 p.pr, .int .i64 p.id, .int .i64 p.fr, .bool p.mo, .bool p.dn, .string p.op, .string p.da] _ rfl hP2 Tryz.underlying23 (by kernel_rfl) ?_)
    | (refine wpList_store_at rfl 23 _ _ rfl _ (w.heap.size + 1) #[.int .i64 0, .int .i64 0, .int .i64 0, .int .i64 0, .int .i64 0, .int .i64 0, .bool false, .bool false, .string ⟨#[]⟩, .string ⟨#[]⟩] #[.int .i64 p.f, .int .i64 p.t, .int .i64 p.tl, .int .i64 p.pr, .int .i64 p.id, .int .i64 p.fr, .bool p.mo, .bool p.dn, .string p.op, .string p.da] rfl rfl hZ2 rfl (by kernel_rfl) hone ?_; intro w5 hZ5 ht5))
  have r0 := (hZ5.2 0 _ rfl).1
  have r1 := (hZ5.2 1 _ rfl).1
  have r2 := (hZ5.2 2 _ rfl).1
  have r3 := (hZ5.2 3 _ rfl).1
  have r4 := (hZ5.2 4 _ rfl).1
  have r5 := (hZ5.2 5 _ rfl).1
  have r6 := (hZ5.2 6 _ rfl).1
  have r7 := (hZ5.2 7 _ rfl).1
  have r8 := (hZ5.2 8 _ rfl).1
  have r9 := (hZ5.2 9 _ rfl).1
  exact bodyPost_ret (v := .tuple #[.agg #[.int .i64 p.f, .int .i64 p.t, .int .i64 p.tl, .int .i64 p.pr, .int .i64 p.id, .int .i64 p.fr, .bool p.mo, .bool p.dn, .string p.op, .string p.da], .bool true, .int .i64 0]) (by simp [results, Tryz.results14, go_sem, r0, r1, r2, r3, r4, r5, r6, r7, r8, r9]) rfl ⟨rfl, w3, w3, hB2, htt, hs3, rfl, ht5⟩
set_option maxHeartbeats 4000000 in
theorem take_no (p : Pk) (hmay : p.may = true) (w : World) (R B M : Nat) (ro pa la tu : Int) (l : List Pile) (hBX : BX w R B M ro pa la tu l) (now : Int) (hn1 : la ≤ now) (hn2 : now ≤ 1099511627776) (hwh : wholeB p.fr p.mo = false) (Φ : World → World → Prop) (hlay : ∀ W, BX W R B M ro pa now tu l → Calls Tryz.prog 35 #[.pointer (some ⟨B, 0, none⟩), .agg #[.int .i64 p.f, .int .i64 p.t, .int .i64 p.tl, .int .i64 p.pr, .int .i64 p.id, .int .i64 p.fr, .bool p.mo, .bool p.dn, .string p.op, .string p.da]] W fun e w' => e = .returned (.tuple #[.agg #[.int .i64 0, .int .i64 0, .int .i64 0, .int .i64 0, .int .i64 0, .int .i64 0, .bool false, .bool false, .string ⟨#[]⟩, .string ⟨#[]⟩], .bool false, .int .i64 0]) ∧ Φ W w') (hΦ : ∀ W W', BX W R B M ro pa now tu l → Φ W W' → Turn (FL B M l) W W') :
    Calls Tryz.prog 14 #[.pointer (some ⟨B, 0, none⟩), .agg #[.int .i64 p.f, .int .i64 p.t, .int .i64 p.tl, .int .i64 p.pr, .int .i64 p.id, .int .i64 p.fr, .bool p.mo, .bool p.dn, .string p.op, .string p.da], .int .i64 now] w fun e w' => e = .returned (.tuple #[.agg #[.int .i64 0, .int .i64 0, .int .i64 0, .int .i64 0, .int .i64 0, .int .i64 0, .bool false, .bool false, .string ⟨#[]⟩, .string ⟨#[]⟩], .bool false, .int .i64 0]) ∧ TP w w' R B M ro pa now tu l Φ := by
  have hrl : ∀ x ∈ l, ∀ k, x.v.ownBlock = some k → k < w.heap.size := fun x hx k hk => (hBX.ok x hx).row.lt k hk
  have hmR := hBX.mR
  have HRL : Hid (∀ x ∈ l, ∀ k, x.v.ownBlock = some k → k < w.heap.size) := hrl
  clear hrl
  have HL : Hid (∀ W, BX W R B M ro pa now tu l → Calls Tryz.prog 35 #[.pointer (some ⟨B, 0, none⟩), .agg #[.int .i64 p.f, .int .i64 p.t, .int .i64 p.tl, .int .i64 p.pr, .int .i64 p.id, .int .i64 p.fr, .bool p.mo, .bool p.dn, .string p.op, .string p.da]] W fun e w' => e = .returned (.tuple #[.agg #[.int .i64 0, .int .i64 0, .int .i64 0, .int .i64 0, .int .i64 0, .int .i64 0, .bool false, .bool false, .string ⟨#[]⟩, .string ⟨#[]⟩], .bool false, .int .i64 0]) ∧ Φ W w') := hlay
  have HP : Hid (∀ W W', BX W R B M ro pa now tu l → Φ W W' → Turn (FL B M l) W W') := hΦ
  clear hlay hΦ
  have hp := may_fine hmay
  have ho : p.op.size ≤ 1125899906842624 := by have := hp.ol; omega
  have hd : p.da.size ≤ 1125899906842624 := by have := hp.dl; omega
  have hPb := (At.box w #[.int .i64 p.f, .int .i64 p.t, .int .i64 p.tl, .int .i64 p.pr, .int .i64 p.id, .int .i64 p.fr, .bool p.mo, .bool p.dn, .string p.op, .string p.da] 23).later (bel1 _ (.cells #[.int .i64 0, .int .i64 0, .int .i64 0, .int .i64 0, .int .i64 0, .int .i64 0, .bool false, .bool false, .string ⟨#[]⟩, .string ⟨#[]⟩] 23))
  have hZb := At.box2 w (.cells #[.int .i64 p.f, .int .i64 p.t, .int .i64 p.tl, .int .i64 p.pr, .int .i64 p.id, .int .i64 p.fr, .bool p.mo, .bool p.dn, .string p.op, .string p.da] 23) #[.int .i64 0, .int .i64 0, .int .i64 0, .int .i64 0, .int .i64 0, .int .i64 0, .bool false, .bool false, .string ⟨#[]⟩, .string ⟨#[]⟩] 23
  have hl0 := bt (bel1 w (.cells #[.int .i64 p.f, .int .i64 p.t, .int .i64 p.tl, .int .i64 p.pr, .int .i64 p.id, .int .i64 p.fr, .bool p.mo, .bool p.dn, .string p.op, .string p.da] 23)) (bel1 _ (.cells #[.int .i64 0, .int .i64 0, .int .i64 0, .int .i64 0, .int .i64 0, .int .i64 0, .bool false, .bool false, .string ⟨#[]⟩, .string ⟨#[]⟩] 23))
  have hB0 := hBX.later hl0
  have hbR := hBX.bR
  have hRw := hBX.rw'
  clear hBX
  go_enter Tryz.func14, Tryz.ntmps14
  go_upto_region 1 with fail
  generalize (w.alloc (.cells #[.int .i64 p.f, .int .i64 p.t, .int .i64 p.tl, .int .i64 p.pr, .int .i64 p.id, .int .i64 p.fr, .bool p.mo, .bool p.dn, .string p.op, .string p.da] 23)).alloc (.cells #[.int .i64 0, .int .i64 0, .int .i64 0, .int .i64 0, .int .i64 0, .int .i64 0, .bool false, .bool false, .string ⟨#[]⟩, .string ⟨#[]⟩] 23) = W0 at *
  go_wp2_with (first | (refine wpList_load_at rfl 23 _ rfl _ w.heap.size #[.int .i64 p.f, .int .i64 p.t, .int .i64 p.tl, .int .i64 p.pr, .int .i64 p.id, .int .i64 p.fr, .bool p.mo, .bool p.dn, .string p.op, .string p.da] _ rfl hPb Tryz.underlying23 (by kernel_rfl) ?_) | fail)
  refine (chk_t (dn := p.dn) hmay _ ho hd).mono ?_
  rintro e w1 ⟨rfl, l1⟩
  replace hPb := hPb.later l1
  replace hZb := hZb.later l1
  replace hB0 := hB0.later l1
  replace hl0 := bt hl0 l1
  go_wp2_with fail
  refine (move_any hB0 now hn1 hn2).mono ?_
  rintro e w2 ⟨rfl, hB2, ht2⟩
  have hP2 := hPb.turn ht2 (by omega)
  have hZ2 := hZb.turn ht2 (by omega)
  have htt : Turn (fun k => k = B) w w2 := (Turn.of_below hl0).trans ht2
  clear hPb hZb hB0 hl0 ht2 l1
  have hwc := whl_any p.f p.t p.tl p.pr p.id p.fr p.mo p.dn p.op p.da w2
  rw [hwh] at hwc
  go_wp2_with (first | (refine wpList_load_at rfl 23 _ rfl _ w.heap.size #[.int .i64 p.f, .int .i64 p.t, .int .i64 p.tl, .int .i64 p.pr, .int .i64 p.id, .int .i64 p.fr, .bool p.mo, .bool p.dn, .string p.op, .string p.da] _ rfl hP2 Tryz.underlying23 (by kernel_rfl) ?_) | fail)
  refine hwc.mono ?_
  rintro e w3 ⟨rfl, l3⟩
  clear hwc
  replace hP2 := hP2.later l3
  replace hZ2 := hZ2.later l3
  replace hB2 := hB2.later l3
  replace htt := htt.later l3
  have hs3 := hZ2.1
  clear l3
  have hcon := HL.out w3 hB2
  go_wp2_with (first | (refine wpList_load_at rfl 23 _ rfl _ w.heap.size #[.int .i64 p.f, .int .i64 p.t, .int .i64 p.tl, .int .i64 p.pr, .int .i64 p.id, .int .i64 p.fr, .bool p.mo, .bool p.dn, .string p.op, .string p.da] _ rfl hP2 Tryz.underlying23 (by kernel_rfl) ?_) | fail)
  refine hcon.mono ?_
  rintro e w4 ⟨rfl, hφ⟩
  have hZ4 := hZ2.turn (HP.out _ _ hB2 hφ) (fun e => by
    rcases e with e | e | ⟨x, hx, e⟩
    · omega
    · omega
    · have := HRL.out x hx _ e; omega)
  have HF : Hid (Φ w3 w4) := hφ
  clear hcon hφ
  go_wp2_with (first
    | (refine wpList_store_at rfl 23 _ _ rfl _ (w.heap.size + 1) #[.int .i64 0, .int .i64 0, .int .i64 0, .int .i64 0, .int .i64 0, .int .i64 0, .bool false, .bool false, .string ⟨#[]⟩, .string ⟨#[]⟩] #[.int .i64 0, .int .i64 0, .int .i64 0, .int .i64 0, .int .i64 0, .int .i64 0, .bool false, .bool false, .string ⟨#[]⟩, .string ⟨#[]⟩] rfl rfl hZ4 rfl (by kernel_rfl) (by simp [Value.oneCell']) ?_; intro w5 hZ5 ht5))
  have r0 := (hZ5.2 0 _ rfl).1
  have r1 := (hZ5.2 1 _ rfl).1
  have r2 := (hZ5.2 2 _ rfl).1
  have r3 := (hZ5.2 3 _ rfl).1
  have r4 := (hZ5.2 4 _ rfl).1
  have r5 := (hZ5.2 5 _ rfl).1
  have r6 := (hZ5.2 6 _ rfl).1
  have r7 := (hZ5.2 7 _ rfl).1
  have r8 := (hZ5.2 8 _ rfl).1
  have r9 := (hZ5.2 9 _ rfl).1
  exact bodyPost_ret (v := .tuple #[.agg #[.int .i64 0, .int .i64 0, .int .i64 0, .int .i64 0, .int .i64 0, .int .i64 0, .bool false, .bool false, .string ⟨#[]⟩, .string ⟨#[]⟩], .bool false, .int .i64 0]) (by simp [results, Tryz.results14, go_sem, r0, r1, r2, r3, r4, r5, r6, r7, r8, r9]) rfl ⟨rfl, w3, w4, hB2, htt, hs3, HF.out, ht5⟩
set_option maxHeartbeats 4000000 in
theorem take_yes (p : Pk) (hmay : p.may = true) (w : World) (R B M : Nat) (ro pa la tu : Int) (l : List Pile) (hBX : BX w R B M ro pa la tu l) (now : Int) (hn1 : la ≤ now) (hn2 : now ≤ 1099511627776) (q : Pk) (ds : List UInt8) (hwh : wholeB p.fr p.mo = false) (Φ : World → World → Prop) (hlay : ∀ W, BX W R B M ro pa now tu l → Calls Tryz.prog 35 #[.pointer (some ⟨B, 0, none⟩), .agg #[.int .i64 p.f, .int .i64 p.t, .int .i64 p.tl, .int .i64 p.pr, .int .i64 p.id, .int .i64 p.fr, .bool p.mo, .bool p.dn, .string p.op, .string p.da]] W fun e w' => e = .returned (.tuple #[.agg #[.int .i64 q.f, .int .i64 q.t, .int .i64 q.tl, .int .i64 q.pr, .int .i64 q.id, .int .i64 q.fr, .bool false, .bool q.dn, .string q.op, .string ⟨ds.toArray⟩], .bool true, .int .i64 0]) ∧ Φ W w') (hΦ : ∀ W W', BX W R B M ro pa now tu l → Φ W W' → Turn (FL B M l) W W') :
    Calls Tryz.prog 14 #[.pointer (some ⟨B, 0, none⟩), .agg #[.int .i64 p.f, .int .i64 p.t, .int .i64 p.tl, .int .i64 p.pr, .int .i64 p.id, .int .i64 p.fr, .bool p.mo, .bool p.dn, .string p.op, .string p.da], .int .i64 now] w fun e w' => e = .returned (.tuple #[.agg #[.int .i64 q.f, .int .i64 q.t, .int .i64 q.tl, .int .i64 q.pr, .int .i64 q.id, .int .i64 q.fr, .bool false, .bool q.dn, .string q.op, .string ⟨ds.toArray⟩], .bool true, .int .i64 0]) ∧ TP w w' R B M ro pa now tu l Φ := by
  have hrl : ∀ x ∈ l, ∀ k, x.v.ownBlock = some k → k < w.heap.size := fun x hx k hk => (hBX.ok x hx).row.lt k hk
  have hmR := hBX.mR
  have HRL : Hid (∀ x ∈ l, ∀ k, x.v.ownBlock = some k → k < w.heap.size) := hrl
  clear hrl
  have HL : Hid (∀ W, BX W R B M ro pa now tu l → Calls Tryz.prog 35 #[.pointer (some ⟨B, 0, none⟩), .agg #[.int .i64 p.f, .int .i64 p.t, .int .i64 p.tl, .int .i64 p.pr, .int .i64 p.id, .int .i64 p.fr, .bool p.mo, .bool p.dn, .string p.op, .string p.da]] W fun e w' => e = .returned (.tuple #[.agg #[.int .i64 q.f, .int .i64 q.t, .int .i64 q.tl, .int .i64 q.pr, .int .i64 q.id, .int .i64 q.fr, .bool false, .bool q.dn, .string q.op, .string ⟨ds.toArray⟩], .bool true, .int .i64 0]) ∧ Φ W w') := hlay
  have HP : Hid (∀ W W', BX W R B M ro pa now tu l → Φ W W' → Turn (FL B M l) W W') := hΦ
  clear hlay hΦ
  have hp := may_fine hmay
  have ho : p.op.size ≤ 1125899906842624 := by have := hp.ol; omega
  have hd : p.da.size ≤ 1125899906842624 := by have := hp.dl; omega
  have hPb := (At.box w #[.int .i64 p.f, .int .i64 p.t, .int .i64 p.tl, .int .i64 p.pr, .int .i64 p.id, .int .i64 p.fr, .bool p.mo, .bool p.dn, .string p.op, .string p.da] 23).later (bel1 _ (.cells #[.int .i64 0, .int .i64 0, .int .i64 0, .int .i64 0, .int .i64 0, .int .i64 0, .bool false, .bool false, .string ⟨#[]⟩, .string ⟨#[]⟩] 23))
  have hZb := At.box2 w (.cells #[.int .i64 p.f, .int .i64 p.t, .int .i64 p.tl, .int .i64 p.pr, .int .i64 p.id, .int .i64 p.fr, .bool p.mo, .bool p.dn, .string p.op, .string p.da] 23) #[.int .i64 0, .int .i64 0, .int .i64 0, .int .i64 0, .int .i64 0, .int .i64 0, .bool false, .bool false, .string ⟨#[]⟩, .string ⟨#[]⟩] 23
  have hl0 := bt (bel1 w (.cells #[.int .i64 p.f, .int .i64 p.t, .int .i64 p.tl, .int .i64 p.pr, .int .i64 p.id, .int .i64 p.fr, .bool p.mo, .bool p.dn, .string p.op, .string p.da] 23)) (bel1 _ (.cells #[.int .i64 0, .int .i64 0, .int .i64 0, .int .i64 0, .int .i64 0, .int .i64 0, .bool false, .bool false, .string ⟨#[]⟩, .string ⟨#[]⟩] 23))
  have hB0 := hBX.later hl0
  have hbR := hBX.bR
  have hRw := hBX.rw'
  clear hBX
  go_enter Tryz.func14, Tryz.ntmps14
  go_upto_region 1 with fail
  generalize (w.alloc (.cells #[.int .i64 p.f, .int .i64 p.t, .int .i64 p.tl, .int .i64 p.pr, .int .i64 p.id, .int .i64 p.fr, .bool p.mo, .bool p.dn, .string p.op, .string p.da] 23)).alloc (.cells #[.int .i64 0, .int .i64 0, .int .i64 0, .int .i64 0, .int .i64 0, .int .i64 0, .bool false, .bool false, .string ⟨#[]⟩, .string ⟨#[]⟩] 23) = W0 at *
  go_wp2_with (first | (refine wpList_load_at rfl 23 _ rfl _ w.heap.size #[.int .i64 p.f, .int .i64 p.t, .int .i64 p.tl, .int .i64 p.pr, .int .i64 p.id, .int .i64 p.fr, .bool p.mo, .bool p.dn, .string p.op, .string p.da] _ rfl hPb Tryz.underlying23 (by kernel_rfl) ?_) | fail)
  refine (chk_t (dn := p.dn) hmay _ ho hd).mono ?_
  rintro e w1 ⟨rfl, l1⟩
  replace hPb := hPb.later l1
  replace hZb := hZb.later l1
  replace hB0 := hB0.later l1
  replace hl0 := bt hl0 l1
  go_wp2_with fail
  refine (move_any hB0 now hn1 hn2).mono ?_
  rintro e w2 ⟨rfl, hB2, ht2⟩
  have hP2 := hPb.turn ht2 (by omega)
  have hZ2 := hZb.turn ht2 (by omega)
  have htt : Turn (fun k => k = B) w w2 := (Turn.of_below hl0).trans ht2
  clear hPb hZb hB0 hl0 ht2 l1
  have hwc := whl_any p.f p.t p.tl p.pr p.id p.fr p.mo p.dn p.op p.da w2
  rw [hwh] at hwc
  go_wp2_with (first | (refine wpList_load_at rfl 23 _ rfl _ w.heap.size #[.int .i64 p.f, .int .i64 p.t, .int .i64 p.tl, .int .i64 p.pr, .int .i64 p.id, .int .i64 p.fr, .bool p.mo, .bool p.dn, .string p.op, .string p.da] _ rfl hP2 Tryz.underlying23 (by kernel_rfl) ?_) | fail)
  refine hwc.mono ?_
  rintro e w3 ⟨rfl, l3⟩
  clear hwc
  replace hP2 := hP2.later l3
  replace hZ2 := hZ2.later l3
  replace hB2 := hB2.later l3
  replace htt := htt.later l3
  have hs3 := hZ2.1
  clear l3
  have hcon := HL.out w3 hB2
  go_wp2_with (first | (refine wpList_load_at rfl 23 _ rfl _ w.heap.size #[.int .i64 p.f, .int .i64 p.t, .int .i64 p.tl, .int .i64 p.pr, .int .i64 p.id, .int .i64 p.fr, .bool p.mo, .bool p.dn, .string p.op, .string p.da] _ rfl hP2 Tryz.underlying23 (by kernel_rfl) ?_) | fail)
  refine hcon.mono ?_
  rintro e w4 ⟨rfl, hφ⟩
  have hZ4 := hZ2.turn (HP.out _ _ hB2 hφ) (fun e => by
    rcases e with e | e | ⟨x, hx, e⟩
    · omega
    · omega
    · have := HRL.out x hx _ e; omega)
  have HF : Hid (Φ w3 w4) := hφ
  clear hcon hφ
  go_wp2_with (first
    | (refine wpList_store_at rfl 23 _ _ rfl _ (w.heap.size + 1) #[.int .i64 0, .int .i64 0, .int .i64 0, .int .i64 0, .int .i64 0, .int .i64 0, .bool false, .bool false, .string ⟨#[]⟩, .string ⟨#[]⟩] #[.int .i64 q.f, .int .i64 q.t, .int .i64 q.tl, .int .i64 q.pr, .int .i64 q.id, .int .i64 q.fr, .bool false, .bool q.dn, .string q.op, .string ⟨ds.toArray⟩] rfl rfl hZ4 rfl (by kernel_rfl) (by simp [Value.oneCell']) ?_; intro w5 hZ5 ht5))
  have r0 := (hZ5.2 0 _ rfl).1
  have r1 := (hZ5.2 1 _ rfl).1
  have r2 := (hZ5.2 2 _ rfl).1
  have r3 := (hZ5.2 3 _ rfl).1
  have r4 := (hZ5.2 4 _ rfl).1
  have r5 := (hZ5.2 5 _ rfl).1
  have r6 := (hZ5.2 6 _ rfl).1
  have r7 := (hZ5.2 7 _ rfl).1
  have r8 := (hZ5.2 8 _ rfl).1
  have r9 := (hZ5.2 9 _ rfl).1
  exact bodyPost_ret (v := .tuple #[.agg #[.int .i64 q.f, .int .i64 q.t, .int .i64 q.tl, .int .i64 q.pr, .int .i64 q.id, .int .i64 q.fr, .bool false, .bool q.dn, .string q.op, .string ⟨ds.toArray⟩], .bool true, .int .i64 0]) (by simp [results, Tryz.results14, go_sem, r0, r1, r2, r3, r4, r5, r6, r7, r8, r9]) rfl ⟨rfl, w3, w4, hB2, htt, hs3, HF.out, ht5⟩
end Go.Proofs.YthjbmloemmggaaaGreatDoor.Ip
