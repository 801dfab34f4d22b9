/- lay: a piece is put that does not fit. -/
import Derived.Test.YtcjhniehbafhpaaFp
namespace Go.Proofs.Ytcjhniehbafhpaa
open Go.RowKit Go.Maps
set_option maxRecDepth 100000
set_option linter.unusedVariables false
set_option linter.unusedSimpArgs false

set_option maxHeartbeats 8000000 in
theorem lay_bado (p : Pk) (hp : p.Fine) (hm : (mk p).wf) (w : World) (R B M : Nat) (ro pa la tu : Int) (a b : List Pile) (at_ tx : Int) (v : Value) (ps : List Pk) (hBX : BX w R B M ro pa la tu (a ++ ⟨mk p, at_, tx, v, ps⟩ :: b)) (h0 : ps ≠ []) (hh : ps.any (hasB p) = false) (hf : fitsL ps p = false) :
    Calls Try.prog 23 #[.pointer (some ⟨B, 0, none⟩), .agg #[.int .i64 p.f, .int .i64 p.t, .int .i64 p.tl, .int .i64 p.pr, .int .i64 p.id, .int .i64 p.fr, .bool p.mo, .bool p.dn, .string p.op, .string p.da]] w fun e w' => e = .returned (.tuple #[.agg #[.int .i64 0, .int .i64 0, .int .i64 0, .int .i64 0, .int .i64 0, .int .i64 0, .bool false, .bool false, .string ⟨#[]⟩, .string ⟨#[]⟩], .bool false, .int .i64 120]) ∧ LayBox w w' R B M ro pa la tu (a ++ ⟨mk p, at_, tx, v, ps⟩ :: b) (a ++ b) := by
  obtain ⟨va, vc, rfl⟩ : ∃ a c, v = .slice a ps.length c := RW.shape (hBX.ok ⟨mk p, at_, tx, v, ps⟩ (by simp)).row
  have hPb := (At.box w #[.int .i64 p.f, .int .i64 p.t, .int .i64 p.tl, .int .i64 p.pr, .int .i64 p.id, .int .i64 p.fr, .bool p.mo, .bool p.dn, .string p.op, .string p.da] 32).later (bel1 _ (.cells #[.int .i64 0, .int .i64 0, .int .i64 0, .int .i64 0, .int .i64 0, .int .i64 0, .bool false, .bool false, .string ⟨#[]⟩, .string ⟨#[]⟩] 32))
  have hZb := At.box2 w (.cells #[.int .i64 p.f, .int .i64 p.t, .int .i64 p.tl, .int .i64 p.pr, .int .i64 p.id, .int .i64 p.fr, .bool p.mo, .bool p.dn, .string p.op, .string p.da] 32) #[.int .i64 0, .int .i64 0, .int .i64 0, .int .i64 0, .int .i64 0, .int .i64 0, .bool false, .bool false, .string ⟨#[]⟩, .string ⟨#[]⟩] 32
  have hl0 := bt (bel1 w (.cells #[.int .i64 p.f, .int .i64 p.t, .int .i64 p.tl, .int .i64 p.pr, .int .i64 p.id, .int .i64 p.fr, .bool p.mo, .bool p.dn, .string p.op, .string p.da] 32)) (bel1 _ (.cells #[.int .i64 0, .int .i64 0, .int .i64 0, .int .i64 0, .int .i64 0, .int .i64 0, .bool false, .bool false, .string ⟨#[]⟩, .string ⟨#[]⟩] 32))
  have hB0 := hBX.later hl0
  have hRw := hBX.rw'
  have hrl : ∀ x ∈ (a ++ ⟨mk p, at_, tx, .slice va ps.length vc, ps⟩ :: b), ∀ k, x.v.ownBlock = some k → k < w.heap.size := fun x hx k hk => (hBX.ok x hx).row.lt k hk
  have HRL : Hid (∀ x ∈ (a ++ ⟨mk p, at_, tx, .slice va ps.length vc, ps⟩ :: b), ∀ k, x.v.ownBlock = some k → k < w.heap.size) := hrl
  have hbR := hBX.bR
  have hmR := hBX.mR
  clear hBX hrl
  go_enter Try.func23, Try.ntmps23
  go_upto_region 1 with fail
  generalize (w.alloc (.cells #[.int .i64 p.f, .int .i64 p.t, .int .i64 p.tl, .int .i64 p.pr, .int .i64 p.id, .int .i64 p.fr, .bool p.mo, .bool p.dn, .string p.op, .string p.da] 32)).alloc (.cells #[.int .i64 0, .int .i64 0, .int .i64 0, .int .i64 0, .int .i64 0, .int .i64 0, .bool false, .bool false, .string ⟨#[]⟩, .string ⟨#[]⟩] 32) = W0 at *
  have c0 := (hPb.2 0 _ rfl).1
  have c1 := (hPb.2 1 _ rfl).1
  have c3 := (hPb.2 3 _ rfl).1
  have c4 := (hPb.2 4 _ rfl).1
  have hW0 : w.heap.size + 2 ≤ W0.heap.size := by have := hZb.1; omega
  go_upto_region 2 with (first
    | (refine wpList_store_at rfl 77 _ _ rfl _ W0.heap.size #[.int .i64 0, .int .i64 0, .int .i64 0, .int .i64 0] #[.int .i64 p.f, .int .i64 p.t, .int .i64 p.pr, .int .i64 p.id] rfl rfl (At.box W0 #[.int .i64 0, .int .i64 0, .int .i64 0, .int .i64 0] 77) rfl infoM (by simp [Value.oneCell']) ?_; intro w1 hMk ht1)
    | go_in)
  have q1 : Below W0.heap.size W0 w1 := (bel1 W0 (.cells #[.int .i64 0, .int .i64 0, .int .i64 0, .int .i64 0] 77)).trans (below_turn ht1 (Nat.le_refl _) (bel1 W0 _).size)
  have hB1 := hB0.later q1
  have hP1 := hPb.later q1
  have hZ1 := hZb.later q1
  have hl1 := bt hl0 q1
  have hmb := hMk.1
  obtain ⟨mb, hmbe⟩ : ∃ x, x = W0.heap.size := ⟨_, rfl⟩
  rw [← hmbe] at hMk hmb hW0
  rw [← hmbe]
  clear c0 c1 c3 c4 hB0 hPb hZb hl0 ht1 q1 hmbe
  have hf4 : ∀ W, Below w1.heap.size w1 W → W.cell? ⟨B, 4, none⟩ = some (.map (some M)) := fun W hW => later hW (box_map hB1)
  have hm0 : ∀ W, Below w1.heap.size w1 W → W.cell? ⟨mb, 0, none⟩ = some (.int .i64 p.f) := fun W hW => later hW (hMk.2 0 _ rfl).1
  have hm1 : ∀ W, Below w1.heap.size w1 W → W.cell? ⟨mb, 1, none⟩ = some (.int .i64 p.t) := fun W hW => later hW (hMk.2 1 _ rfl).1
  have hm2 : ∀ W, Below w1.heap.size w1 W → W.cell? ⟨mb, 2, none⟩ = some (.int .i64 p.pr) := fun W hW => later hW (hMk.2 2 _ rfl).1
  have hm3 : ∀ W, Below w1.heap.size w1 W → W.cell? ⟨mb, 3, none⟩ = some (.int .i64 p.id) := fun W hW => later hW (hMk.2 3 _ rfl).1
  have hlk : ∀ W, Below w1.heap.size w1 W → (Instr.lookup 54 (.map (some M)) (.agg #[.int .i64 p.f, .int .i64 p.t, .int .i64 p.pr, .int .i64 p.id]) true).run Try.prog W = .ok (.tuple #[.agg #[.int .i64 at_, .int .i64 tx, .slice va ps.length vc], .bool true]) W := fun W hW => by
    have h := (hB1.map.later hW).look hm
    rw [glk_of hB1.map.2.1 (m := mk p) (v := .agg #[.int .i64 at_, .int .i64 tx, .slice va ps.length vc]) (List.mem_map.2 ⟨_, List.mem_append_right _ (List.mem_cons_self ..), rfl⟩)] at h
    exact h
  have hone : (#[.int .i64 at_, .int .i64 tx, .slice va ps.length vc] : Array Value).all (·.oneCell') = true := by simp [Value.oneCell']
  refine wp_region_held_drew (S := (fun W => Below w1.heap.size w1 W)) (by kernel_rfl) ?_ (fun hHeld => ?_)
  · first | exact (Below.refl _ _).drew | assumption
  refine wpAnyH_take (i := 0) (oi := ({ dst := some 20, op := Go.Op.move (Go.Operand.tmp 0), type := 23, pos := "frag.go:90", after := #[], guard := none } : Go.Oper)) (v := .pointer (some ⟨B, 0, none⟩)) rfl (by kernel_rfl) (by kernel_rfl) (by kernel_rfl) (fun _ _ _ h => h) (Or.inl ⟨by rfl, ?_⟩) (by assumption) ?_
  · intro wx hSw
    try dsimp only at hSw
    have u4 := hf4 wx hSw
    have um0 := hm0 wx hSw
    have um1 := hm1 wx hSw
    have um2 := hm2 wx hSw
    have um3 := hm3 wx hSw
    have ul := hlk wx hSw
    go_simp
    try with_reducible rfl
  try simp only [Act.put, List.setIfInBounds_toArray, List.set_cons_zero, List.set_cons_succ]
  refine wpAnyH_take (i := 1) (oi := ({ dst := some 21, op := Go.Op.nilCheck (Go.Operand.tmp 20), type := 0, pos := "frag.go:90", after := #[{ on := 0, ground := Go.Ground.data }], guard := none } : Go.Oper)) (v := .pointer (some ⟨B, 0, none⟩)) rfl (by kernel_rfl) (by kernel_rfl) (by kernel_rfl) (fun _ _ _ h => h) (Or.inl ⟨by rfl, ?_⟩) (by assumption) ?_
  · intro wx hSw
    try dsimp only at hSw
    have u4 := hf4 wx hSw
    have um0 := hm0 wx hSw
    have um1 := hm1 wx hSw
    have um2 := hm2 wx hSw
    have um3 := hm3 wx hSw
    have ul := hlk wx hSw
    go_simp
    try with_reducible rfl
  try simp only [Act.put, List.setIfInBounds_toArray, List.set_cons_zero, List.set_cons_succ]
  refine wpAnyH_take (i := 2) (oi := ({ dst := some 22, op := Go.Op.fieldAddr 56 (Go.Operand.tmp 21) 4, type := 0, pos := "frag.go:90", after := #[{ on := 1, ground := Go.Ground.data }], guard := none } : Go.Oper)) (v := .pointer (some ⟨B, 4, none⟩)) rfl (by kernel_rfl) (by kernel_rfl) (by kernel_rfl) (fun _ _ _ h => h) (Or.inl ⟨by rfl, ?_⟩) (by assumption) ?_
  · intro wx hSw
    try dsimp only at hSw
    have u4 := hf4 wx hSw
    have um0 := hm0 wx hSw
    have um1 := hm1 wx hSw
    have um2 := hm2 wx hSw
    have um3 := hm3 wx hSw
    have ul := hlk wx hSw
    go_simp
    try with_reducible rfl
  try simp only [Act.put, List.setIfInBounds_toArray, List.set_cons_zero, List.set_cons_succ]
  refine wpAnyH_take (i := 3) (oi := ({ dst := some 23, op := Go.Op.load 54 (Go.Operand.tmp 22), type := 54, pos := "frag.go:90", after := #[{ on := 2, ground := Go.Ground.data }], guard := none } : Go.Oper)) (v := .map (some M)) rfl (by kernel_rfl) (by kernel_rfl) (by kernel_rfl) (fun _ _ _ h => h) (Or.inl ⟨by rfl, ?_⟩) (by assumption) ?_
  · intro wx hSw
    try dsimp only at hSw
    have u4 := hf4 wx hSw
    have um0 := hm0 wx hSw
    have um1 := hm1 wx hSw
    have um2 := hm2 wx hSw
    have um3 := hm3 wx hSw
    have ul := hlk wx hSw
    go_simp
    try with_reducible rfl
  try simp only [Act.put, List.setIfInBounds_toArray, List.set_cons_zero, List.set_cons_succ]
  refine wpAnyH_take (i := 4) (oi := ({ dst := some 24, op := Go.Op.load 77 (Go.Operand.tmp 7), type := 77, pos := "frag.go:90", after := #[], guard := none } : Go.Oper)) (v := .agg #[.int .i64 p.f, .int .i64 p.t, .int .i64 p.pr, .int .i64 p.id]) rfl (by kernel_rfl) (by kernel_rfl) (by kernel_rfl) (fun _ _ _ h => h) (Or.inl ⟨by rfl, ?_⟩) (by assumption) ?_
  · intro wx hSw
    try dsimp only at hSw
    have u4 := hf4 wx hSw
    have um0 := hm0 wx hSw
    have um1 := hm1 wx hSw
    have um2 := hm2 wx hSw
    have um3 := hm3 wx hSw
    have ul := hlk wx hSw
    go_simp
    try with_reducible rfl
  try simp only [Act.put, List.setIfInBounds_toArray, List.set_cons_zero, List.set_cons_succ]
  refine wpAnyH_take (i := 5) (oi := ({ dst := some 25, op := Go.Op.lookup 54 (Go.Operand.tmp 23) (Go.Operand.tmp 24) true, type := 80, pos := "frag.go:90", after := #[{ on := 3, ground := Go.Ground.data }, { on := 4, ground := Go.Ground.data }], guard := none } : Go.Oper)) (v := .tuple #[.agg #[.int .i64 at_, .int .i64 tx, .slice va ps.length vc], .bool true]) rfl (by kernel_rfl) (by kernel_rfl) (by kernel_rfl) (fun _ _ _ h => h) (Or.inl ⟨by rfl, ?_⟩) (by assumption) ?_
  · intro wx hSw
    try dsimp only at hSw
    have u4 := hf4 wx hSw
    have um0 := hm0 wx hSw
    have um1 := hm1 wx hSw
    have um2 := hm2 wx hSw
    have um3 := hm3 wx hSw
    have ul := hlk wx hSw
    go_simp
    try with_reducible rfl
  try simp only [Act.put, List.setIfInBounds_toArray, List.set_cons_zero, List.set_cons_succ]
  refine wpAnyH_take (i := 6) (oi := ({ dst := some 19, op := Go.Op.move (Go.Operand.tmp 25), type := 80, pos := "frag.go:90", after := #[{ on := 5, ground := Go.Ground.data }], guard := none } : Go.Oper)) (v := .tuple #[.agg #[.int .i64 at_, .int .i64 tx, .slice va ps.length vc], .bool true]) rfl (by kernel_rfl) (by kernel_rfl) (by kernel_rfl) (fun _ _ _ h => h) (Or.inl ⟨by rfl, ?_⟩) (by assumption) ?_
  · intro wx hSw
    try dsimp only at hSw
    have u4 := hf4 wx hSw
    have um0 := hm0 wx hSw
    have um1 := hm1 wx hSw
    have um2 := hm2 wx hSw
    have um3 := hm3 wx hSw
    have ul := hlk wx hSw
    go_simp
    try with_reducible rfl
  try simp only [Act.put, List.setIfInBounds_toArray, List.set_cons_zero, List.set_cons_succ]
  refine wpAnyH_take (i := 7) (oi := ({ dst := some 26, op := Go.Op.extract (Go.Operand.tmp 19) 0, type := 61, pos := "frag.go:90", after := #[{ on := 6, ground := Go.Ground.data }], guard := none } : Go.Oper)) (v := .agg #[.int .i64 at_, .int .i64 tx, .slice va ps.length vc]) rfl (by kernel_rfl) (by kernel_rfl) (by kernel_rfl) (fun _ _ _ h => h) (Or.inl ⟨by rfl, ?_⟩) (by assumption) ?_
  · intro wx hSw
    try dsimp only at hSw
    have u4 := hf4 wx hSw
    have um0 := hm0 wx hSw
    have um1 := hm1 wx hSw
    have um2 := hm2 wx hSw
    have um3 := hm3 wx hSw
    have ul := hlk wx hSw
    go_simp
    try with_reducible rfl
  try simp only [Act.put, List.setIfInBounds_toArray, List.set_cons_zero, List.set_cons_succ]
  refine wpAnyH_take (i := 8) (oi := ({ dst := some 27, op := Go.Op.extract (Go.Operand.tmp 19) 1, type := 4, pos := "frag.go:90", after := #[{ on := 6, ground := Go.Ground.data }, { on := 10, ground := Go.Ground.gcOnly Go.Departure.lateStores }], guard := none } : Go.Oper)) (v := .bool true) rfl (by kernel_rfl) (by kernel_rfl) (by kernel_rfl) (fun _ _ _ h => h) (Or.inl ⟨by rfl, ?_⟩) (by assumption) ?_
  · intro wx hSw
    try dsimp only at hSw
    have u4 := hf4 wx hSw
    have um0 := hm0 wx hSw
    have um1 := hm1 wx hSw
    have um2 := hm2 wx hSw
    have um3 := hm3 wx hSw
    have ul := hlk wx hSw
    go_simp
    try with_reducible rfl
  try simp only [Act.put, List.setIfInBounds_toArray, List.set_cons_zero, List.set_cons_succ]
  refine wpAnyH_ready (rs := [9]) (by kernel_rfl) (by simp) ?_
  refine AllReadyH.cons (o := ({ dst := some 8, op := Go.Op.alloc 61, type := 0, pos := "frag.go:90", after := #[], guard := none } : Go.Oper)) rfl (fun K hK => ?_) AllReadyH.nil
  go_simp
  refine hK.out _ _ (bt hHeld (bel1 _ _)) (fun hHeld => ?_)
  clear hK K
  try simp only [Act.put, List.setIfInBounds_toArray, List.set_cons_zero, List.set_cons_succ]
  refine wpAnyH_ready (rs := [10]) (by kernel_rfl) (by simp) ?_
  refine AllReadyH.cons (o := ({ dst := none, op := Go.Op.store 61 (Go.Operand.tmp 8) (Go.Operand.tmp 26), type := 0, pos := "frag.go:90", after := #[{ on := 9, ground := Go.Ground.data }, { on := 7, ground := Go.Ground.data }, { on := 0, ground := Go.Ground.phase }, { on := 1, ground := Go.Ground.phase }, { on := 2, ground := Go.Ground.phase }, { on := 3, ground := Go.Ground.phase }, { on := 4, ground := Go.Ground.phase }, { on := 5, ground := Go.Ground.phase }, { on := 6, ground := Go.Ground.phase }, { on := 7, ground := Go.Ground.phase }, { on := 8, ground := Go.Ground.textOnly Go.Departure.lateStores }, { on := 9, ground := Go.Ground.phase }], guard := none } : Go.Oper)) rfl (fun K hK => ?_) AllReadyH.nil
  rw [if_pos (by rfl)]
  refine op_store_at 61 _ _ rfl _ w1.heap.size #[.int .i64 0, .int .i64 0, .slice none 0 0] #[.int .i64 at_, .int .i64 tx, .slice va ps.length vc] rfl rfl (At.box w1.drew #[.int .i64 0, .int .i64 0, .slice none 0 0] 61) rfl infoX hone ?_
  intro w2 hX2 ht2
  have hb2 : Below w1.heap.size w1 w2 := hHeld.trans (below_turn ht2 (Nat.le_refl _) hHeld.size)
  refine hK.out _ _ hb2 (fun hHeld => ?_)
  clear hK K
  try simp only [Act.put, List.setIfInBounds_toArray, List.set_cons_zero, List.set_cons_succ]
  refine wpAnyH_take (i := 11) (oi := ({ dst := some 9, op := Go.Op.assign (Go.Operand.tmp 27), type := 4, pos := "frag.go:90", after := #[{ on := 8, ground := Go.Ground.data }, { on := 10, ground := Go.Ground.chain }, { on := 0, ground := Go.Ground.phase }, { on := 1, ground := Go.Ground.phase }, { on := 2, ground := Go.Ground.phase }, { on := 3, ground := Go.Ground.phase }, { on := 4, ground := Go.Ground.phase }, { on := 5, ground := Go.Ground.phase }, { on := 6, ground := Go.Ground.phase }, { on := 7, ground := Go.Ground.phase }, { on := 8, ground := Go.Ground.phase }, { on := 9, ground := Go.Ground.phase }, { on := 10, ground := Go.Ground.phase }], guard := none } : Go.Oper)) (v := .bool true) rfl (by kernel_rfl) (by kernel_rfl) (by kernel_rfl) (fun _ _ _ h => h) (Or.inl ⟨by rfl, ?_⟩) (by assumption) ?_
  · intro wx hSw
    try dsimp only at hSw
    have u4 := hf4 wx hSw
    have um0 := hm0 wx hSw
    have um1 := hm1 wx hSw
    have um2 := hm2 wx hSw
    have um3 := hm3 wx hSw
    have ul := hlk wx hSw
    go_simp
    try with_reducible rfl
  try simp only [Act.put, List.setIfInBounds_toArray, List.set_cons_zero, List.set_cons_succ]
  refine wpAnyH_done (by kernel_rfl) ?_ _
  replace hB1 := hB1.later hb2
  replace hP1 := hP1.later hb2
  replace hZ1 := hZ1.later hb2
  replace hMk := hMk.later hb2
  replace hl1 := bt hl1 hb2
  obtain ⟨xb, hxb⟩ : ∃ x, x = w1.heap.size := ⟨_, rfl⟩
  rw [← hxb] at hX2 hmb
  rw [← hxb]
  have hxs := hX2.1
  clear hf4 hm0 hm1 hm2 hm3 hlk hHeld ht2 hb2 hxb
  go_upto_region 3 with fail
  go_quiet (fail)
  have qd : Below w2.heap.size w2 (w2.drewN nq) := below_drewN (Below.refl _ _) nq
  replace hB1 := hB1.later qd
  replace hP1 := hP1.later qd
  replace hZ1 := hZ1.later qd
  replace hMk := hMk.later qd
  replace hX2 := hX2.later qd
  replace hl1 := bt hl1 qd
  have hxs' := hX2.1
  clear qd hxs
  go_upto_region 5 with fail
  generalize w2.drewN nq = w3 at *
  have htt : Turn (FL B M (a ++ ⟨mk p, at_, tx, .slice va ps.length vc, ps⟩ :: b)) w w3 := Turn.of_below hl1
  have hr5 : RW w3 R (.slice va ps.length vc) ps := (hB1.ok _ (List.mem_append_right _ (List.mem_cons_self ..))).row
  have hok := hB1.ok _ (List.mem_append_right _ (List.mem_cons_self ..))
  have HFI : Hid (∀ q ∈ ps, q.Fine) := hok.fine
  have HRI : Hid (ps.Pairwise (fun a b => a.fr ≤ b.fr)) := hok.rise
  have hle : ps.length ≤ 64 := hok.len
  have hB5 := hB1
  have hP5 := hP1
  have hZ5 := hZ1
  have hM5 := hMk
  have hX5 := hX2
  clear hok hB1 hP1 hZ1 hMk hX2 hl1
  go_upto_region 7 with fail
  have hcon := has_any p ps at_ tx (.slice va ps.length vc) R w3 hr5 (by omega)
  rw [hh] at hcon
  go_wp2_with (first
    | (refine wpList_load_at rfl 61 _ rfl _ xb #[.int .i64 at_, .int .i64 tx, .slice va ps.length vc] _ rfl hX5 Try.underlying61 infoX ?_)
    | (refine wpList_load_at rfl 32 _ rfl _ w.heap.size #[.int .i64 p.f, .int .i64 p.t, .int .i64 p.tl, .int .i64 p.pr, .int .i64 p.id, .int .i64 p.fr, .bool p.mo, .bool p.dn, .string p.op, .string p.da] _ rfl hP5 Try.underlying32 (by kernel_rfl) ?_)
    | fail)
  refine hcon.mono ?_
  rintro e w6 ⟨rfl, l6⟩
  clear hcon
  replace hB5 := hB5.later l6
  replace hP5 := hP5.later l6
  replace hZ5 := hZ5.later l6
  replace hM5 := hM5.later l6
  replace hX5 := hX5.later l6
  replace hr5 := hr5.later l6
  replace htt := htt.later l6
  clear l6
  have hcon := fitsP_any p ps at_ tx (.slice va ps.length vc) R w6 hr5 (by omega) hp HFI.out
  rw [hf] at hcon
  go_wp2_with (first
    | (refine wpList_load_at rfl 61 _ rfl _ xb #[.int .i64 at_, .int .i64 tx, .slice va ps.length vc] _ rfl hX5 Try.underlying61 infoX ?_)
    | (refine wpList_load_at rfl 32 _ rfl _ w.heap.size #[.int .i64 p.f, .int .i64 p.t, .int .i64 p.tl, .int .i64 p.pr, .int .i64 p.id, .int .i64 p.fr, .bool p.mo, .bool p.dn, .string p.op, .string p.da] _ rfl hP5 Try.underlying32 (by kernel_rfl) ?_)
    | fail)
  refine hcon.mono ?_
  rintro e w7 ⟨rfl, l6⟩
  clear hcon
  replace hB5 := hB5.later l6
  replace hZ5 := hZ5.later l6
  replace hM5 := hM5.later l6
  replace htt := htt.later l6
  have hRw7 : R ≤ w7.heap.size := hB5.rw'
  have g4 : w7.cell? ⟨B, 4, none⟩ = some (.map (some M)) := (hB5.box.2 4 _ rfl).1
  have m0 : w7.cell? ⟨mb, 0, none⟩ = some (.int .i64 p.f) := (hM5.2 0 _ rfl).1
  have m1 : w7.cell? ⟨mb, 1, none⟩ = some (.int .i64 p.t) := (hM5.2 1 _ rfl).1
  have m2 : w7.cell? ⟨mb, 2, none⟩ = some (.int .i64 p.pr) := (hM5.2 2 _ rfl).1
  have m3 : w7.cell? ⟨mb, 3, none⟩ = some (.int .i64 p.id) := (hM5.2 3 _ rfl).1
  clear l6 hP5 hX5 hM5 hr5
  have hmp9' : GM w7 M (a.map Pile.en ++ (mk p, .agg #[.int .i64 at_, .int .i64 tx, .slice va ps.length vc]) :: b.map Pile.en) := by
    have := hB5.map
    rw [List.map_append, List.map_cons] at this
    exact this
  obtain ⟨W3, hr3, hG3, ht3⟩ := GM.del (w := w7.drew) hmp9' 0
  have hr3' : (Builtin.delete_ #[54, 77] 0 #[.map (some M), .agg #[.int .i64 p.f, .int .i64 p.t, .int .i64 p.pr, .int .i64 p.id]]).run Try.prog w7.drew = .ok (.tuple #[]) W3 := hr3
  clear hr3
  replace ht3 := ht3.undrew
  have hZ3 := hZ5.turn ht3 (by omega)
  have hBXn : BX W3 R B M ro pa la tu (a ++ b) := by
    refine ⟨hB5.box.turn ht3 hB5.ne, (by rw [List.map_append]; exact hG3), fun x hx => (hB5.ok x (inAll hx)).turn ht3 (fun k hk e => by have := (hB5.ok x (inAll hx)).row.ge k hk; omega), far_del hB5.far, hbR, hmR, Nat.le_trans hRw7 ht3.size, hB5.ne⟩
  have htt3 := htt.step ht3 (fun k e => Or.inl (Or.inr (Or.inl e)))
  have HB3 : Hid (BX W3 R B M ro pa la tu (a ++ b)) := hBXn
  have HT3 : Hid (Turn (FL B M (a ++ ⟨mk p, at_, tx, .slice va ps.length vc, ps⟩ :: b)) w W3) := htt3
  have hown : ∀ x ∈ (a ++ b), ∀ k, x.v.ownBlock = some k → ¬ (k = w.heap.size + 1) := fun x hx k hk e => by have := HRL.out x (inAll hx) k hk; omega
  clear hZ5 htt hG3 ht3 hBXn htt3 hB5 HFI HRI
  go_upto_region 10 with fail
  go_region
  go_wp2_with (first
    | (refine wpList_store_at rfl 32 _ _ rfl _ (w.heap.size + 1) #[.int .i64 0, .int .i64 0, .int .i64 0, .int .i64 0, .int .i64 0, .int .i64 0, .bool false, .bool false, .string ⟨#[]⟩, .string ⟨#[]⟩] #[.int .i64 0, .int .i64 0, .int .i64 0, .int .i64 0, .int .i64 0, .int .i64 0, .bool false, .bool false, .string ⟨#[]⟩, .string ⟨#[]⟩] rfl rfl hZ3 rfl (by kernel_rfl) oneZ ?_; intro w11 hZ11 ht11))
  have r0 := (hZ11.2 0 _ rfl).1
  have r1 := (hZ11.2 1 _ rfl).1
  have r2 := (hZ11.2 2 _ rfl).1
  have r3 := (hZ11.2 3 _ rfl).1
  have r4 := (hZ11.2 4 _ rfl).1
  have r5 := (hZ11.2 5 _ rfl).1
  have r6 := (hZ11.2 6 _ rfl).1
  have r7 := (hZ11.2 7 _ rfl).1
  have r8 := (hZ11.2 8 _ rfl).1
  have r9 := (hZ11.2 9 _ rfl).1
  exact bodyPost_ret (v := .tuple #[.agg #[.int .i64 0, .int .i64 0, .int .i64 0, .int .i64 0, .int .i64 0, .int .i64 0, .bool false, .bool false, .string ⟨#[]⟩, .string ⟨#[]⟩], .bool false, .int .i64 120]) (by simp [results, Try.results23, go_sem, r0, r1, r2, r3, r4, r5, r6, r7, r8, r9]) rfl ⟨rfl, HB3.out.turn ht11 (by omega) (by omega) hown, HT3.out.step ht11 (fun k e => Or.inr (by omega))⟩
end Go.Proofs.Ytcjhniehbafhpaa
