/- the texts Hb, Hc, Hd, Hg, in part, merged by program -/
import Derived.Test.YtcjhniehbafhpaaProg
import Derived.Test.YtcjhniehbafhpaaRows
import Derived.WalkKit
import Derived.WalkSpells
import Derived.Laws.OwnMore
import Derived.Maps.RangeWalk
import Derived.Maps.OwnSet
import Derived.Maps.Ext
import Derived.Maps.Keyed
import Derived.DeepKeys4
import Derived.WalkSmall
import Derived.Deep.Cut
import Derived.Deep.CutRange
import Derived.Deep.MidRow
import Derived.Deep.QuietTactic
import Derived.BigQuiet
import Derived.Deep.RegionWith
import Derived.OwnWalk
import Derived.Laws.CopyRow
import Derived.OrdersHeld
import Derived.Shelf.Spec.SlicesInsert
import Derived.Lib.AppendZerosOnto
import Derived.Maps.AppendAt
import Derived.Lib.Overlaps
import Derived.Shelf.Strings.BuilderK
import Derived.Laws.AppendOwn
import Derived.Laws.AppendOwnNone
import Derived.Carry
import Derived.Deep.RegionHeld3
import Derived.LoopN
import Derived.Shelf.SlSortCmp.WholeK
import Derived.Great.BuildSlice
import Derived.Shelf.SlSortCmp.NoneTotal
import Derived.Test.YtcjhniehbafhpaaMA01
import Derived.Test.YtcjhniehbafhpaaMA02
import Derived.Test.YtcjhniehbafhpaaMA03
import Derived.Test.YtcjhniehbafhpaaMA04
import Derived.Test.YtcjhniehbafhpaaMA05
import Derived.Test.YtcjhniehbafhpaaMA06
import Derived.Test.YtcjhniehbafhpaaMA07
import Derived.Test.YtcjhniehbafhpaaMA08
import Derived.Test.YtcjhniehbafhpaaMA09
import Derived.Test.YtcjhniehbafhpaaMA10
namespace Go.Proofs.Ytcjhniehbafhpaa
open Go.RowKit Go.Maps
set_option maxRecDepth 100000
set_option linter.unusedVariables false
set_option linter.unusedSimpArgs false

set_option maxHeartbeats 8000000 in
theorem lay_badn (p : Pk) (hp : p.Fine) (hm : (mk p).wf) (w : World) (R B M : Nat) (ro pa la tu : Int) (l : List Pile) (hBX : BX w R B M ro pa la tu l) (hnw : mk p ∉ l.map (·.m)) (hroom : (l.length : Int) < ro) (hro : ro ≤ 64) (htu0 : 0 ≤ tu) (htu1 : tu ≤ 1000000000) (hf : fitsL [] p = false) :
    Calls Try.prog 23 #[.pointer (some ⟨B, 0, none⟩), .agg #[.int .i64 p.f, .int .i64 p.t, .int .i64 p.tl, .int .i64 p.pr, .int .i64 p.id, .int .i64 p.fr, .bool p.mo, .bool p.dn, .string p.op, .string p.da]] w fun e w' => e = .returned (.tuple #[.agg #[.int .i64 0, .int .i64 0, .int .i64 0, .int .i64 0, .int .i64 0, .int .i64 0, .bool false, .bool false, .string ⟨#[]⟩, .string ⟨#[]⟩], .bool false, .int .i64 120]) ∧ LayBox w w' R B M ro pa la (tu + 1) l l := by
  have hPb := (At.box w #[.int .i64 p.f, .int .i64 p.t, .int .i64 p.tl, .int .i64 p.pr, .int .i64 p.id, .int .i64 p.fr, .bool p.mo, .bool p.dn, .string p.op, .string p.da] 32).later (bel1 _ (.cells #[.int .i64 0, .int .i64 0, .int .i64 0, .int .i64 0, .int .i64 0, .int .i64 0, .bool false, .bool false, .string ⟨#[]⟩, .string ⟨#[]⟩] 32))
  have hZb := At.box2 w (.cells #[.int .i64 p.f, .int .i64 p.t, .int .i64 p.tl, .int .i64 p.pr, .int .i64 p.id, .int .i64 p.fr, .bool p.mo, .bool p.dn, .string p.op, .string p.da] 32) #[.int .i64 0, .int .i64 0, .int .i64 0, .int .i64 0, .int .i64 0, .int .i64 0, .bool false, .bool false, .string ⟨#[]⟩, .string ⟨#[]⟩] 32
  have hl0 := bt (bel1 w (.cells #[.int .i64 p.f, .int .i64 p.t, .int .i64 p.tl, .int .i64 p.pr, .int .i64 p.id, .int .i64 p.fr, .bool p.mo, .bool p.dn, .string p.op, .string p.da] 32)) (bel1 _ (.cells #[.int .i64 0, .int .i64 0, .int .i64 0, .int .i64 0, .int .i64 0, .int .i64 0, .bool false, .bool false, .string ⟨#[]⟩, .string ⟨#[]⟩] 32))
  have hB0 := hBX.later hl0
  have hRw := hBX.rw'
  have hrl : ∀ x ∈ l, ∀ k, x.v.ownBlock = some k → k < w.heap.size := fun x hx k hk => (hBX.ok x hx).row.lt k hk
  have HRL : Hid (∀ x ∈ l, ∀ k, x.v.ownBlock = some k → k < w.heap.size) := hrl
  have hbR := hBX.bR
  have hmR := hBX.mR
  clear hBX hrl
  go_enter Try.func23, Try.ntmps23
  go_upto_region 1 with fail
  generalize (w.alloc (.cells #[.int .i64 p.f, .int .i64 p.t, .int .i64 p.tl, .int .i64 p.pr, .int .i64 p.id, .int .i64 p.fr, .bool p.mo, .bool p.dn, .string p.op, .string p.da] 32)).alloc (.cells #[.int .i64 0, .int .i64 0, .int .i64 0, .int .i64 0, .int .i64 0, .int .i64 0, .bool false, .bool false, .string ⟨#[]⟩, .string ⟨#[]⟩] 32) = W0 at *
  have c0 := (hPb.2 0 _ rfl).1
  have c1 := (hPb.2 1 _ rfl).1
  have c3 := (hPb.2 3 _ rfl).1
  have c4 := (hPb.2 4 _ rfl).1
  have hW0 : w.heap.size + 2 ≤ W0.heap.size := by have := hZb.1; omega
  go_upto_region 2 with (first
    | (refine wpList_store_at rfl 77 _ _ rfl _ W0.heap.size #[.int .i64 0, .int .i64 0, .int .i64 0, .int .i64 0] #[.int .i64 p.f, .int .i64 p.t, .int .i64 p.pr, .int .i64 p.id] rfl rfl (At.box W0 #[.int .i64 0, .int .i64 0, .int .i64 0, .int .i64 0] 77) rfl infoM (by simp [Value.oneCell']) ?_; intro w1 hMk ht1)
    | go_in)
  have q1 : Below W0.heap.size W0 w1 := (bel1 W0 (.cells #[.int .i64 0, .int .i64 0, .int .i64 0, .int .i64 0] 77)).trans (below_turn ht1 (Nat.le_refl _) (bel1 W0 _).size)
  have hB1 := hB0.later q1
  have hP1 := hPb.later q1
  have hZ1 := hZb.later q1
  have hl1 := bt hl0 q1
  have hmb := hMk.1
  obtain ⟨mb, hmbe⟩ : ∃ x, x = W0.heap.size := ⟨_, rfl⟩
  rw [← hmbe] at hMk hmb hW0
  rw [← hmbe]
  clear c0 c1 c3 c4 hB0 hPb hZb hl0 ht1 q1 hmbe
  have hf4 : ∀ W, Below w1.heap.size w1 W → W.cell? ⟨B, 4, none⟩ = some (.map (some M)) := fun W hW => later hW (box_map hB1)
  have hm0 : ∀ W, Below w1.heap.size w1 W → W.cell? ⟨mb, 0, none⟩ = some (.int .i64 p.f) := fun W hW => later hW (hMk.2 0 _ rfl).1
  have hm1 : ∀ W, Below w1.heap.size w1 W → W.cell? ⟨mb, 1, none⟩ = some (.int .i64 p.t) := fun W hW => later hW (hMk.2 1 _ rfl).1
  have hm2 : ∀ W, Below w1.heap.size w1 W → W.cell? ⟨mb, 2, none⟩ = some (.int .i64 p.pr) := fun W hW => later hW (hMk.2 2 _ rfl).1
  have hm3 : ∀ W, Below w1.heap.size w1 W → W.cell? ⟨mb, 3, none⟩ = some (.int .i64 p.id) := fun W hW => later hW (hMk.2 3 _ rfl).1
  have hlk : ∀ W, Below w1.heap.size w1 W → (Instr.lookup 54 (.map (some M)) (.agg #[.int .i64 p.f, .int .i64 p.t, .int .i64 p.pr, .int .i64 p.id]) true).run Try.prog W = .ok (.tuple #[.agg #[.int .i64 0, .int .i64 0, .slice none 0 0], .bool false]) W := fun W hW => by
    have h := (hB1.map.later hW).look hm
    rw [glk_none (fun h => hnw (by rw [List.map_map] at h; exact h))] at h
    exact h
  have hone : (#[.int .i64 0, .int .i64 0, .slice none 0 0] : Array Value).all (·.oneCell') = true := by simp [Value.oneCell']
  refine wp_region_held_drew (S := (fun W => Below w1.heap.size w1 W)) (by kernel_rfl) ?_ (fun hHeld => ?_)
  · first | exact (Below.refl _ _).drew | assumption
  refine tk (i := 0) (oi := ⟨some 20, .move (.tmp 0), 23, "frag.go:90", #[], none⟩) (v := .pointer (some ⟨B, 0, none⟩)) rfl (by kernel_rfl) (fun _ _ _ h => h) (Or.inl ⟨by rfl, ?_⟩) (by assumption) ?_
  · intro wx hSw
    go_simp
    try with_reducible rfl
  try simp only [Act.put, La1, La2, La3]
  refine tk (i := 1) (oi := ⟨some 21, .nilCheck (.tmp 20), 0, "frag.go:90", #[⟨0, .data⟩], none⟩) (v := .pointer (some ⟨B, 0, none⟩)) rfl (by kernel_rfl) (fun _ _ _ h => h) (Or.inl ⟨by rfl, ?_⟩) (by assumption) ?_
  · intro wx hSw
    go_simp
    try with_reducible rfl
  try simp only [Act.put, La1, La2, La3]
  refine tk (i := 2) (oi := ⟨some 22, .fieldAddr 56 (.tmp 21) 4, 0, "frag.go:90", #[⟨1, .data⟩], none⟩) (v := .pointer (some ⟨B, 4, none⟩)) rfl (by kernel_rfl) (fun _ _ _ h => h) (Or.inl ⟨by rfl, ?_⟩) (by assumption) ?_
  · intro wx hSw
    go_simp
    try with_reducible rfl
  try simp only [Act.put, La1, La2, La3]
  refine tk (i := 3) (oi := ⟨some 23, .load 54 (.tmp 22), 54, "frag.go:90", #[⟨2, .data⟩], none⟩) (v := .map (some M)) rfl (by kernel_rfl) (fun _ _ _ h => h) (Or.inl ⟨by rfl, ?_⟩) (by assumption) ?_
  · intro wx hSw
    try dsimp only at hSw
    have u4 := hf4 wx hSw
    have um0 := hm0 wx hSw
    have um1 := hm1 wx hSw
    have um2 := hm2 wx hSw
    have um3 := hm3 wx hSw
    have ul := hlk wx hSw
    go_simp
    try with_reducible rfl
  try simp only [Act.put, La1, La2, La3]
  refine tk (i := 4) (oi := ⟨some 24, .load 77 (.tmp 7), 77, "frag.go:90", #[], none⟩) (v := .agg #[.int .i64 p.f, .int .i64 p.t, .int .i64 p.pr, .int .i64 p.id]) rfl (by kernel_rfl) (fun _ _ _ h => h) (Or.inl ⟨by rfl, ?_⟩) (by assumption) ?_
  · intro wx hSw
    try dsimp only at hSw
    have u4 := hf4 wx hSw
    have um0 := hm0 wx hSw
    have um1 := hm1 wx hSw
    have um2 := hm2 wx hSw
    have um3 := hm3 wx hSw
    have ul := hlk wx hSw
    go_simp
    try with_reducible rfl
  try simp only [Act.put, La1, La2, La3]
  refine tk (i := 5) (oi := ⟨some 25, .lookup 54 (.tmp 23) (.tmp 24) true, 80, "frag.go:90", #[⟨3, .data⟩, ⟨4, .data⟩], none⟩) (v := .tuple #[.agg #[.int .i64 0, .int .i64 0, .slice none 0 0], .bool false]) rfl (by kernel_rfl) (fun _ _ _ h => h) (Or.inl ⟨by rfl, ?_⟩) (by assumption) ?_
  · intro wx hSw
    try dsimp only at hSw
    have u4 := hf4 wx hSw
    have um0 := hm0 wx hSw
    have um1 := hm1 wx hSw
    have um2 := hm2 wx hSw
    have um3 := hm3 wx hSw
    have ul := hlk wx hSw
    go_simp
    try with_reducible rfl
  try simp only [Act.put, La1, La2, La3]
  refine tk (i := 6) (oi := ⟨some 19, .move (.tmp 25), 80, "frag.go:90", #[⟨5, .data⟩], none⟩) (v := .tuple #[.agg #[.int .i64 0, .int .i64 0, .slice none 0 0], .bool false]) rfl (by kernel_rfl) (fun _ _ _ h => h) (Or.inl ⟨by rfl, ?_⟩) (by assumption) ?_
  · intro wx hSw
    go_simp
    try with_reducible rfl
  try simp only [Act.put, La1, La2, La3]
  refine tk (i := 7) (oi := ⟨some 26, .extract (.tmp 19) 0, 61, "frag.go:90", #[⟨6, .data⟩], none⟩) (v := .agg #[.int .i64 0, .int .i64 0, .slice none 0 0]) rfl (by kernel_rfl) (fun _ _ _ h => h) (Or.inl ⟨by rfl, ?_⟩) (by assumption) ?_
  · intro wx hSw
    go_simp
    try with_reducible rfl
  try simp only [Act.put, La1, La2, La3]
  refine tk (i := 8) (oi := ⟨some 27, .extract (.tmp 19) 1, 4, "frag.go:90", #[⟨6, .data⟩, { on := 10, ground := .gcOnly .lateStores }], none⟩) (v := .bool false) rfl (by kernel_rfl) (fun _ _ _ h => h) (Or.inl ⟨by rfl, ?_⟩) (by assumption) ?_
  · intro wx hSw
    go_simp
    try with_reducible rfl
  try simp only [Act.put, La1, La2, La3]
  refine wpAnyH_ready (rs := [9]) (by kernel_rfl) (by simp) ?_
  refine AllReadyH.cons (o := ⟨some 8, .alloc 61, 0, "frag.go:90", #[], none⟩) rfl (fun K hK => ?_) AllReadyH.nil
  go_simp
  refine hK.out _ _ (bt hHeld (bel1 _ _)) (fun hHeld => ?_)
  clear hK K
  try simp only [Act.put, La1, La2, La3]
  refine wpAnyH_ready (rs := [10]) (by kernel_rfl) (by simp) ?_
  refine AllReadyH.cons (o := ⟨none, .store 61 (.tmp 8) (.tmp 26), 0, "frag.go:90", #[⟨9, .data⟩, ⟨7, .data⟩, ⟨0, .phase⟩, ⟨1, .phase⟩, ⟨2, .phase⟩, ⟨3, .phase⟩, ⟨4, .phase⟩, ⟨5, .phase⟩, ⟨6, .phase⟩, ⟨7, .phase⟩, { on := 8, ground := .textOnly .lateStores }, ⟨9, .phase⟩], none⟩) rfl (fun K hK => ?_) AllReadyH.nil
  rw [if_pos (by rfl)]
  refine op_store_at 61 _ _ rfl _ w1.heap.size #[.int .i64 0, .int .i64 0, .slice none 0 0] #[.int .i64 0, .int .i64 0, .slice none 0 0] rfl rfl (At.box w1.drew #[.int .i64 0, .int .i64 0, .slice none 0 0] 61) rfl infoX hone ?_
  intro w2 hX2 ht2
  have hb2 : Below w1.heap.size w1 w2 := hHeld.trans (below_turn ht2 (Nat.le_refl _) hHeld.size)
  refine hK.out _ _ hb2 (fun hHeld => ?_)
  clear hK K
  try simp only [Act.put, La1, La2, La3]
  refine tk (i := 11) (oi := ⟨some 9, .assign (.tmp 27), 4, "frag.go:90", #[⟨8, .data⟩, ⟨10, .chain⟩, ⟨0, .phase⟩, ⟨1, .phase⟩, ⟨2, .phase⟩, ⟨3, .phase⟩, ⟨4, .phase⟩, ⟨5, .phase⟩, ⟨6, .phase⟩, ⟨7, .phase⟩, ⟨8, .phase⟩, ⟨9, .phase⟩, ⟨10, .phase⟩], none⟩) (v := .bool false) rfl (by kernel_rfl) (fun _ _ _ h => h) (Or.inl ⟨by rfl, ?_⟩) (by assumption) ?_
  · intro wx hSw
    go_simp
    try with_reducible rfl
  try simp only [Act.put, La1, La2, La3]
  refine wpAnyH_done (by kernel_rfl) ?_ _
  replace hB1 := hB1.later hb2
  replace hP1 := hP1.later hb2
  replace hZ1 := hZ1.later hb2
  replace hMk := hMk.later hb2
  replace hl1 := bt hl1 hb2
  obtain ⟨xb, hxb⟩ : ∃ x, x = w1.heap.size := ⟨_, rfl⟩
  rw [← hxb] at hX2 hmb
  rw [← hxb]
  have hxs := hX2.1
  clear hf4 hm0 hm1 hm2 hm3 hlk hHeld ht2 hb2 hxb
  go_upto_region 3 with fail
  have g4 := box_map hB1
  have g0 := (hB1.box.2 0 _ rfl).1
  have hln : ∀ nn ty, (Builtin.len_ #[54] ty #[.map (some M)]).run Try.prog (w2.drewN nn) = .ok (.int .i64 (l.length : Int)) (w2.drewN nn) := fun nn ty => by
    have h := (hB1.map.later (below_drewN (Below.refl _ _) nn)).len ty
    rw [List.length_map] at h
    exact h
  have hge : ¬ ro ≤ (l.length : Int) := by omega
  go_quiet (fail)
  have qd : Below w2.heap.size w2 (w2.drewN nq) := below_drewN (Below.refl _ _) nq
  replace hB1 := hB1.later qd
  replace hP1 := hP1.later qd
  replace hZ1 := hZ1.later qd
  replace hMk := hMk.later qd
  replace hX2 := hX2.later qd
  replace hl1 := bt hl1 qd
  have hxs' := hX2.1
  clear qd hxs g4 g0 hln
  go_upto_region 5 with fail
  generalize w2.drewN nq = w3 at *
  go_wp2_with fail
  refine (begin_any hB1 htu0 htu1).mono ?_
  rintro e w4 ⟨rfl, hB4, ht4⟩
  have hP4 := hP1.turn ht4 (by omega)
  have hZf := hZ1.turn ht4 (by omega)
  have hM4 := hMk.turn ht4 (by omega)
  have hX4 := hX2.turn ht4 (by omega)
  have htt : Turn (FL B M l) w w4 := (Turn.of_below hl1).step ht4 (fun k e => Or.inl (Or.inl e))
  have hs4 : xb < w4.heap.size := hX4.1
  clear hB1 hP1 hZ1 hMk hX2 hl1 ht4
  go_upto_region 7 with (first
    | (refine wpList_store_at rfl 61 _ _ rfl _ xb #[.int .i64 0, .int .i64 0, .slice none 0 0] #[.int .i64 la, .int .i64 (tu + 1), .slice none 0 0] rfl rfl hX4 rfl infoX (by simp [Value.oneCell']) ?_; intro w5 hX5 ht5)
    | go_in)
  have hB5 := hB4.turn ht5 (by omega) (by omega) (fun x hx k hk e => by have := HRL.out x hx k hk; omega)
  have hP5 := hP4.turn ht5 (by omega)
  have hZ5 := hZf.turn ht5 (by omega)
  have hM5 := hM4.turn ht5 (by omega)
  replace htt := htt.step ht5 (fun k e => Or.inr (by omega))
  have hr5 : RW w5 R (.slice none 0 0) ([] : List Pk) := RW.nil _ _
  clear hB4 hP4 hZf hM4 hX4 ht5
  have HFI : Hid (∀ q ∈ ([] : List Pk), q.Fine) := fun q hq => by cases hq
  have HRI : Hid (([] : List Pk).Pairwise (fun a b => a.fr ≤ b.fr)) := List.Pairwise.nil
  have hle : ([] : List Pk).length ≤ 64 := by decide
  have hh : ([] : List Pk).any (hasB p) = false := rfl
  have hcon := has_any p ([] : List Pk) la (tu + 1) (.slice none 0 0) R w5 hr5 (by omega)
  rw [hh] at hcon
  go_wp2_with (first
    | (refine wpList_load_at rfl 61 _ rfl _ xb #[.int .i64 la, .int .i64 (tu + 1), .slice none 0 0] _ rfl hX5 Try.underlying61 infoX ?_)
    | (refine wpList_load_at rfl 32 _ rfl _ w.heap.size #[.int .i64 p.f, .int .i64 p.t, .int .i64 p.tl, .int .i64 p.pr, .int .i64 p.id, .int .i64 p.fr, .bool p.mo, .bool p.dn, .string p.op, .string p.da] _ rfl hP5 Try.underlying32 (by kernel_rfl) ?_)
    | fail)
  refine hcon.mono ?_
  rintro e w6 ⟨rfl, l6⟩
  clear hcon
  replace hB5 := hB5.later l6
  replace hP5 := hP5.later l6
  replace hZ5 := hZ5.later l6
  replace hM5 := hM5.later l6
  replace hX5 := hX5.later l6
  replace hr5 := hr5.later l6
  replace htt := htt.later l6
  clear l6
  have hcon := fitsP_any p ([] : List Pk) la (tu + 1) (.slice none 0 0) R w6 hr5 (by omega) hp HFI.out
  rw [hf] at hcon
  go_wp2_with (first
    | (refine wpList_load_at rfl 61 _ rfl _ xb #[.int .i64 la, .int .i64 (tu + 1), .slice none 0 0] _ rfl hX5 Try.underlying61 infoX ?_)
    | (refine wpList_load_at rfl 32 _ rfl _ w.heap.size #[.int .i64 p.f, .int .i64 p.t, .int .i64 p.tl, .int .i64 p.pr, .int .i64 p.id, .int .i64 p.fr, .bool p.mo, .bool p.dn, .string p.op, .string p.da] _ rfl hP5 Try.underlying32 (by kernel_rfl) ?_)
    | fail)
  refine hcon.mono ?_
  rintro e w7 ⟨rfl, l6⟩
  clear hcon
  replace hB5 := hB5.later l6
  replace hZ5 := hZ5.later l6
  replace hM5 := hM5.later l6
  replace htt := htt.later l6
  have hRw7 : R ≤ w7.heap.size := hB5.rw'
  have g4 : w7.cell? ⟨B, 4, none⟩ = some (.map (some M)) := (hB5.box.2 4 _ rfl).1
  have m0 : w7.cell? ⟨mb, 0, none⟩ = some (.int .i64 p.f) := (hM5.2 0 _ rfl).1
  have m1 : w7.cell? ⟨mb, 1, none⟩ = some (.int .i64 p.t) := (hM5.2 1 _ rfl).1
  have m2 : w7.cell? ⟨mb, 2, none⟩ = some (.int .i64 p.pr) := (hM5.2 2 _ rfl).1
  have m3 : w7.cell? ⟨mb, 3, none⟩ = some (.int .i64 p.id) := (hM5.2 3 _ rfl).1
  clear l6 hP5 hX5 hM5 hr5
  obtain ⟨W3, hr3, hG3, ht3⟩ := GM.del0 (w := w7.drew) hB5.map (m := mk p) hm (by rw [List.map_map]; exact hnw) 0
  have hr3' : (Builtin.delete_ #[54, 77] 0 #[.map (some M), .agg #[.int .i64 p.f, .int .i64 p.t, .int .i64 p.pr, .int .i64 p.id]]).run Try.prog w7.drew = .ok (.tuple #[]) W3 := hr3
  clear hr3
  replace ht3 := ht3.undrew
  have hZ3 := hZ5.turn ht3 (by omega)
  have hBXn : BX W3 R B M ro pa la (tu + 1) l := by
    refine ⟨hB5.box.turn ht3 hB5.ne, hG3, fun x hx => (hB5.ok x (hx)).turn ht3 (fun k hk e => by have := (hB5.ok x (hx)).row.ge k hk; omega), hB5.far, hbR, hmR, Nat.le_trans hRw7 ht3.size, hB5.ne⟩
  have htt3 := htt.step ht3 (fun k e => Or.inl (Or.inr (Or.inl e)))
  have HB3 : Hid (BX W3 R B M ro pa la (tu + 1) l) := hBXn
  have HT3 : Hid (Turn (FL B M l) w W3) := htt3
  have hown : ∀ x ∈ l, ∀ k, x.v.ownBlock = some k → ¬ (k = w.heap.size + 1) := fun x hx k hk e => by have := HRL.out x (hx) k hk; omega
  clear hZ5 htt hG3 ht3 hBXn htt3 hB5 HFI HRI
  go_upto_region 10 with fail
  go_region
  go_wp2_with (first
    | (refine wpList_store_at rfl 32 _ _ rfl _ (w.heap.size + 1) #[.int .i64 0, .int .i64 0, .int .i64 0, .int .i64 0, .int .i64 0, .int .i64 0, .bool false, .bool false, .string ⟨#[]⟩, .string ⟨#[]⟩] #[.int .i64 0, .int .i64 0, .int .i64 0, .int .i64 0, .int .i64 0, .int .i64 0, .bool false, .bool false, .string ⟨#[]⟩, .string ⟨#[]⟩] rfl rfl hZ3 rfl (by kernel_rfl) oneZ ?_; intro w11 hZ11 ht11))
  have r0 := (hZ11.2 0 _ rfl).1
  have r1 := (hZ11.2 1 _ rfl).1
  have r2 := (hZ11.2 2 _ rfl).1
  have r3 := (hZ11.2 3 _ rfl).1
  have r4 := (hZ11.2 4 _ rfl).1
  have r5 := (hZ11.2 5 _ rfl).1
  have r6 := (hZ11.2 6 _ rfl).1
  have r7 := (hZ11.2 7 _ rfl).1
  have r8 := (hZ11.2 8 _ rfl).1
  have r9 := (hZ11.2 9 _ rfl).1
  exact bodyPost_ret (v := .tuple #[.agg #[.int .i64 0, .int .i64 0, .int .i64 0, .int .i64 0, .int .i64 0, .int .i64 0, .bool false, .bool false, .string ⟨#[]⟩, .string ⟨#[]⟩], .bool false, .int .i64 120]) (by simp [results, Try.results23, go_sem, r0, r1, r2, r3, r4, r5, r6, r7, r8, r9]) rfl ⟨rfl, HB3.out.turn ht11 (by omega) (by omega) hown, HT3.out.step ht11 (fun k e => Or.inr (by omega))⟩
end Go.Proofs.Ytcjhniehbafhpaa

namespace Go.Proofs.Ytcjhniehbafhpaa
open Go.RowKit Go.Maps
set_option maxRecDepth 100000
set_option linter.unusedVariables false
set_option linter.unusedSimpArgs false

set_option maxHeartbeats 8000000 in
theorem lay_bado (p : Pk) (hp : p.Fine) (hm : (mk p).wf) (w : World) (R B M : Nat) (ro pa la tu : Int) (a b : List Pile) (at_ tx : Int) (v : Value) (ps : List Pk) (hBX : BX w R B M ro pa la tu (a ++ ⟨mk p, at_, tx, v, ps⟩ :: b)) (h0 : ps ≠ []) (hh : ps.any (hasB p) = false) (hf : fitsL ps p = false) :
    Calls Try.prog 23 #[.pointer (some ⟨B, 0, none⟩), .agg #[.int .i64 p.f, .int .i64 p.t, .int .i64 p.tl, .int .i64 p.pr, .int .i64 p.id, .int .i64 p.fr, .bool p.mo, .bool p.dn, .string p.op, .string p.da]] w fun e w' => e = .returned (.tuple #[.agg #[.int .i64 0, .int .i64 0, .int .i64 0, .int .i64 0, .int .i64 0, .int .i64 0, .bool false, .bool false, .string ⟨#[]⟩, .string ⟨#[]⟩], .bool false, .int .i64 120]) ∧ LayBox w w' R B M ro pa la tu (a ++ ⟨mk p, at_, tx, v, ps⟩ :: b) (a ++ b) := by
  obtain ⟨va, vc, rfl⟩ : ∃ a c, v = .slice a ps.length c := RW.shape (hBX.ok ⟨mk p, at_, tx, v, ps⟩ (by simp)).row
  have hPb := (At.box w #[.int .i64 p.f, .int .i64 p.t, .int .i64 p.tl, .int .i64 p.pr, .int .i64 p.id, .int .i64 p.fr, .bool p.mo, .bool p.dn, .string p.op, .string p.da] 32).later (bel1 _ (.cells #[.int .i64 0, .int .i64 0, .int .i64 0, .int .i64 0, .int .i64 0, .int .i64 0, .bool false, .bool false, .string ⟨#[]⟩, .string ⟨#[]⟩] 32))
  have hZb := At.box2 w (.cells #[.int .i64 p.f, .int .i64 p.t, .int .i64 p.tl, .int .i64 p.pr, .int .i64 p.id, .int .i64 p.fr, .bool p.mo, .bool p.dn, .string p.op, .string p.da] 32) #[.int .i64 0, .int .i64 0, .int .i64 0, .int .i64 0, .int .i64 0, .int .i64 0, .bool false, .bool false, .string ⟨#[]⟩, .string ⟨#[]⟩] 32
  have hl0 := bt (bel1 w (.cells #[.int .i64 p.f, .int .i64 p.t, .int .i64 p.tl, .int .i64 p.pr, .int .i64 p.id, .int .i64 p.fr, .bool p.mo, .bool p.dn, .string p.op, .string p.da] 32)) (bel1 _ (.cells #[.int .i64 0, .int .i64 0, .int .i64 0, .int .i64 0, .int .i64 0, .int .i64 0, .bool false, .bool false, .string ⟨#[]⟩, .string ⟨#[]⟩] 32))
  have hB0 := hBX.later hl0
  have hRw := hBX.rw'
  have hrl : ∀ x ∈ (a ++ ⟨mk p, at_, tx, .slice va ps.length vc, ps⟩ :: b), ∀ k, x.v.ownBlock = some k → k < w.heap.size := fun x hx k hk => (hBX.ok x hx).row.lt k hk
  have HRL : Hid (∀ x ∈ (a ++ ⟨mk p, at_, tx, .slice va ps.length vc, ps⟩ :: b), ∀ k, x.v.ownBlock = some k → k < w.heap.size) := hrl
  have hbR := hBX.bR
  have hmR := hBX.mR
  clear hBX hrl
  go_enter Try.func23, Try.ntmps23
  go_upto_region 1 with fail
  generalize (w.alloc (.cells #[.int .i64 p.f, .int .i64 p.t, .int .i64 p.tl, .int .i64 p.pr, .int .i64 p.id, .int .i64 p.fr, .bool p.mo, .bool p.dn, .string p.op, .string p.da] 32)).alloc (.cells #[.int .i64 0, .int .i64 0, .int .i64 0, .int .i64 0, .int .i64 0, .int .i64 0, .bool false, .bool false, .string ⟨#[]⟩, .string ⟨#[]⟩] 32) = W0 at *
  have c0 := (hPb.2 0 _ rfl).1
  have c1 := (hPb.2 1 _ rfl).1
  have c3 := (hPb.2 3 _ rfl).1
  have c4 := (hPb.2 4 _ rfl).1
  have hW0 : w.heap.size + 2 ≤ W0.heap.size := by have := hZb.1; omega
  go_upto_region 2 with (first
    | (refine wpList_store_at rfl 77 _ _ rfl _ W0.heap.size #[.int .i64 0, .int .i64 0, .int .i64 0, .int .i64 0] #[.int .i64 p.f, .int .i64 p.t, .int .i64 p.pr, .int .i64 p.id] rfl rfl (At.box W0 #[.int .i64 0, .int .i64 0, .int .i64 0, .int .i64 0] 77) rfl infoM (by simp [Value.oneCell']) ?_; intro w1 hMk ht1)
    | go_in)
  have q1 : Below W0.heap.size W0 w1 := (bel1 W0 (.cells #[.int .i64 0, .int .i64 0, .int .i64 0, .int .i64 0] 77)).trans (below_turn ht1 (Nat.le_refl _) (bel1 W0 _).size)
  have hB1 := hB0.later q1
  have hP1 := hPb.later q1
  have hZ1 := hZb.later q1
  have hl1 := bt hl0 q1
  have hmb := hMk.1
  obtain ⟨mb, hmbe⟩ : ∃ x, x = W0.heap.size := ⟨_, rfl⟩
  rw [← hmbe] at hMk hmb hW0
  rw [← hmbe]
  clear c0 c1 c3 c4 hB0 hPb hZb hl0 ht1 q1 hmbe
  have hf4 : ∀ W, Below w1.heap.size w1 W → W.cell? ⟨B, 4, none⟩ = some (.map (some M)) := fun W hW => later hW (box_map hB1)
  have hm0 : ∀ W, Below w1.heap.size w1 W → W.cell? ⟨mb, 0, none⟩ = some (.int .i64 p.f) := fun W hW => later hW (hMk.2 0 _ rfl).1
  have hm1 : ∀ W, Below w1.heap.size w1 W → W.cell? ⟨mb, 1, none⟩ = some (.int .i64 p.t) := fun W hW => later hW (hMk.2 1 _ rfl).1
  have hm2 : ∀ W, Below w1.heap.size w1 W → W.cell? ⟨mb, 2, none⟩ = some (.int .i64 p.pr) := fun W hW => later hW (hMk.2 2 _ rfl).1
  have hm3 : ∀ W, Below w1.heap.size w1 W → W.cell? ⟨mb, 3, none⟩ = some (.int .i64 p.id) := fun W hW => later hW (hMk.2 3 _ rfl).1
  have hlk : ∀ W, Below w1.heap.size w1 W → (Instr.lookup 54 (.map (some M)) (.agg #[.int .i64 p.f, .int .i64 p.t, .int .i64 p.pr, .int .i64 p.id]) true).run Try.prog W = .ok (.tuple #[.agg #[.int .i64 at_, .int .i64 tx, .slice va ps.length vc], .bool true]) W := fun W hW => by
    have h := (hB1.map.later hW).look hm
    rw [glk_of hB1.map.2.1 (m := mk p) (v := .agg #[.int .i64 at_, .int .i64 tx, .slice va ps.length vc]) (List.mem_map.2 ⟨_, List.mem_append_right _ (List.mem_cons_self ..), rfl⟩)] at h
    exact h
  have hone : (#[.int .i64 at_, .int .i64 tx, .slice va ps.length vc] : Array Value).all (·.oneCell') = true := by simp [Value.oneCell']
  refine wp_region_held_drew (S := (fun W => Below w1.heap.size w1 W)) (by kernel_rfl) ?_ (fun hHeld => ?_)
  · first | exact (Below.refl _ _).drew | assumption
  refine tk (i := 0) (oi := ⟨some 20, .move (.tmp 0), 23, "frag.go:90", #[], none⟩) (v := .pointer (some ⟨B, 0, none⟩)) rfl (by kernel_rfl) (fun _ _ _ h => h) (Or.inl ⟨by rfl, ?_⟩) (by assumption) ?_
  · intro wx hSw
    go_simp
    try with_reducible rfl
  try simp only [Act.put, La1, La2, La3]
  refine tk (i := 1) (oi := ⟨some 21, .nilCheck (.tmp 20), 0, "frag.go:90", #[⟨0, .data⟩], none⟩) (v := .pointer (some ⟨B, 0, none⟩)) rfl (by kernel_rfl) (fun _ _ _ h => h) (Or.inl ⟨by rfl, ?_⟩) (by assumption) ?_
  · intro wx hSw
    go_simp
    try with_reducible rfl
  try simp only [Act.put, La1, La2, La3]
  refine tk (i := 2) (oi := ⟨some 22, .fieldAddr 56 (.tmp 21) 4, 0, "frag.go:90", #[⟨1, .data⟩], none⟩) (v := .pointer (some ⟨B, 4, none⟩)) rfl (by kernel_rfl) (fun _ _ _ h => h) (Or.inl ⟨by rfl, ?_⟩) (by assumption) ?_
  · intro wx hSw
    go_simp
    try with_reducible rfl
  try simp only [Act.put, La1, La2, La3]
  refine tk (i := 3) (oi := ⟨some 23, .load 54 (.tmp 22), 54, "frag.go:90", #[⟨2, .data⟩], none⟩) (v := .map (some M)) rfl (by kernel_rfl) (fun _ _ _ h => h) (Or.inl ⟨by rfl, ?_⟩) (by assumption) ?_
  · intro wx hSw
    try dsimp only at hSw
    have u4 := hf4 wx hSw
    have um0 := hm0 wx hSw
    have um1 := hm1 wx hSw
    have um2 := hm2 wx hSw
    have um3 := hm3 wx hSw
    have ul := hlk wx hSw
    go_simp
    try with_reducible rfl
  try simp only [Act.put, La1, La2, La3]
  refine tk (i := 4) (oi := ⟨some 24, .load 77 (.tmp 7), 77, "frag.go:90", #[], none⟩) (v := .agg #[.int .i64 p.f, .int .i64 p.t, .int .i64 p.pr, .int .i64 p.id]) rfl (by kernel_rfl) (fun _ _ _ h => h) (Or.inl ⟨by rfl, ?_⟩) (by assumption) ?_
  · intro wx hSw
    try dsimp only at hSw
    have u4 := hf4 wx hSw
    have um0 := hm0 wx hSw
    have um1 := hm1 wx hSw
    have um2 := hm2 wx hSw
    have um3 := hm3 wx hSw
    have ul := hlk wx hSw
    go_simp
    try with_reducible rfl
  try simp only [Act.put, La1, La2, La3]
  refine tk (i := 5) (oi := ⟨some 25, .lookup 54 (.tmp 23) (.tmp 24) true, 80, "frag.go:90", #[⟨3, .data⟩, ⟨4, .data⟩], none⟩) (v := .tuple #[.agg #[.int .i64 at_, .int .i64 tx, .slice va ps.length vc], .bool true]) rfl (by kernel_rfl) (fun _ _ _ h => h) (Or.inl ⟨by rfl, ?_⟩) (by assumption) ?_
  · intro wx hSw
    try dsimp only at hSw
    have u4 := hf4 wx hSw
    have um0 := hm0 wx hSw
    have um1 := hm1 wx hSw
    have um2 := hm2 wx hSw
    have um3 := hm3 wx hSw
    have ul := hlk wx hSw
    go_simp
    try with_reducible rfl
  try simp only [Act.put, La1, La2, La3]
  refine tk (i := 6) (oi := ⟨some 19, .move (.tmp 25), 80, "frag.go:90", #[⟨5, .data⟩], none⟩) (v := .tuple #[.agg #[.int .i64 at_, .int .i64 tx, .slice va ps.length vc], .bool true]) rfl (by kernel_rfl) (fun _ _ _ h => h) (Or.inl ⟨by rfl, ?_⟩) (by assumption) ?_
  · intro wx hSw
    go_simp
    try with_reducible rfl
  try simp only [Act.put, La1, La2, La3]
  refine tk (i := 7) (oi := ⟨some 26, .extract (.tmp 19) 0, 61, "frag.go:90", #[⟨6, .data⟩], none⟩) (v := .agg #[.int .i64 at_, .int .i64 tx, .slice va ps.length vc]) rfl (by kernel_rfl) (fun _ _ _ h => h) (Or.inl ⟨by rfl, ?_⟩) (by assumption) ?_
  · intro wx hSw
    go_simp
    try with_reducible rfl
  try simp only [Act.put, La1, La2, La3]
  refine tk (i := 8) (oi := ⟨some 27, .extract (.tmp 19) 1, 4, "frag.go:90", #[⟨6, .data⟩, { on := 10, ground := .gcOnly .lateStores }], none⟩) (v := .bool true) rfl (by kernel_rfl) (fun _ _ _ h => h) (Or.inl ⟨by rfl, ?_⟩) (by assumption) ?_
  · intro wx hSw
    go_simp
    try with_reducible rfl
  try simp only [Act.put, La1, La2, La3]
  refine wpAnyH_ready (rs := [9]) (by kernel_rfl) (by simp) ?_
  refine AllReadyH.cons (o := ⟨some 8, .alloc 61, 0, "frag.go:90", #[], none⟩) rfl (fun K hK => ?_) AllReadyH.nil
  go_simp
  refine hK.out _ _ (bt hHeld (bel1 _ _)) (fun hHeld => ?_)
  clear hK K
  try simp only [Act.put, La1, La2, La3]
  refine wpAnyH_ready (rs := [10]) (by kernel_rfl) (by simp) ?_
  refine AllReadyH.cons (o := ⟨none, .store 61 (.tmp 8) (.tmp 26), 0, "frag.go:90", #[⟨9, .data⟩, ⟨7, .data⟩, ⟨0, .phase⟩, ⟨1, .phase⟩, ⟨2, .phase⟩, ⟨3, .phase⟩, ⟨4, .phase⟩, ⟨5, .phase⟩, ⟨6, .phase⟩, ⟨7, .phase⟩, { on := 8, ground := .textOnly .lateStores }, ⟨9, .phase⟩], none⟩) rfl (fun K hK => ?_) AllReadyH.nil
  rw [if_pos (by rfl)]
  refine op_store_at 61 _ _ rfl _ w1.heap.size #[.int .i64 0, .int .i64 0, .slice none 0 0] #[.int .i64 at_, .int .i64 tx, .slice va ps.length vc] rfl rfl (At.box w1.drew #[.int .i64 0, .int .i64 0, .slice none 0 0] 61) rfl infoX hone ?_
  intro w2 hX2 ht2
  have hb2 : Below w1.heap.size w1 w2 := hHeld.trans (below_turn ht2 (Nat.le_refl _) hHeld.size)
  refine hK.out _ _ hb2 (fun hHeld => ?_)
  clear hK K
  try simp only [Act.put, La1, La2, La3]
  refine tk (i := 11) (oi := ⟨some 9, .assign (.tmp 27), 4, "frag.go:90", #[⟨8, .data⟩, ⟨10, .chain⟩, ⟨0, .phase⟩, ⟨1, .phase⟩, ⟨2, .phase⟩, ⟨3, .phase⟩, ⟨4, .phase⟩, ⟨5, .phase⟩, ⟨6, .phase⟩, ⟨7, .phase⟩, ⟨8, .phase⟩, ⟨9, .phase⟩, ⟨10, .phase⟩], none⟩) (v := .bool true) rfl (by kernel_rfl) (fun _ _ _ h => h) (Or.inl ⟨by rfl, ?_⟩) (by assumption) ?_
  · intro wx hSw
    go_simp
    try with_reducible rfl
  try simp only [Act.put, La1, La2, La3]
  refine wpAnyH_done (by kernel_rfl) ?_ _
  replace hB1 := hB1.later hb2
  replace hP1 := hP1.later hb2
  replace hZ1 := hZ1.later hb2
  replace hMk := hMk.later hb2
  replace hl1 := bt hl1 hb2
  obtain ⟨xb, hxb⟩ : ∃ x, x = w1.heap.size := ⟨_, rfl⟩
  rw [← hxb] at hX2 hmb
  rw [← hxb]
  have hxs := hX2.1
  clear hf4 hm0 hm1 hm2 hm3 hlk hHeld ht2 hb2 hxb
  go_upto_region 3 with fail
  go_quiet (fail)
  have qd : Below w2.heap.size w2 (w2.drewN nq) := below_drewN (Below.refl _ _) nq
  replace hB1 := hB1.later qd
  replace hP1 := hP1.later qd
  replace hZ1 := hZ1.later qd
  replace hMk := hMk.later qd
  replace hX2 := hX2.later qd
  replace hl1 := bt hl1 qd
  have hxs' := hX2.1
  clear qd hxs
  go_upto_region 5 with fail
  generalize w2.drewN nq = w3 at *
  have htt : Turn (FL B M (a ++ ⟨mk p, at_, tx, .slice va ps.length vc, ps⟩ :: b)) w w3 := Turn.of_below hl1
  have hr5 : RW w3 R (.slice va ps.length vc) ps := (hB1.ok _ (List.mem_append_right _ (List.mem_cons_self ..))).row
  have hok := hB1.ok _ (List.mem_append_right _ (List.mem_cons_self ..))
  have HFI : Hid (∀ q ∈ ps, q.Fine) := hok.fine
  have HRI : Hid (ps.Pairwise (fun a b => a.fr ≤ b.fr)) := hok.rise
  have hle : ps.length ≤ 64 := hok.len
  have hB5 := hB1
  have hP5 := hP1
  have hZ5 := hZ1
  have hM5 := hMk
  have hX5 := hX2
  clear hok hB1 hP1 hZ1 hMk hX2 hl1
  go_upto_region 7 with fail
  have hcon := has_any p ps at_ tx (.slice va ps.length vc) R w3 hr5 (by omega)
  rw [hh] at hcon
  go_wp2_with (first
    | (refine wpList_load_at rfl 61 _ rfl _ xb #[.int .i64 at_, .int .i64 tx, .slice va ps.length vc] _ rfl hX5 Try.underlying61 infoX ?_)
    | (refine wpList_load_at rfl 32 _ rfl _ w.heap.size #[.int .i64 p.f, .int .i64 p.t, .int .i64 p.tl, .int .i64 p.pr, .int .i64 p.id, .int .i64 p.fr, .bool p.mo, .bool p.dn, .string p.op, .string p.da] _ rfl hP5 Try.underlying32 (by kernel_rfl) ?_)
    | fail)
  refine hcon.mono ?_
  rintro e w6 ⟨rfl, l6⟩
  clear hcon
  replace hB5 := hB5.later l6
  replace hP5 := hP5.later l6
  replace hZ5 := hZ5.later l6
  replace hM5 := hM5.later l6
  replace hX5 := hX5.later l6
  replace hr5 := hr5.later l6
  replace htt := htt.later l6
  clear l6
  have hcon := fitsP_any p ps at_ tx (.slice va ps.length vc) R w6 hr5 (by omega) hp HFI.out
  rw [hf] at hcon
  go_wp2_with (first
    | (refine wpList_load_at rfl 61 _ rfl _ xb #[.int .i64 at_, .int .i64 tx, .slice va ps.length vc] _ rfl hX5 Try.underlying61 infoX ?_)
    | (refine wpList_load_at rfl 32 _ rfl _ w.heap.size #[.int .i64 p.f, .int .i64 p.t, .int .i64 p.tl, .int .i64 p.pr, .int .i64 p.id, .int .i64 p.fr, .bool p.mo, .bool p.dn, .string p.op, .string p.da] _ rfl hP5 Try.underlying32 (by kernel_rfl) ?_)
    | fail)
  refine hcon.mono ?_
  rintro e w7 ⟨rfl, l6⟩
  clear hcon
  replace hB5 := hB5.later l6
  replace hZ5 := hZ5.later l6
  replace hM5 := hM5.later l6
  replace htt := htt.later l6
  have hRw7 : R ≤ w7.heap.size := hB5.rw'
  have g4 : w7.cell? ⟨B, 4, none⟩ = some (.map (some M)) := (hB5.box.2 4 _ rfl).1
  have m0 : w7.cell? ⟨mb, 0, none⟩ = some (.int .i64 p.f) := (hM5.2 0 _ rfl).1
  have m1 : w7.cell? ⟨mb, 1, none⟩ = some (.int .i64 p.t) := (hM5.2 1 _ rfl).1
  have m2 : w7.cell? ⟨mb, 2, none⟩ = some (.int .i64 p.pr) := (hM5.2 2 _ rfl).1
  have m3 : w7.cell? ⟨mb, 3, none⟩ = some (.int .i64 p.id) := (hM5.2 3 _ rfl).1
  clear l6 hP5 hX5 hM5 hr5
  have hmp9' : GM w7 M (a.map Pile.en ++ (mk p, .agg #[.int .i64 at_, .int .i64 tx, .slice va ps.length vc]) :: b.map Pile.en) := by
    have := hB5.map
    rw [List.map_append, List.map_cons] at this
    exact this
  obtain ⟨W3, hr3, hG3, ht3⟩ := GM.del (w := w7.drew) hmp9' 0
  have hr3' : (Builtin.delete_ #[54, 77] 0 #[.map (some M), .agg #[.int .i64 p.f, .int .i64 p.t, .int .i64 p.pr, .int .i64 p.id]]).run Try.prog w7.drew = .ok (.tuple #[]) W3 := hr3
  clear hr3
  replace ht3 := ht3.undrew
  have hZ3 := hZ5.turn ht3 (by omega)
  have hBXn : BX W3 R B M ro pa la tu (a ++ b) := by
    refine ⟨hB5.box.turn ht3 hB5.ne, (by rw [List.map_append]; exact hG3), fun x hx => (hB5.ok x (inAll hx)).turn ht3 (fun k hk e => by have := (hB5.ok x (inAll hx)).row.ge k hk; omega), far_del hB5.far, hbR, hmR, Nat.le_trans hRw7 ht3.size, hB5.ne⟩
  have htt3 := htt.step ht3 (fun k e => Or.inl (Or.inr (Or.inl e)))
  have HB3 : Hid (BX W3 R B M ro pa la tu (a ++ b)) := hBXn
  have HT3 : Hid (Turn (FL B M (a ++ ⟨mk p, at_, tx, .slice va ps.length vc, ps⟩ :: b)) w W3) := htt3
  have hown : ∀ x ∈ (a ++ b), ∀ k, x.v.ownBlock = some k → ¬ (k = w.heap.size + 1) := fun x hx k hk e => by have := HRL.out x (inAll hx) k hk; omega
  clear hZ5 htt hG3 ht3 hBXn htt3 hB5 HFI HRI
  go_upto_region 10 with fail
  go_region
  go_wp2_with (first
    | (refine wpList_store_at rfl 32 _ _ rfl _ (w.heap.size + 1) #[.int .i64 0, .int .i64 0, .int .i64 0, .int .i64 0, .int .i64 0, .int .i64 0, .bool false, .bool false, .string ⟨#[]⟩, .string ⟨#[]⟩] #[.int .i64 0, .int .i64 0, .int .i64 0, .int .i64 0, .int .i64 0, .int .i64 0, .bool false, .bool false, .string ⟨#[]⟩, .string ⟨#[]⟩] rfl rfl hZ3 rfl (by kernel_rfl) oneZ ?_; intro w11 hZ11 ht11))
  have r0 := (hZ11.2 0 _ rfl).1
  have r1 := (hZ11.2 1 _ rfl).1
  have r2 := (hZ11.2 2 _ rfl).1
  have r3 := (hZ11.2 3 _ rfl).1
  have r4 := (hZ11.2 4 _ rfl).1
  have r5 := (hZ11.2 5 _ rfl).1
  have r6 := (hZ11.2 6 _ rfl).1
  have r7 := (hZ11.2 7 _ rfl).1
  have r8 := (hZ11.2 8 _ rfl).1
  have r9 := (hZ11.2 9 _ rfl).1
  exact bodyPost_ret (v := .tuple #[.agg #[.int .i64 0, .int .i64 0, .int .i64 0, .int .i64 0, .int .i64 0, .int .i64 0, .bool false, .bool false, .string ⟨#[]⟩, .string ⟨#[]⟩], .bool false, .int .i64 120]) (by simp [results, Try.results23, go_sem, r0, r1, r2, r3, r4, r5, r6, r7, r8, r9]) rfl ⟨rfl, HB3.out.turn ht11 (by omega) (by omega) hown, HT3.out.step ht11 (fun k e => Or.inr (by omega))⟩
end Go.Proofs.Ytcjhniehbafhpaa

namespace Go.Proofs.Ytcjhniehbafhpaa
open Go.RowKit Go.Maps
set_option maxRecDepth 100000
set_option linter.unusedVariables false
set_option linter.unusedSimpArgs false

set_option maxHeartbeats 4000000 in
theorem take_bad (p : Pk) (hmay : p.may = true) (w : World) (R B M : Nat) (ro pa la tu : Int) (l : List Pile) (hBX : BX w R B M ro pa la tu l) (now : Int) (hn1 : la ≤ now) (hn2 : now ≤ 1099511627776) (hwh : wholeB p.fr p.mo = false) (Φ : World → World → Prop) (hlay : ∀ W, BX W R B M ro pa now tu l → Calls Try.prog 23 #[.pointer (some ⟨B, 0, none⟩), .agg #[.int .i64 p.f, .int .i64 p.t, .int .i64 p.tl, .int .i64 p.pr, .int .i64 p.id, .int .i64 p.fr, .bool p.mo, .bool p.dn, .string p.op, .string p.da]] W fun e w' => e = .returned (.tuple #[.agg #[.int .i64 0, .int .i64 0, .int .i64 0, .int .i64 0, .int .i64 0, .int .i64 0, .bool false, .bool false, .string ⟨#[]⟩, .string ⟨#[]⟩], .bool false, .int .i64 120]) ∧ Φ W w') (hΦ : ∀ W W', BX W R B M ro pa now tu l → Φ W W' → Turn (FL B M l) W W') :
    Calls Try.prog 13 #[.pointer (some ⟨B, 0, none⟩), .agg #[.int .i64 p.f, .int .i64 p.t, .int .i64 p.tl, .int .i64 p.pr, .int .i64 p.id, .int .i64 p.fr, .bool p.mo, .bool p.dn, .string p.op, .string p.da], .int .i64 now] w fun e w' => e = .returned (.tuple #[.agg #[.int .i64 0, .int .i64 0, .int .i64 0, .int .i64 0, .int .i64 0, .int .i64 0, .bool false, .bool false, .string ⟨#[]⟩, .string ⟨#[]⟩], .bool false, .int .i64 120]) ∧ TP w w' R B M ro pa now tu l Φ := by
  have hrl : ∀ x ∈ l, ∀ k, x.v.ownBlock = some k → k < w.heap.size := fun x hx k hk => (hBX.ok x hx).row.lt k hk
  have hmR := hBX.mR
  have HRL : Hid (∀ x ∈ l, ∀ k, x.v.ownBlock = some k → k < w.heap.size) := hrl
  clear hrl
  have HL : Hid (∀ W, BX W R B M ro pa now tu l → Calls Try.prog 23 #[.pointer (some ⟨B, 0, none⟩), .agg #[.int .i64 p.f, .int .i64 p.t, .int .i64 p.tl, .int .i64 p.pr, .int .i64 p.id, .int .i64 p.fr, .bool p.mo, .bool p.dn, .string p.op, .string p.da]] W fun e w' => e = .returned (.tuple #[.agg #[.int .i64 0, .int .i64 0, .int .i64 0, .int .i64 0, .int .i64 0, .int .i64 0, .bool false, .bool false, .string ⟨#[]⟩, .string ⟨#[]⟩], .bool false, .int .i64 120]) ∧ Φ W w') := hlay
  have HP : Hid (∀ W W', BX W R B M ro pa now tu l → Φ W W' → Turn (FL B M l) W W') := hΦ
  clear hlay hΦ
  have hp := may_fine hmay
  have ho : p.op.size ≤ 1125899906842624 := by have := hp.ol; omega
  have hd : p.da.size ≤ 1125899906842624 := by have := hp.dl; omega
  have hPb := (At.box w #[.int .i64 p.f, .int .i64 p.t, .int .i64 p.tl, .int .i64 p.pr, .int .i64 p.id, .int .i64 p.fr, .bool p.mo, .bool p.dn, .string p.op, .string p.da] 32).later (bel1 _ (.cells #[.int .i64 0, .int .i64 0, .int .i64 0, .int .i64 0, .int .i64 0, .int .i64 0, .bool false, .bool false, .string ⟨#[]⟩, .string ⟨#[]⟩] 32))
  have hZb := At.box2 w (.cells #[.int .i64 p.f, .int .i64 p.t, .int .i64 p.tl, .int .i64 p.pr, .int .i64 p.id, .int .i64 p.fr, .bool p.mo, .bool p.dn, .string p.op, .string p.da] 32) #[.int .i64 0, .int .i64 0, .int .i64 0, .int .i64 0, .int .i64 0, .int .i64 0, .bool false, .bool false, .string ⟨#[]⟩, .string ⟨#[]⟩] 32
  have hl0 := bt (bel1 w (.cells #[.int .i64 p.f, .int .i64 p.t, .int .i64 p.tl, .int .i64 p.pr, .int .i64 p.id, .int .i64 p.fr, .bool p.mo, .bool p.dn, .string p.op, .string p.da] 32)) (bel1 _ (.cells #[.int .i64 0, .int .i64 0, .int .i64 0, .int .i64 0, .int .i64 0, .int .i64 0, .bool false, .bool false, .string ⟨#[]⟩, .string ⟨#[]⟩] 32))
  have hB0 := hBX.later hl0
  have hbR := hBX.bR
  have hRw := hBX.rw'
  clear hBX
  go_enter Try.func13, Try.ntmps13
  go_upto_region 1 with fail
  generalize (w.alloc (.cells #[.int .i64 p.f, .int .i64 p.t, .int .i64 p.tl, .int .i64 p.pr, .int .i64 p.id, .int .i64 p.fr, .bool p.mo, .bool p.dn, .string p.op, .string p.da] 32)).alloc (.cells #[.int .i64 0, .int .i64 0, .int .i64 0, .int .i64 0, .int .i64 0, .int .i64 0, .bool false, .bool false, .string ⟨#[]⟩, .string ⟨#[]⟩] 32) = W0 at *
  go_wp2_with (first | (refine wpList_load_at rfl 32 _ rfl _ w.heap.size #[.int .i64 p.f, .int .i64 p.t, .int .i64 p.tl, .int .i64 p.pr, .int .i64 p.id, .int .i64 p.fr, .bool p.mo, .bool p.dn, .string p.op, .string p.da] _ rfl hPb Try.underlying32 (by kernel_rfl) ?_) | fail)
  refine (chk_t (dn := p.dn) hmay _ ho hd).mono ?_
  rintro e w1 ⟨rfl, l1⟩
  replace hPb := hPb.later l1
  replace hZb := hZb.later l1
  replace hB0 := hB0.later l1
  replace hl0 := bt hl0 l1
  go_wp2_with fail
  refine (move_any hB0 now hn1 hn2).mono ?_
  rintro e w2 ⟨rfl, hB2, ht2⟩
  have hP2 := hPb.turn ht2 (by omega)
  have hZ2 := hZb.turn ht2 (by omega)
  have htt : Turn (fun k => k = B) w w2 := (Turn.of_below hl0).trans ht2
  clear hPb hZb hB0 hl0 ht2 l1
  have hwc := whl_any p.f p.t p.tl p.pr p.id p.fr p.mo p.dn p.op p.da w2
  rw [hwh] at hwc
  go_wp2_with (first | (refine wpList_load_at rfl 32 _ rfl _ w.heap.size #[.int .i64 p.f, .int .i64 p.t, .int .i64 p.tl, .int .i64 p.pr, .int .i64 p.id, .int .i64 p.fr, .bool p.mo, .bool p.dn, .string p.op, .string p.da] _ rfl hP2 Try.underlying32 (by kernel_rfl) ?_) | fail)
  refine hwc.mono ?_
  rintro e w3 ⟨rfl, l3⟩
  clear hwc
  replace hP2 := hP2.later l3
  replace hZ2 := hZ2.later l3
  replace hB2 := hB2.later l3
  replace htt := htt.later l3
  have hs3 := hZ2.1
  clear l3
  have hcon := HL.out w3 hB2
  go_wp2_with (first | (refine wpList_load_at rfl 32 _ rfl _ w.heap.size #[.int .i64 p.f, .int .i64 p.t, .int .i64 p.tl, .int .i64 p.pr, .int .i64 p.id, .int .i64 p.fr, .bool p.mo, .bool p.dn, .string p.op, .string p.da] _ rfl hP2 Try.underlying32 (by kernel_rfl) ?_) | fail)
  refine hcon.mono ?_
  rintro e w4 ⟨rfl, hφ⟩
  have hZ4 := hZ2.turn (HP.out _ _ hB2 hφ) (fun e => by
    rcases e with e | e | ⟨x, hx, e⟩
    · omega
    · omega
    · have := HRL.out x hx _ e; omega)
  have HF : Hid (Φ w3 w4) := hφ
  clear hcon hφ
  go_wp2_with (first
    | (refine wpList_store_at rfl 32 _ _ rfl _ (w.heap.size + 1) #[.int .i64 0, .int .i64 0, .int .i64 0, .int .i64 0, .int .i64 0, .int .i64 0, .bool false, .bool false, .string ⟨#[]⟩, .string ⟨#[]⟩] #[.int .i64 0, .int .i64 0, .int .i64 0, .int .i64 0, .int .i64 0, .int .i64 0, .bool false, .bool false, .string ⟨#[]⟩, .string ⟨#[]⟩] rfl rfl hZ4 rfl (by kernel_rfl) (by simp [Value.oneCell']) ?_; intro w5 hZ5 ht5))
  have r0 := (hZ5.2 0 _ rfl).1
  have r1 := (hZ5.2 1 _ rfl).1
  have r2 := (hZ5.2 2 _ rfl).1
  have r3 := (hZ5.2 3 _ rfl).1
  have r4 := (hZ5.2 4 _ rfl).1
  have r5 := (hZ5.2 5 _ rfl).1
  have r6 := (hZ5.2 6 _ rfl).1
  have r7 := (hZ5.2 7 _ rfl).1
  have r8 := (hZ5.2 8 _ rfl).1
  have r9 := (hZ5.2 9 _ rfl).1
  exact bodyPost_ret (v := .tuple #[.agg #[.int .i64 0, .int .i64 0, .int .i64 0, .int .i64 0, .int .i64 0, .int .i64 0, .bool false, .bool false, .string ⟨#[]⟩, .string ⟨#[]⟩], .bool false, .int .i64 120]) (by simp [results, Try.results13, go_sem, r0, r1, r2, r3, r4, r5, r6, r7, r8, r9]) rfl ⟨rfl, w3, w4, hB2, htt, hs3, HF.out, ht5⟩
end Go.Proofs.Ytcjhniehbafhpaa

namespace Go.Proofs.Ytcjhniehbafhpaa
open Go.RowKit Go.Maps
set_option maxRecDepth 100000
set_option linter.unusedVariables false
set_option linter.unusedSimpArgs false

def lateL (gs : List Pile) : List Pk := gs.filterMap fun x => match x.ps with
  | q :: _ => if q.fr = 0 then some q else none
  | [] => none
theorem late_snoc (gs : List Pile) (x : Pile) (q : Pk) (r : List Pk) (hx : x.ps = q :: r) : lateL (gs ++ [x]) = lateL gs ++ (if q.fr = 0 then [q] else []) := by
  unfold lateL
  rw [List.filterMap_append]
  congr 1
  by_cases h : q.fr = 0
  · simp [List.filterMap_cons, hx, h]
  · simp [List.filterMap_cons, hx, h]
theorem late_len (gs : List Pile) : (lateL gs).length ≤ gs.length := List.length_filterMap_le _ _
theorem takeL_snoc {α : Type} {l : List α} {k : Nat} {x : α} (h : l[k]? = some x) : l.take (k + 1) = l.take k ++ [x] := by
  rw [List.take_add_one, h]
  rfl
def TK (w w' : World) (R B M : Nat) (ro pa now tu : Int) (l : List Pile) (v : Value) : Prop := BX w' R B M ro pa now tu (l.filter fun x => !old now pa x) ∧ RW w' w.heap.size v (lateL (l.filter (old now pa))) ∧ Turn (fun k => k = B ∨ k = M) w w'
set_option maxHeartbeats 8000000 in
theorem tick_any {w : World} {R B M : Nat} {ro pa la tu : Int} {l : List Pile} (h : BX w R B M ro pa la tu l) (now : Int) (hn1 : la ≤ now) (hn2 : now ≤ 1099511627776) (hp0 : 1 ≤ pa) (hp1 : pa ≤ 1048576) (hl0 : 0 ≤ la) (hat : ∀ x ∈ l, 0 ≤ x.at_ ∧ x.at_ ≤ la) (htu : ∀ x ∈ l, 0 ≤ x.tu ∧ x.tu < 1099511627776) (hso : l.Pairwise (fun x y => x.tu < y.tu)) (hne : ∀ x ∈ l, x.ps ≠ []) (hlen : l.length ≤ 64) :
    Calls Try.prog 11 #[.pointer (some ⟨B, 0, none⟩), .int .i64 now] w fun e w' => ∃ v, e = .returned (.tuple #[v, .int .i64 0]) ∧ TK w w' R B M ro pa now tu l v := by
  have hRw := h.rw'
  have HNE : Hid (∀ x ∈ l, x.ps ≠ []) := hne
  clear hne
  go_enter Try.func11, Try.ntmps11
  go_wp2_with fail
  refine (move_any h now hn1 hn2).mono ?_
  rintro e w1 ⟨rfl, hB1, ht1⟩
  go_wp2_with fail
  refine (overdue_any hB1 hp0 hp1 (by omega) hn2 (fun x hx => ⟨(hat x hx).1, by have := (hat x hx).2; omega⟩) htu hso hlen).mono ?_
  rintro e w2 ⟨v, rfl, hB2, hGS, hok, ht2⟩
  have hs1 := ht1.size
  have hs2 := ht2.size
  have HF2 : Hid (BX w2 R B M ro pa now tu (l.filter fun x => !old now pa x) ∧ Turn (fun k => k = B ∨ k = M) w w2) := ⟨hB2, (ht1.mono (fun k e => Or.inl e)).trans (ht2.mono (fun k e => Or.inr e))⟩
  have HOK : Hid (∀ x ∈ l, x.Ok w2 R) := hok
  obtain ⟨G, hG⟩ : ∃ G, G = l.filter (old now pa) := ⟨_, rfl⟩
  have hGl : G.length ≤ 64 := by rw [hG]; exact Nat.le_trans (List.length_filter_le _ _) hlen
  have HIN : Hid (∀ x ∈ G, x ∈ l) := fun x hx => by rw [hG] at hx; exact (List.mem_filter.1 hx).1
  have HG : Hid (G = l.filter (old now pa)) := hG
  rw [← hG] at hGS
  obtain ⟨p, c, hv⟩ : ∃ p c, v = .slice p G.length c := by
    rcases hGS with ⟨e, p, c, hv⟩ | ⟨g, c, hv, -⟩
    · exact ⟨p, c, by rw [hv, e]; rfl⟩
    · exact ⟨_, c, hv⟩
  subst hv
  have HGS : Hid (GS w2 w1.heap.size (.slice p G.length c) G) := hGS
  clear hB2 hGS hok hat htu hso h hB1 ht1 ht2 hG hp0 hp1 hl0
  have hGi : (G.length : Int) ≤ 64 := by omega
  go_wp2
  go_loopw [4, 16] (fun vl vi wr => ∃ (k : Nat) (vz : Value), vl = vz ∧ k ≤ G.length ∧ vi = .int .i64 (k : Int) ∧ RW wr w2.heap.size vz (lateL (G.take k)) ∧ Below w2.heap.size w2 wr) (fun _ vi _ => G.length - (intOf vi).toNat)
  case atStart => exact ⟨0, _, rfl, Nat.zero_le _, rfl, RW.nil _ _, Below.refl _ _⟩
  case round =>
    obtain ⟨k, vz, rfl, hk, rfl, hrw, hb⟩ := hrel
    by_cases hlt : k < G.length
    · obtain ⟨x, hx⟩ : ∃ x, G[k]? = some x := ⟨G[k], List.getElem?_eq_getElem hlt⟩
      have hxG := List.mem_of_getElem? hx
      have hxl := HIN.out x hxG
      have hxo := HOK.out x hxl
      obtain ⟨g, rfl, hgR, hgw, hcl⟩ : ∃ g, p = some ⟨g, 0, none⟩ ∧ w1.heap.size ≤ g ∧ g < w2.heap.size ∧ ∀ i x, G[i]? = some x → ∀ j u, x.L[j]? = some u → w2.cell? ⟨g, i * 3 + j, none⟩ = some u := by
        rcases HGS.out with ⟨e, -⟩ | ⟨g, c', hv, h1, h2, h3⟩
        · rw [e] at hlt; exact absurd hlt (Nat.not_lt_zero _)
        · injection hv with e1; exact ⟨g, e1, h1, h2, h3⟩
      obtain ⟨q, r, hps⟩ : ∃ q r, x.ps = q :: r := by
        cases h : x.ps with
        | nil => exact absurd h (HNE.out x hxl)
        | cons q r => exact ⟨q, r, rfl⟩
      obtain ⟨pg, pc', cur, hxv, hpg, hcur, -⟩ := hxo.row.real (by rw [hps]; simp)
      have hrow := hxo.row
      rw [hxv] at hrow
      have hq : w2.rangeAt pg 0 [.int .i64 q.f, .int .i64 q.t, .int .i64 q.tl, .int .i64 q.pr, .int .i64 q.id, .int .i64 q.fr, .bool q.mo, .bool q.dn, .string q.op, .string q.da] := fun j u hu => by
        have := hrow.cells (i := 0) (p := q) (by rw [hps]; rfl) j u hu
        rwa [Nat.zero_mul] at this
      have y0 := later hb (hcl k x hx 0 _ rfl)
      have y1 := later hb (hcl k x hx 1 _ rfl)
      have y2 := later hb (hcl k x hx 2 _ rfl)
      rw [hxv, hps] at y2
      rw [Nat.add_zero] at y0
      have hq' : wr.rangeAt pg 0 [.int .i64 q.f, .int .i64 q.t, .int .i64 q.tl, .int .i64 q.pr, .int .i64 q.id, .int .i64 q.fr, .bool q.mo, .bool q.dn, .string q.op, .string q.da] := fun j u hu => later hb (hq j u hu)
      have hk1 : (k : Int) < (G.length : Int) := by omega
      have hk3 : (0 : Int) ≤ (k : Int) := by omega
      have HST : Hid (lateL (G.take (k + 1)) = lateL (G.take k) ++ (if q.fr = 0 then [q] else [])) := by
        show _ = _
        rw [takeL_snoc hx]; exact late_snoc _ x q r hps
      have hll : (lateL (G.take k)).length < 1000000 := by have := late_len (G.take k); rw [List.length_take] at this; omega
      generalize x.at_ = xat at *
      generalize x.tu = xtu at *
      obtain ⟨nr, hnr⟩ : ∃ nr, nr = r.length := ⟨_, rfl⟩
      have y2' : wr.cell? ⟨g, k * 3 + 2, none⟩ = some (.slice (some ⟨pg, 0, none⟩) (nr + 1) pc') := by rw [hnr]; exact y2
      clear hcl hq hrow hxv hcur hps hx hxG hxl hxo y2 hpg hnr
      go_upto_region 6 with (first
        | (refine wpList_store_at rfl 61 _ _ rfl _ wr.heap.size #[.int .i64 0, .int .i64 0, .slice none 0 0] #[.int .i64 xat, .int .i64 xtu, .slice (some ⟨pg, 0, none⟩) (nr + 1) pc'] rfl rfl (At.box wr #[.int .i64 0, .int .i64 0, .slice none 0 0] 61) rfl infoX (by simp [Value.oneCell']) ?_; intro w3 hX3 ht3)
        | go_in)
      have q3 : Below wr.heap.size wr w3 := (bel1 wr (.cells #[.int .i64 0, .int .i64 0, .slice none 0 0] 61)).trans (below_turn ht3 (Nat.le_refl _) (bel1 wr _).size)
      have hq3 : w3.rangeAt pg 0 [.int .i64 q.f, .int .i64 q.t, .int .i64 q.tl, .int .i64 q.pr, .int .i64 q.id, .int .i64 q.fr, .bool q.mo, .bool q.dn, .string q.op, .string q.da] := fun j u hu => later q3 (hq' j u hu)
      have hrw3 := hrw.later q3
      have hb3 := bt hb q3
      have x2 := (hX3.2 2 _ rfl).1
      clear ht3 q3 hq' hrw hb y0 y1 y2'
      go_upto_region 7 with (first
        | (refine wpList_load_mid rfl 32 _ rfl pg 0 (by first | rfl | simp) _ _ hq3 Try.underlying32 rfl (by kernel_rfl) ?_)
        | (refine wpList_store_at rfl 32 _ _ rfl _ w3.heap.size #[.int .i64 0, .int .i64 0, .int .i64 0, .int .i64 0, .int .i64 0, .int .i64 0, .bool false, .bool false, .string ⟨#[]⟩, .string ⟨#[]⟩] #[.int .i64 q.f, .int .i64 q.t, .int .i64 q.tl, .int .i64 q.pr, .int .i64 q.id, .int .i64 q.fr, .bool q.mo, .bool q.dn, .string q.op, .string q.da] rfl rfl (At.box w3 #[.int .i64 0, .int .i64 0, .int .i64 0, .int .i64 0, .int .i64 0, .int .i64 0, .bool false, .bool false, .string ⟨#[]⟩, .string ⟨#[]⟩] 32) rfl (by kernel_rfl) (by simp [Value.oneCell']) ?_; intro w4 hQ4 ht4)
        | go_in)
      have q4 : Below w3.heap.size w3 w4 := (bel1 w3 (.cells #[.int .i64 0, .int .i64 0, .int .i64 0, .int .i64 0, .int .i64 0, .int .i64 0, .bool false, .bool false, .string ⟨#[]⟩, .string ⟨#[]⟩] 32)).trans (below_turn ht4 (Nat.le_refl _) (bel1 w3 _).size)
      have hrw4 := hrw3.later q4
      have hb4 := bt hb3 q4
      have x5 := (hQ4.2 5 _ rfl).1
      clear ht4 q4 hq3 hrw3 hb3 x2 hX3
      by_cases hfr : q.fr = 0
      · have HFR : Hid (q.fr = 0) := hfr
        have hfb : (q.fr == 0) = true := by simp [hfr]
        clear hfr
        have hrA := hrw4.later (bel1 w4 (.cells #[.int .i64 q.f, .int .i64 q.t, .int .i64 q.tl, .int .i64 q.pr, .int .i64 q.id, .int .i64 q.fr, .bool q.mo, .bool q.dn, .string q.op, .string q.da] 32))
        have hRl : w2.heap.size ≤ (w4.alloc (.cells #[.int .i64 q.f, .int .i64 q.t, .int .i64 q.tl, .int .i64 q.pr, .int .i64 q.id, .int .i64 q.fr, .bool q.mo, .bool q.dn, .string q.op, .string q.da] 32)).heap.size := by have := (bel1 w4 (.cells #[.int .i64 q.f, .int .i64 q.t, .int .i64 q.tl, .int .i64 q.pr, .int .i64 q.id, .int .i64 q.fr, .bool q.mo, .bool q.dn, .string q.op, .string q.da] 32)).size; have := hb4.size; omega
        have HNW : Hid (∀ j u, q.L[j]? = some u → (w4.alloc (.cells #[.int .i64 q.f, .int .i64 q.t, .int .i64 q.tl, .int .i64 q.pr, .int .i64 q.id, .int .i64 q.fr, .bool q.mo, .bool q.dn, .string q.op, .string q.da] 32)).cell? ⟨w4.heap.size, j, none⟩ = some u) := fun j u hu => ((At.box w4 #[.int .i64 q.f, .int .i64 q.t, .int .i64 q.tl, .int .i64 q.pr, .int .i64 q.id, .int .i64 q.fr, .bool q.mo, .bool q.dn, .string q.op, .string q.da] 32).2 j u (by rw [List.getElem?_toArray]; exact hu)).1
        go_upto_region 8 with fail
        go_wp2_with (first
          | (refine wpList_load_at rfl 32 _ rfl _ w3.heap.size #[.int .i64 q.f, .int .i64 q.t, .int .i64 q.tl, .int .i64 q.pr, .int .i64 q.id, .int .i64 q.fr, .bool q.mo, .bool q.dn, .string q.op, .string q.da] _ rfl hQ4 Try.underlying32 (by kernel_rfl) ?_)
          | (refine wpList_bsliceP2 rfl _ rfl q #[.int .i64 q.f, .int .i64 q.t, .int .i64 q.tl, .int .i64 q.pr, .int .i64 q.id, .int .i64 q.fr, .bool q.mo, .bool q.dn, .string q.op, .string q.da] rfl rfl ?_)
          | (at_builtin; refine wpList_appendP2 rfl _ _ rfl w2.heap.size u4 (lateL (G.take k)) q w4.heap.size 1 rfl hrA rfl HNW.out hRl hll ?_; intro vg' w6 hr6 ht6 hv6))
        have hb6 : Below w2.heap.size w2 w6 := (bt hb4 (bel1 w4 (.cells #[.int .i64 q.f, .int .i64 q.t, .int .i64 q.tl, .int .i64 q.pr, .int .i64 q.id, .int .i64 q.fr, .bool q.mo, .bool q.dn, .string q.op, .string q.da] 32))).trans (ht6.below hRl (fun j hj e => by have := hrA.ge j e; omega))
        have HR6 : Hid (RW w6 w2.heap.size vg' (lateL (G.take (k + 1)))) := by
          show RW _ _ _ _
          rw [HST.out, if_pos HFR.out]; exact hr6
        clear hr6 ht6 hv6 hrA hrw4 hQ4 x5 HNW
        go_wp2
        go_roundw
        case rel => exact ⟨k + 1, vg', rfl, by omega, by first | rfl | simp, HR6.out, hb6⟩
        case measure => simp [intOf]; omega
      · have hfb : (q.fr == 0) = false := by simp [hfr]
        have HR6 : Hid (RW w4 w2.heap.size u4 (lateL (G.take (k + 1)))) := by
          show RW _ _ _ _
          rw [HST.out, if_neg hfr, List.append_nil]; exact hrw4
        clear hrw4 hQ4
        go_wp2
        go_roundw
        case rel => exact ⟨k + 1, _, rfl, by omega, by first | rfl | simp, HR6.out, hb4⟩
        case measure => simp [intOf]; omega
    · have hkg : k = G.length := by omega
      have hk1 : ¬ (k : Int) < (G.length : Int) := by omega
      have hrw' := hrw
      rw [hkg, List.take_length, HG.out] at hrw'
      have HR : Hid (RW wr w2.heap.size u4 (lateL (l.filter (old now pa)))) := hrw'
      clear hrw hrw' hkg
      go_wp2
      go_ret2
      exact ⟨_, rfl, HF2.out.1.later hb, HR.out.low (by omega), HF2.out.2.later hb⟩
end Go.Proofs.Ytcjhniehbafhpaa
