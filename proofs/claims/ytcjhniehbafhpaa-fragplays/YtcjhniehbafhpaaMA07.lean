/- the texts Fn, Fo, Fp, in part, merged by program -/
import Derived.Test.YtcjhniehbafhpaaProg
import Derived.Test.YtcjhniehbafhpaaRows
import Derived.WalkKit
import Derived.WalkSpells
import Derived.Laws.OwnMore
import Derived.Maps.RangeWalk
import Derived.Maps.OwnSet
import Derived.Maps.Ext
import Derived.Maps.Keyed
import Derived.DeepKeys4
import Derived.WalkSmall
import Derived.Deep.Cut
import Derived.Deep.CutRange
import Derived.Deep.MidRow
import Derived.Deep.QuietTactic
import Derived.BigQuiet
import Derived.Deep.RegionWith
import Derived.OwnWalk
import Derived.Laws.CopyRow
import Derived.OrdersHeld
import Derived.Shelf.Spec.SlicesInsert
import Derived.Lib.AppendZerosOnto
import Derived.Maps.AppendAt
import Derived.Lib.Overlaps
import Derived.Shelf.Strings.BuilderK
import Derived.Laws.AppendOwn
import Derived.Laws.AppendOwnNone
import Derived.Carry
import Derived.Deep.RegionHeld3
import Derived.LoopN
import Derived.Test.YtcjhniehbafhpaaMA01
import Derived.Test.YtcjhniehbafhpaaMA02
import Derived.Test.YtcjhniehbafhpaaMA03
import Derived.Test.YtcjhniehbafhpaaMA04
import Derived.Test.YtcjhniehbafhpaaMA05
import Derived.Test.YtcjhniehbafhpaaMA06
namespace Go.Proofs.Ytcjhniehbafhpaa
open Go.RowKit Go.Maps
set_option maxRecDepth 100000
set_option linter.unusedVariables false
set_option linter.unusedSimpArgs false

theorem op_store_at {op : Oper} {a : Act} {K : Act → World → Prop} {Q : Exit → Act → World → Prop} (ty : TypeId) (x y : Operand) (ho : op.op = .store ty x y) (w : World) (b : Nat) (old vs : Array Value) (hx : a.eval x = .pointer (some ⟨b, 0, none⟩)) (hy : a.eval y = .agg vs) (hA : At w b old) (hzs : old.size = vs.size) (hi : (Try.prog.info? ty).map (·.size) = some vs.size) (h1 : vs.all (·.oneCell') = true)
    (h : ∀ w', At w' b vs → Turn (fun k => k = b) w w' → K (a.put op.dst undef) w') : op.wp Try.prog a w K Q := by
  refine wp_store_mid ty x y ho b 0 vs hx hy (by rw [← hzs]; exact at_there hA) hi h1 ?_
  exact h _ (at_whole hA hzs) (turn_setCells b _ _ _)
theorem bel_drew (w : World) : Below w.heap.size w w.drew := (Below.refl _ _).drew
theorem below_turn {b n : Nat} {w w' : World} (h : Turn (fun k => k = b) w w') (hn : n ≤ b) (hw : n ≤ w.heap.size) : Below n w w' := h.below hw (fun k hk e => by omega)
theorem begin_any {w : World} {R B M : Nat} {ro pa la tu : Int} {l : List Pile} (h : BX w R B M ro pa la tu l) (h1 : 0 ≤ tu) (h2 : tu ≤ 1000000000) :
    Calls Try.prog 35 #[.pointer (some ⟨B, 0, none⟩)] w fun e w' => e = .returned (.agg #[.int .i64 la, .int .i64 (tu + 1), .slice none 0 0]) ∧ BX w' R B M ro pa la (tu + 1) l ∧ Turn (fun k => k = B) w w' := by
  have hb1 := bel1 w (.cells #[.int .i64 0, .int .i64 0, .slice none 0 0] 61)
  have hZ := At.box w #[.int .i64 0, .int .i64 0, .slice none 0 0] 61
  have h' := h.later hb1
  have hsz := h.rw'
  have hbl := h.box.1
  have hrl : ∀ x ∈ l, ∀ k, x.v.ownBlock = some k → k < w.heap.size := fun x hx k hk => (h.ok x hx).row.lt k hk
  obtain ⟨c3, f3⟩ := h'.box.2 3 _ rfl
  have hwr : IntKind.i64.wrap (tu + 1) = tu + 1 := by rw [IntKind.wrap_i64]; omega
  go_enter Try.func35, Try.ntmps35
  go_upto_region 1 with fail
  obtain ⟨zb, hzb⟩ : ∃ z, z = w.heap.size := ⟨_, rfl⟩
  rw [← hzb] at hZ hrl
  rw [← hzb]
  have hzB : B < zb := by omega
  have hRz : R ≤ zb := by omega
  generalize w.alloc (.cells #[.int .i64 0, .int .i64 0, .slice none 0 0] 61) = w1 at *
  go_upto_region 2 with fail
  have ht := turn_set w1 B 3 (.int .i64 (tu + 1))
  have hA : At (w1.setCell ⟨B, 3, none⟩ (.int .i64 (tu + 1))) B #[.int .i64 ro, .int .i64 pa, .int .i64 la, .int .i64 (tu + 1), .map (some M)] := h'.box.set 3 (.int .i64 (tu + 1))
  have hBX : BX (w1.setCell ⟨B, 3, none⟩ (.int .i64 (tu + 1))) R B M ro pa la (tu + 1) l := ⟨hA, h'.map.turn ht (fun e => h.ne e.symm), fun x hx => (h'.ok x hx).turn ht (fun k hk e => by have := (h.ok x hx).row.ge k hk; have := h.bR; omega), h.far, h.bR, h.mR, Nat.le_trans h'.rw' ht.size, h.ne⟩
  have hZ2 := hZ.turn ht (by omega)
  have htt : Turn (fun k => k = B) w (w1.setCell ⟨B, 3, none⟩ (.int .i64 (tu + 1))) := (Turn.of_below hb1).trans ht
  clear h h' c3 f3 hZ ht hA hb1
  generalize w1.setCell ⟨B, 3, none⟩ (.int .i64 (tu + 1)) = w2 at *
  have hf2 : ∀ W, Below zb w2 W → W.cell? ⟨B, 2, none⟩ = some (.int .i64 la) := fun W hW => (hW.cell hzB).trans (hBX.box.2 2 _ rfl).1
  have hf3 : ∀ W, Below zb w2 W → W.cell? ⟨B, 3, none⟩ = some (.int .i64 (tu + 1)) := fun W hW => (hW.cell hzB).trans (hBX.box.2 3 _ rfl).1
  refine wp_region_held_drew (S := (fun W => Below zb w2 W)) (by kernel_rfl) ?_ (fun hHeld => ?_)
  · first | exact (Below.refl _ _).drew | assumption
  refine tk (i := 0) (oi := ⟨some 10, .move (.tmp 0), 23, "frag.go:115", #[], none⟩) (v := .pointer (some ⟨B, 0, none⟩)) rfl (by kernel_rfl) (fun _ _ _ h => h) (Or.inl ⟨by rfl, ?_⟩) (by assumption) ?_
  · intro wx hSw
    go_simp
    try with_reducible rfl
  try simp only [Act.put, La1, La2, La3]
  refine tk (i := 1) (oi := ⟨some 11, .nilCheck (.tmp 10), 0, "frag.go:115", #[⟨0, .data⟩], none⟩) (v := .pointer (some ⟨B, 0, none⟩)) rfl (by kernel_rfl) (fun _ _ _ h => h) (Or.inl ⟨by rfl, ?_⟩) (by assumption) ?_
  · intro wx hSw
    go_simp
    try with_reducible rfl
  try simp only [Act.put, La1, La2, La3]
  refine tk (i := 2) (oi := ⟨some 12, .fieldAddr 56 (.tmp 11) 2, 0, "frag.go:115", #[⟨1, .data⟩], none⟩) (v := .pointer (some ⟨B, 2, none⟩)) rfl (by kernel_rfl) (fun _ _ _ h => h) (Or.inl ⟨by rfl, ?_⟩) (by assumption) ?_
  · intro wx hSw
    go_simp
    try with_reducible rfl
  try simp only [Act.put, La1, La2, La3]
  refine tk (i := 3) (oi := ⟨some 13, .load 3 (.tmp 12), 3, "frag.go:115", #[⟨2, .data⟩], none⟩) (v := .int .i64 la) rfl (by kernel_rfl) (fun _ _ _ h => h) (Or.inl ⟨by rfl, ?_⟩) (by assumption) ?_
  · intro wx hSw
    try dsimp only at hSw
    have u2 := hf2 wx hSw
    have u3 := hf3 wx hSw
    go_simp
    try with_reducible rfl
  try simp only [Act.put, La1, La2, La3]
  refine tk (i := 4) (oi := ⟨some 14, .move (.tmp 0), 23, "frag.go:115", #[], none⟩) (v := .pointer (some ⟨B, 0, none⟩)) rfl (by kernel_rfl) (fun _ _ _ h => h) (Or.inl ⟨by rfl, ?_⟩) (by assumption) ?_
  · intro wx hSw
    go_simp
    try with_reducible rfl
  try simp only [Act.put, La1, La2, La3]
  refine tk (i := 5) (oi := ⟨some 15, .nilCheck (.tmp 14), 0, "frag.go:115", #[⟨4, .data⟩], none⟩) (v := .pointer (some ⟨B, 0, none⟩)) rfl (by kernel_rfl) (fun _ _ _ h => h) (Or.inl ⟨by rfl, ?_⟩) (by assumption) ?_
  · intro wx hSw
    go_simp
    try with_reducible rfl
  try simp only [Act.put, La1, La2, La3]
  refine tk (i := 6) (oi := ⟨some 16, .fieldAddr 56 (.tmp 15) 3, 0, "frag.go:115", #[⟨5, .data⟩], none⟩) (v := .pointer (some ⟨B, 3, none⟩)) rfl (by kernel_rfl) (fun _ _ _ h => h) (Or.inl ⟨by rfl, ?_⟩) (by assumption) ?_
  · intro wx hSw
    go_simp
    try with_reducible rfl
  try simp only [Act.put, La1, La2, La3]
  refine tk (i := 7) (oi := ⟨some 17, .load 3 (.tmp 16), 3, "frag.go:115", #[⟨6, .data⟩], none⟩) (v := .int .i64 (tu + 1)) rfl (by kernel_rfl) (fun _ _ _ h => h) (Or.inl ⟨by rfl, ?_⟩) (by assumption) ?_
  · intro wx hSw
    try dsimp only at hSw
    have u2 := hf2 wx hSw
    have u3 := hf3 wx hSw
    go_simp
    try with_reducible rfl
  try simp only [Act.put, La1, La2, La3]
  refine tk (i := 8) (oi := ⟨some 18, .build 61 #[(0, .tmp 13), (1, .tmp 17)], 61, "frag.go:115", #[⟨3, .data⟩, ⟨7, .data⟩], none⟩) (v := .agg #[.int .i64 la, .int .i64 (tu + 1), .slice none 0 0]) rfl (by kernel_rfl) (fun _ _ _ h => h) (Or.inl ⟨by rfl, ?_⟩) (by assumption) ?_
  · intro wx hSw
    go_simp
    try with_reducible rfl
  try simp only [Act.put, La1, La2, La3]
  refine wpAnyH_ready (rs := [9]) (by kernel_rfl) (by simp) ?_
  refine AllReadyH.cons (o := ⟨none, .store 61 (.tmp 2) (.tmp 18), 0, "frag.go:115", #[⟨8, .data⟩, ⟨0, .phase⟩, ⟨1, .phase⟩, ⟨2, .phase⟩, ⟨3, .phase⟩, ⟨4, .phase⟩, ⟨5, .phase⟩, ⟨6, .phase⟩, ⟨7, .phase⟩, ⟨8, .phase⟩], none⟩) rfl (fun K hK => ?_) AllReadyH.nil
  rw [if_pos (by rfl)]
  refine op_store_at 61 _ _ rfl _ zb #[.int .i64 0, .int .i64 0, .slice none 0 0] #[.int .i64 la, .int .i64 (tu + 1), .slice none 0 0] rfl rfl (hZ2.later (bel_drew w2)) rfl infoX (by simp [Value.oneCell']) ?_
  intro w3 hZ3 ht3
  have hb3 : Below zb w2 w3 := hHeld.trans (below_turn ht3 (Nat.le_refl _) (Nat.le_of_lt hZ2.1))
  refine hK.out _ _ hb3 (fun hHeld => ?_)
  clear hK K
  try simp only [Act.put, La1, La2, La3]
  refine wpAnyH_done (by kernel_rfl) ?_ _
  have r0 := (hZ3.2 0 _ rfl).1
  have r1 := (hZ3.2 1 _ rfl).1
  have r2 := (hZ3.2 2 _ rfl).1
  have hBX3 := hBX.turn (ht3.undrew) (by omega) (by have := hBX.mR; omega) (fun x hx k hk e => by have := hrl x hx k hk; omega)
  go_wp2
  exact bodyPost_ret (v := .agg #[.int .i64 la, .int .i64 (tu + 1), .slice none 0 0]) (by simp [results, Try.results35, go_sem, r0, r1, r2]) rfl ⟨rfl, hBX3, htt.step ht3.undrew (fun k e => Or.inr (by omega))⟩
end Go.Proofs.Ytcjhniehbafhpaa

namespace Go.Proofs.Ytcjhniehbafhpaa
open Go.RowKit Go.Maps
set_option maxRecDepth 100000
set_option linter.unusedVariables false
set_option linter.unusedSimpArgs false

theorem cut_fr {ps : List Pk} {x : Int} {i : Nat} (h : Cutp ps x i i) : (∀ q ∈ ps.take i, q.fr < x) ∧ (∀ q ∈ ps.drop i, x ≤ q.fr) := by
  constructor
  · intro q hq
    obtain ⟨t, ht⟩ := List.getElem?_of_mem hq
    rw [List.getElem?_take] at ht
    split at ht
    · exact h.1 t q ht (by assumption)
    · cases ht
  · intro q hq
    obtain ⟨t, ht⟩ := List.getElem?_of_mem hq
    rw [List.getElem?_drop] at ht
    exact h.2 (i + t) q ht (by omega)
theorem ins_rise {ps : List Pk} {p : Pk} {i : Nat} (hs : ps.Pairwise (fun a b => a.fr ≤ b.fr)) (h : Cutp ps p.fr i i) : (insL ps i p).Pairwise (fun a b => a.fr ≤ b.fr) := by
  obtain ⟨h1, h2⟩ := cut_fr h
  unfold insL
  rw [List.pairwise_append, List.pairwise_cons]
  refine ⟨hs.sublist (List.take_sublist _ _), ⟨fun b hb => h2 b hb, hs.sublist (List.drop_sublist _ _)⟩, fun a ha b hb => ?_⟩
  have := h1 a ha
  rcases List.mem_cons.1 hb with rfl | hb
  · omega
  · have := h2 b hb; omega
theorem ins_mem {ps : List Pk} {p q : Pk} {i : Nat} (h : q ∈ insL ps i p) : q = p ∨ q ∈ ps := by
  unfold insL at h
  rcases List.mem_append.1 h with h | h
  · exact Or.inr (List.mem_of_mem_take h)
  · rcases List.mem_cons.1 h with h | h
    · exact Or.inl h
    · exact Or.inr (List.mem_of_mem_drop h)
theorem ins_len {ps : List Pk} {p : Pk} {i : Nat} (h : i ≤ ps.length) : (insL ps i p).length = ps.length + 1 := by
  unfold insL; rw [List.length_append, List.length_cons, List.length_take, List.length_drop]; omega
theorem fitsL_len {ps : List Pk} {p : Pk} (h : fitsL ps p = true) : ps.length < 64 := by
  unfold fitsL at h
  simp only [Bool.and_eq_true, decide_eq_true_eq] at h
  exact h.1.2
theorem infoM : (Try.prog.info? 77).map (·.size) = some 4 := by kernel_rfl
theorem oneZ : (#[.int .i64 0, .int .i64 0, .int .i64 0, .int .i64 0, .int .i64 0, .int .i64 0, .bool false, .bool false, .string ⟨#[]⟩, .string ⟨#[]⟩] : Array Value).all (·.oneCell') = true := by simp [Value.oneCell']
theorem box_map {w : World} {R B M : Nat} {ro pa la tu : Int} {l : List Pile} (h : BX w R B M ro pa la tu l) : w.cell? ⟨B, 4, none⟩ = some (.map (some M)) := (h.box.2 4 _ rfl).1
def LayMore (w w' : World) (R B M : Nat) (ro pa la tu : Int) (l a b : List Pile) (at_ tx : Int) (ps : List Pk) (p : Pk) : Prop := ∃ (v' : Value) (i : Nat), i ≤ ps.length ∧ Cutp ps p.fr i i ∧ BX w' R B M ro pa la tu (a ++ ⟨mk p, at_, tx, v', insL ps i p⟩ :: b) ∧ Turn (FL B M l) w w' ∧ ∀ k, v'.ownBlock = some k → (∃ x ∈ l, x.v.ownBlock = some k) ∨ w.heap.size ≤ k
def LayBox (w w' : World) (R B M : Nat) (ro pa la tu : Int) (l0 l : List Pile) : Prop := BX w' R B M ro pa la tu l ∧ Turn (FL B M l0) w w'
set_option maxHeartbeats 8000000 in
theorem lay_has (p : Pk) (hp : p.Fine) (hm : (mk p).wf) (w : World) (R B M : Nat) (ro pa la tu : Int) (a b : List Pile) (at_ tx : Int) (v : Value) (ps : List Pk) (hBX : BX w R B M ro pa la tu (a ++ ⟨mk p, at_, tx, v, ps⟩ :: b)) (h0 : ps ≠ []) (hh : ps.any (hasB p) = true) :
    Calls Try.prog 23 #[.pointer (some ⟨B, 0, none⟩), .agg #[.int .i64 p.f, .int .i64 p.t, .int .i64 p.tl, .int .i64 p.pr, .int .i64 p.id, .int .i64 p.fr, .bool p.mo, .bool p.dn, .string p.op, .string p.da]] w fun e w' => e = .returned (.tuple #[.agg #[.int .i64 0, .int .i64 0, .int .i64 0, .int .i64 0, .int .i64 0, .int .i64 0, .bool false, .bool false, .string ⟨#[]⟩, .string ⟨#[]⟩], .bool false, .int .i64 0]) ∧ LayBox w w' R B M ro pa la tu (a ++ ⟨mk p, at_, tx, v, ps⟩ :: b) (a ++ ⟨mk p, at_, tx, v, ps⟩ :: b) := by
  obtain ⟨va, vc, rfl⟩ : ∃ a c, v = .slice a ps.length c := RW.shape (hBX.ok ⟨mk p, at_, tx, v, ps⟩ (by simp)).row
  have hPb := (At.box w #[.int .i64 p.f, .int .i64 p.t, .int .i64 p.tl, .int .i64 p.pr, .int .i64 p.id, .int .i64 p.fr, .bool p.mo, .bool p.dn, .string p.op, .string p.da] 32).later (bel1 _ (.cells #[.int .i64 0, .int .i64 0, .int .i64 0, .int .i64 0, .int .i64 0, .int .i64 0, .bool false, .bool false, .string ⟨#[]⟩, .string ⟨#[]⟩] 32))
  have hZb := At.box2 w (.cells #[.int .i64 p.f, .int .i64 p.t, .int .i64 p.tl, .int .i64 p.pr, .int .i64 p.id, .int .i64 p.fr, .bool p.mo, .bool p.dn, .string p.op, .string p.da] 32) #[.int .i64 0, .int .i64 0, .int .i64 0, .int .i64 0, .int .i64 0, .int .i64 0, .bool false, .bool false, .string ⟨#[]⟩, .string ⟨#[]⟩] 32
  have hl0 := bt (bel1 w (.cells #[.int .i64 p.f, .int .i64 p.t, .int .i64 p.tl, .int .i64 p.pr, .int .i64 p.id, .int .i64 p.fr, .bool p.mo, .bool p.dn, .string p.op, .string p.da] 32)) (bel1 _ (.cells #[.int .i64 0, .int .i64 0, .int .i64 0, .int .i64 0, .int .i64 0, .int .i64 0, .bool false, .bool false, .string ⟨#[]⟩, .string ⟨#[]⟩] 32))
  have hB0 := hBX.later hl0
  have hRw := hBX.rw'
  have hrl : ∀ x ∈ (a ++ ⟨mk p, at_, tx, .slice va ps.length vc, ps⟩ :: b), ∀ k, x.v.ownBlock = some k → k < w.heap.size := fun x hx k hk => (hBX.ok x hx).row.lt k hk
  have HRL : Hid (∀ x ∈ (a ++ ⟨mk p, at_, tx, .slice va ps.length vc, ps⟩ :: b), ∀ k, x.v.ownBlock = some k → k < w.heap.size) := hrl
  have hbR := hBX.bR
  have hmR := hBX.mR
  clear hBX hrl
  go_enter Try.func23, Try.ntmps23
  go_upto_region 1 with fail
  generalize (w.alloc (.cells #[.int .i64 p.f, .int .i64 p.t, .int .i64 p.tl, .int .i64 p.pr, .int .i64 p.id, .int .i64 p.fr, .bool p.mo, .bool p.dn, .string p.op, .string p.da] 32)).alloc (.cells #[.int .i64 0, .int .i64 0, .int .i64 0, .int .i64 0, .int .i64 0, .int .i64 0, .bool false, .bool false, .string ⟨#[]⟩, .string ⟨#[]⟩] 32) = W0 at *
  have c0 := (hPb.2 0 _ rfl).1
  have c1 := (hPb.2 1 _ rfl).1
  have c3 := (hPb.2 3 _ rfl).1
  have c4 := (hPb.2 4 _ rfl).1
  have hW0 : w.heap.size + 2 ≤ W0.heap.size := by have := hZb.1; omega
  go_upto_region 2 with (first
    | (refine wpList_store_at rfl 77 _ _ rfl _ W0.heap.size #[.int .i64 0, .int .i64 0, .int .i64 0, .int .i64 0] #[.int .i64 p.f, .int .i64 p.t, .int .i64 p.pr, .int .i64 p.id] rfl rfl (At.box W0 #[.int .i64 0, .int .i64 0, .int .i64 0, .int .i64 0] 77) rfl infoM (by simp [Value.oneCell']) ?_; intro w1 hMk ht1)
    | go_in)
  have q1 : Below W0.heap.size W0 w1 := (bel1 W0 (.cells #[.int .i64 0, .int .i64 0, .int .i64 0, .int .i64 0] 77)).trans (below_turn ht1 (Nat.le_refl _) (bel1 W0 _).size)
  have hB1 := hB0.later q1
  have hP1 := hPb.later q1
  have hZ1 := hZb.later q1
  have hl1 := bt hl0 q1
  have hmb := hMk.1
  obtain ⟨mb, hmbe⟩ : ∃ x, x = W0.heap.size := ⟨_, rfl⟩
  rw [← hmbe] at hMk hmb hW0
  rw [← hmbe]
  clear c0 c1 c3 c4 hB0 hPb hZb hl0 ht1 q1 hmbe
  have hf4 : ∀ W, Below w1.heap.size w1 W → W.cell? ⟨B, 4, none⟩ = some (.map (some M)) := fun W hW => later hW (box_map hB1)
  have hm0 : ∀ W, Below w1.heap.size w1 W → W.cell? ⟨mb, 0, none⟩ = some (.int .i64 p.f) := fun W hW => later hW (hMk.2 0 _ rfl).1
  have hm1 : ∀ W, Below w1.heap.size w1 W → W.cell? ⟨mb, 1, none⟩ = some (.int .i64 p.t) := fun W hW => later hW (hMk.2 1 _ rfl).1
  have hm2 : ∀ W, Below w1.heap.size w1 W → W.cell? ⟨mb, 2, none⟩ = some (.int .i64 p.pr) := fun W hW => later hW (hMk.2 2 _ rfl).1
  have hm3 : ∀ W, Below w1.heap.size w1 W → W.cell? ⟨mb, 3, none⟩ = some (.int .i64 p.id) := fun W hW => later hW (hMk.2 3 _ rfl).1
  have hlk : ∀ W, Below w1.heap.size w1 W → (Instr.lookup 54 (.map (some M)) (.agg #[.int .i64 p.f, .int .i64 p.t, .int .i64 p.pr, .int .i64 p.id]) true).run Try.prog W = .ok (.tuple #[.agg #[.int .i64 at_, .int .i64 tx, .slice va ps.length vc], .bool true]) W := fun W hW => by
    have h := (hB1.map.later hW).look hm
    rw [glk_of hB1.map.2.1 (m := mk p) (v := .agg #[.int .i64 at_, .int .i64 tx, .slice va ps.length vc]) (List.mem_map.2 ⟨_, List.mem_append_right _ (List.mem_cons_self ..), rfl⟩)] at h
    exact h
  have hone : (#[.int .i64 at_, .int .i64 tx, .slice va ps.length vc] : Array Value).all (·.oneCell') = true := by simp [Value.oneCell']
  refine wp_region_held_drew (S := (fun W => Below w1.heap.size w1 W)) (by kernel_rfl) ?_ (fun hHeld => ?_)
  · first | exact (Below.refl _ _).drew | assumption
  refine tk (i := 0) (oi := ⟨some 20, .move (.tmp 0), 23, "frag.go:90", #[], none⟩) (v := .pointer (some ⟨B, 0, none⟩)) rfl (by kernel_rfl) (fun _ _ _ h => h) (Or.inl ⟨by rfl, ?_⟩) (by assumption) ?_
  · intro wx hSw
    go_simp
    try with_reducible rfl
  try simp only [Act.put, La1, La2, La3]
  refine tk (i := 1) (oi := ⟨some 21, .nilCheck (.tmp 20), 0, "frag.go:90", #[⟨0, .data⟩], none⟩) (v := .pointer (some ⟨B, 0, none⟩)) rfl (by kernel_rfl) (fun _ _ _ h => h) (Or.inl ⟨by rfl, ?_⟩) (by assumption) ?_
  · intro wx hSw
    go_simp
    try with_reducible rfl
  try simp only [Act.put, La1, La2, La3]
  refine tk (i := 2) (oi := ⟨some 22, .fieldAddr 56 (.tmp 21) 4, 0, "frag.go:90", #[⟨1, .data⟩], none⟩) (v := .pointer (some ⟨B, 4, none⟩)) rfl (by kernel_rfl) (fun _ _ _ h => h) (Or.inl ⟨by rfl, ?_⟩) (by assumption) ?_
  · intro wx hSw
    go_simp
    try with_reducible rfl
  try simp only [Act.put, La1, La2, La3]
  refine tk (i := 3) (oi := ⟨some 23, .load 54 (.tmp 22), 54, "frag.go:90", #[⟨2, .data⟩], none⟩) (v := .map (some M)) rfl (by kernel_rfl) (fun _ _ _ h => h) (Or.inl ⟨by rfl, ?_⟩) (by assumption) ?_
  · intro wx hSw
    try dsimp only at hSw
    have u4 := hf4 wx hSw
    have um0 := hm0 wx hSw
    have um1 := hm1 wx hSw
    have um2 := hm2 wx hSw
    have um3 := hm3 wx hSw
    have ul := hlk wx hSw
    go_simp
    try with_reducible rfl
  try simp only [Act.put, La1, La2, La3]
  refine tk (i := 4) (oi := ⟨some 24, .load 77 (.tmp 7), 77, "frag.go:90", #[], none⟩) (v := .agg #[.int .i64 p.f, .int .i64 p.t, .int .i64 p.pr, .int .i64 p.id]) rfl (by kernel_rfl) (fun _ _ _ h => h) (Or.inl ⟨by rfl, ?_⟩) (by assumption) ?_
  · intro wx hSw
    try dsimp only at hSw
    have u4 := hf4 wx hSw
    have um0 := hm0 wx hSw
    have um1 := hm1 wx hSw
    have um2 := hm2 wx hSw
    have um3 := hm3 wx hSw
    have ul := hlk wx hSw
    go_simp
    try with_reducible rfl
  try simp only [Act.put, La1, La2, La3]
  refine tk (i := 5) (oi := ⟨some 25, .lookup 54 (.tmp 23) (.tmp 24) true, 80, "frag.go:90", #[⟨3, .data⟩, ⟨4, .data⟩], none⟩) (v := .tuple #[.agg #[.int .i64 at_, .int .i64 tx, .slice va ps.length vc], .bool true]) rfl (by kernel_rfl) (fun _ _ _ h => h) (Or.inl ⟨by rfl, ?_⟩) (by assumption) ?_
  · intro wx hSw
    try dsimp only at hSw
    have u4 := hf4 wx hSw
    have um0 := hm0 wx hSw
    have um1 := hm1 wx hSw
    have um2 := hm2 wx hSw
    have um3 := hm3 wx hSw
    have ul := hlk wx hSw
    go_simp
    try with_reducible rfl
  try simp only [Act.put, La1, La2, La3]
  refine tk (i := 6) (oi := ⟨some 19, .move (.tmp 25), 80, "frag.go:90", #[⟨5, .data⟩], none⟩) (v := .tuple #[.agg #[.int .i64 at_, .int .i64 tx, .slice va ps.length vc], .bool true]) rfl (by kernel_rfl) (fun _ _ _ h => h) (Or.inl ⟨by rfl, ?_⟩) (by assumption) ?_
  · intro wx hSw
    go_simp
    try with_reducible rfl
  try simp only [Act.put, La1, La2, La3]
  refine tk (i := 7) (oi := ⟨some 26, .extract (.tmp 19) 0, 61, "frag.go:90", #[⟨6, .data⟩], none⟩) (v := .agg #[.int .i64 at_, .int .i64 tx, .slice va ps.length vc]) rfl (by kernel_rfl) (fun _ _ _ h => h) (Or.inl ⟨by rfl, ?_⟩) (by assumption) ?_
  · intro wx hSw
    go_simp
    try with_reducible rfl
  try simp only [Act.put, La1, La2, La3]
  refine tk (i := 8) (oi := ⟨some 27, .extract (.tmp 19) 1, 4, "frag.go:90", #[⟨6, .data⟩, { on := 10, ground := .gcOnly .lateStores }], none⟩) (v := .bool true) rfl (by kernel_rfl) (fun _ _ _ h => h) (Or.inl ⟨by rfl, ?_⟩) (by assumption) ?_
  · intro wx hSw
    go_simp
    try with_reducible rfl
  try simp only [Act.put, La1, La2, La3]
  refine wpAnyH_ready (rs := [9]) (by kernel_rfl) (by simp) ?_
  refine AllReadyH.cons (o := ⟨some 8, .alloc 61, 0, "frag.go:90", #[], none⟩) rfl (fun K hK => ?_) AllReadyH.nil
  go_simp
  refine hK.out _ _ (bt hHeld (bel1 _ _)) (fun hHeld => ?_)
  clear hK K
  try simp only [Act.put, La1, La2, La3]
  refine wpAnyH_ready (rs := [10]) (by kernel_rfl) (by simp) ?_
  refine AllReadyH.cons (o := ⟨none, .store 61 (.tmp 8) (.tmp 26), 0, "frag.go:90", #[⟨9, .data⟩, ⟨7, .data⟩, ⟨0, .phase⟩, ⟨1, .phase⟩, ⟨2, .phase⟩, ⟨3, .phase⟩, ⟨4, .phase⟩, ⟨5, .phase⟩, ⟨6, .phase⟩, ⟨7, .phase⟩, { on := 8, ground := .textOnly .lateStores }, ⟨9, .phase⟩], none⟩) rfl (fun K hK => ?_) AllReadyH.nil
  rw [if_pos (by rfl)]
  refine op_store_at 61 _ _ rfl _ w1.heap.size #[.int .i64 0, .int .i64 0, .slice none 0 0] #[.int .i64 at_, .int .i64 tx, .slice va ps.length vc] rfl rfl (At.box w1.drew #[.int .i64 0, .int .i64 0, .slice none 0 0] 61) rfl infoX hone ?_
  intro w2 hX2 ht2
  have hb2 : Below w1.heap.size w1 w2 := hHeld.trans (below_turn ht2 (Nat.le_refl _) hHeld.size)
  refine hK.out _ _ hb2 (fun hHeld => ?_)
  clear hK K
  try simp only [Act.put, La1, La2, La3]
  refine tk (i := 11) (oi := ⟨some 9, .assign (.tmp 27), 4, "frag.go:90", #[⟨8, .data⟩, ⟨10, .chain⟩, ⟨0, .phase⟩, ⟨1, .phase⟩, ⟨2, .phase⟩, ⟨3, .phase⟩, ⟨4, .phase⟩, ⟨5, .phase⟩, ⟨6, .phase⟩, ⟨7, .phase⟩, ⟨8, .phase⟩, ⟨9, .phase⟩, ⟨10, .phase⟩], none⟩) (v := .bool true) rfl (by kernel_rfl) (fun _ _ _ h => h) (Or.inl ⟨by rfl, ?_⟩) (by assumption) ?_
  · intro wx hSw
    go_simp
    try with_reducible rfl
  try simp only [Act.put, La1, La2, La3]
  refine wpAnyH_done (by kernel_rfl) ?_ _
  replace hB1 := hB1.later hb2
  replace hP1 := hP1.later hb2
  replace hZ1 := hZ1.later hb2
  replace hMk := hMk.later hb2
  replace hl1 := bt hl1 hb2
  obtain ⟨xb, hxb⟩ : ∃ x, x = w1.heap.size := ⟨_, rfl⟩
  rw [← hxb] at hX2 hmb
  rw [← hxb]
  have hxs := hX2.1
  clear hf4 hm0 hm1 hm2 hm3 hlk hHeld ht2 hb2 hxb
  go_upto_region 3 with fail
  go_quiet (fail)
  have qd : Below w2.heap.size w2 (w2.drewN nq) := below_drewN (Below.refl _ _) nq
  replace hB1 := hB1.later qd
  replace hP1 := hP1.later qd
  replace hZ1 := hZ1.later qd
  replace hMk := hMk.later qd
  replace hX2 := hX2.later qd
  replace hl1 := bt hl1 qd
  have hxs' := hX2.1
  clear qd hxs
  go_upto_region 5 with fail
  generalize w2.drewN nq = w3 at *
  have htt : Turn (FL B M (a ++ ⟨mk p, at_, tx, .slice va ps.length vc, ps⟩ :: b)) w w3 := Turn.of_below hl1
  have hr5 : RW w3 R (.slice va ps.length vc) ps := (hB1.ok _ (List.mem_append_right _ (List.mem_cons_self ..))).row
  have hok := hB1.ok _ (List.mem_append_right _ (List.mem_cons_self ..))
  have HFI : Hid (∀ q ∈ ps, q.Fine) := hok.fine
  have HRI : Hid (ps.Pairwise (fun a b => a.fr ≤ b.fr)) := hok.rise
  have hle : ps.length ≤ 64 := hok.len
  have hB5 := hB1
  have hP5 := hP1
  have hZ5 := hZ1
  have hM5 := hMk
  have hX5 := hX2
  clear hok hB1 hP1 hZ1 hMk hX2 hl1
  go_upto_region 7 with fail
  have hcon := has_any p ps at_ tx (.slice va ps.length vc) R w3 hr5 (by omega)
  rw [hh] at hcon
  go_wp2_with (first
    | (refine wpList_load_at rfl 61 _ rfl _ xb #[.int .i64 at_, .int .i64 tx, .slice va ps.length vc] _ rfl hX5 Try.underlying61 infoX ?_)
    | (refine wpList_load_at rfl 32 _ rfl _ w.heap.size #[.int .i64 p.f, .int .i64 p.t, .int .i64 p.tl, .int .i64 p.pr, .int .i64 p.id, .int .i64 p.fr, .bool p.mo, .bool p.dn, .string p.op, .string p.da] _ rfl hP5 Try.underlying32 (by kernel_rfl) ?_)
    | fail)
  refine hcon.mono ?_
  rintro e w6 ⟨rfl, l6⟩
  clear hcon
  replace hB5 := hB5.later l6
  replace hP5 := hP5.later l6
  replace hZ5 := hZ5.later l6
  replace hM5 := hM5.later l6
  replace hX5 := hX5.later l6
  replace hr5 := hr5.later l6
  replace htt := htt.later l6
  clear l6
  go_wp2_with (first
    | (refine wpList_store_at rfl 32 _ _ rfl _ (w.heap.size + 1) #[.int .i64 0, .int .i64 0, .int .i64 0, .int .i64 0, .int .i64 0, .int .i64 0, .bool false, .bool false, .string ⟨#[]⟩, .string ⟨#[]⟩] #[.int .i64 0, .int .i64 0, .int .i64 0, .int .i64 0, .int .i64 0, .int .i64 0, .bool false, .bool false, .string ⟨#[]⟩, .string ⟨#[]⟩] rfl rfl hZ5 rfl (by kernel_rfl) oneZ ?_; intro w9 hZ9 ht9))
  have r0 := (hZ9.2 0 _ rfl).1
  have r1 := (hZ9.2 1 _ rfl).1
  have r2 := (hZ9.2 2 _ rfl).1
  have r3 := (hZ9.2 3 _ rfl).1
  have r4 := (hZ9.2 4 _ rfl).1
  have r5 := (hZ9.2 5 _ rfl).1
  have r6 := (hZ9.2 6 _ rfl).1
  have r7 := (hZ9.2 7 _ rfl).1
  have r8 := (hZ9.2 8 _ rfl).1
  have r9 := (hZ9.2 9 _ rfl).1
  exact bodyPost_ret (v := .tuple #[.agg #[.int .i64 0, .int .i64 0, .int .i64 0, .int .i64 0, .int .i64 0, .int .i64 0, .bool false, .bool false, .string ⟨#[]⟩, .string ⟨#[]⟩], .bool false, .int .i64 0]) (by simp [results, Try.results23, go_sem, r0, r1, r2, r3, r4, r5, r6, r7, r8, r9]) rfl ⟨rfl, hB5.turn ht9 (by omega) (by omega) (fun x hx k hk e => by have := HRL.out x hx k hk; omega), htt.step ht9 (fun k e => Or.inr (by omega))⟩
end Go.Proofs.Ytcjhniehbafhpaa

namespace Go.Proofs.Ytcjhniehbafhpaa
open Go.RowKit Go.Maps
set_option maxRecDepth 100000
set_option linter.unusedVariables false
set_option linter.unusedSimpArgs false

theorem inAll {a b : List Pile} {y x : Pile} (h : x ∈ a ++ b) : x ∈ a ++ y :: b := by
  rcases List.mem_append.1 h with h | h
  · exact List.mem_append_left _ h
  · exact List.mem_append_right _ (List.mem_cons_of_mem _ h)
theorem far_all {a b : List Pile} {y : Pile} (h : (a ++ y :: b).Pairwise apart) {x : Pile} (hx : x ∈ a ++ b) : apart x y := by
  rw [List.pairwise_append, List.pairwise_cons] at h
  obtain ⟨h1, ⟨h2, h3⟩, h4⟩ := h
  rcases List.mem_append.1 hx with h | h
  · exact h4 x h y (by simp)
  · exact apart_symm (h2 x h)
theorem far_put {a b : List Pile} {y z : Pile} (h : (a ++ y :: b).Pairwise apart) (hz : ∀ x ∈ a ++ b, apart x z) : (a ++ z :: b).Pairwise apart := by
  rw [List.pairwise_append, List.pairwise_cons] at h ⊢
  obtain ⟨h1, ⟨h2, h3⟩, h4⟩ := h
  refine ⟨h1, ⟨fun x hx => apart_symm (hz x (List.mem_append_right _ hx)), h3⟩, fun x hx u hu => ?_⟩
  rcases List.mem_cons.1 hu with rfl | hu
  · exact hz x (List.mem_append_left _ hx)
  · exact h4 x hx u (List.mem_cons_of_mem _ hu)
theorem far_del {a b : List Pile} {y : Pile} (h : (a ++ y :: b).Pairwise apart) : (a ++ b).Pairwise apart := h.sublist (List.Sublist.append_left (List.sublist_cons_self _ _) _)
theorem far_new {a : List Pile} {z : Pile} (h : a.Pairwise apart) (hz : ∀ x ∈ a, apart x z) : (a ++ [z]).Pairwise apart := by
  rw [List.pairwise_append]
  exact ⟨h, List.pairwise_singleton _ _, fun x hx u hu => by rw [List.mem_singleton.1 hu]; exact hz x hx⟩
set_option maxHeartbeats 8000000 in
theorem lay_more (p : Pk) (hp : p.Fine) (hm : (mk p).wf) (w : World) (R B M : Nat) (ro pa la tu : Int) (a b : List Pile) (at_ tx : Int) (v : Value) (ps : List Pk) (hBX : BX w R B M ro pa la tu (a ++ ⟨mk p, at_, tx, v, ps⟩ :: b)) (h0 : ps ≠ []) (hll : (a ++ ⟨mk p, at_, tx, v, ps⟩ :: b).length ≤ 64) (hh : ps.any (hasB p) = false) (hf : fitsL ps p = true) (hc : ∀ i, i ≤ ps.length → Cutp ps p.fr i i → completeB (insL ps i p) = false) :
    Calls Try.prog 23 #[.pointer (some ⟨B, 0, none⟩), .agg #[.int .i64 p.f, .int .i64 p.t, .int .i64 p.tl, .int .i64 p.pr, .int .i64 p.id, .int .i64 p.fr, .bool p.mo, .bool p.dn, .string p.op, .string p.da]] w fun e w' => e = .returned (.tuple #[.agg #[.int .i64 0, .int .i64 0, .int .i64 0, .int .i64 0, .int .i64 0, .int .i64 0, .bool false, .bool false, .string ⟨#[]⟩, .string ⟨#[]⟩], .bool false, .int .i64 0]) ∧ LayMore w w' R B M ro pa la tu (a ++ ⟨mk p, at_, tx, v, ps⟩ :: b) a b at_ tx ps p := by
  obtain ⟨va, vc, rfl⟩ : ∃ a c, v = .slice a ps.length c := RW.shape (hBX.ok ⟨mk p, at_, tx, v, ps⟩ (by simp)).row
  have hPb := (At.box w #[.int .i64 p.f, .int .i64 p.t, .int .i64 p.tl, .int .i64 p.pr, .int .i64 p.id, .int .i64 p.fr, .bool p.mo, .bool p.dn, .string p.op, .string p.da] 32).later (bel1 _ (.cells #[.int .i64 0, .int .i64 0, .int .i64 0, .int .i64 0, .int .i64 0, .int .i64 0, .bool false, .bool false, .string ⟨#[]⟩, .string ⟨#[]⟩] 32))
  have hZb := At.box2 w (.cells #[.int .i64 p.f, .int .i64 p.t, .int .i64 p.tl, .int .i64 p.pr, .int .i64 p.id, .int .i64 p.fr, .bool p.mo, .bool p.dn, .string p.op, .string p.da] 32) #[.int .i64 0, .int .i64 0, .int .i64 0, .int .i64 0, .int .i64 0, .int .i64 0, .bool false, .bool false, .string ⟨#[]⟩, .string ⟨#[]⟩] 32
  have hl0 := bt (bel1 w (.cells #[.int .i64 p.f, .int .i64 p.t, .int .i64 p.tl, .int .i64 p.pr, .int .i64 p.id, .int .i64 p.fr, .bool p.mo, .bool p.dn, .string p.op, .string p.da] 32)) (bel1 _ (.cells #[.int .i64 0, .int .i64 0, .int .i64 0, .int .i64 0, .int .i64 0, .int .i64 0, .bool false, .bool false, .string ⟨#[]⟩, .string ⟨#[]⟩] 32))
  have hB0 := hBX.later hl0
  have hRw := hBX.rw'
  have hrl : ∀ x ∈ (a ++ ⟨mk p, at_, tx, .slice va ps.length vc, ps⟩ :: b), ∀ k, x.v.ownBlock = some k → k < w.heap.size := fun x hx k hk => (hBX.ok x hx).row.lt k hk
  have HRL : Hid (∀ x ∈ (a ++ ⟨mk p, at_, tx, .slice va ps.length vc, ps⟩ :: b), ∀ k, x.v.ownBlock = some k → k < w.heap.size) := hrl
  have hbR := hBX.bR
  have hmR := hBX.mR
  clear hBX hrl
  go_enter Try.func23, Try.ntmps23
  go_upto_region 1 with fail
  generalize (w.alloc (.cells #[.int .i64 p.f, .int .i64 p.t, .int .i64 p.tl, .int .i64 p.pr, .int .i64 p.id, .int .i64 p.fr, .bool p.mo, .bool p.dn, .string p.op, .string p.da] 32)).alloc (.cells #[.int .i64 0, .int .i64 0, .int .i64 0, .int .i64 0, .int .i64 0, .int .i64 0, .bool false, .bool false, .string ⟨#[]⟩, .string ⟨#[]⟩] 32) = W0 at *
  have c0 := (hPb.2 0 _ rfl).1
  have c1 := (hPb.2 1 _ rfl).1
  have c3 := (hPb.2 3 _ rfl).1
  have c4 := (hPb.2 4 _ rfl).1
  have hW0 : w.heap.size + 2 ≤ W0.heap.size := by have := hZb.1; omega
  go_upto_region 2 with (first
    | (refine wpList_store_at rfl 77 _ _ rfl _ W0.heap.size #[.int .i64 0, .int .i64 0, .int .i64 0, .int .i64 0] #[.int .i64 p.f, .int .i64 p.t, .int .i64 p.pr, .int .i64 p.id] rfl rfl (At.box W0 #[.int .i64 0, .int .i64 0, .int .i64 0, .int .i64 0] 77) rfl infoM (by simp [Value.oneCell']) ?_; intro w1 hMk ht1)
    | go_in)
  have q1 : Below W0.heap.size W0 w1 := (bel1 W0 (.cells #[.int .i64 0, .int .i64 0, .int .i64 0, .int .i64 0] 77)).trans (below_turn ht1 (Nat.le_refl _) (bel1 W0 _).size)
  have hB1 := hB0.later q1
  have hP1 := hPb.later q1
  have hZ1 := hZb.later q1
  have hl1 := bt hl0 q1
  have hmb := hMk.1
  obtain ⟨mb, hmbe⟩ : ∃ x, x = W0.heap.size := ⟨_, rfl⟩
  rw [← hmbe] at hMk hmb hW0
  rw [← hmbe]
  clear c0 c1 c3 c4 hB0 hPb hZb hl0 ht1 q1 hmbe
  have hf4 : ∀ W, Below w1.heap.size w1 W → W.cell? ⟨B, 4, none⟩ = some (.map (some M)) := fun W hW => later hW (box_map hB1)
  have hm0 : ∀ W, Below w1.heap.size w1 W → W.cell? ⟨mb, 0, none⟩ = some (.int .i64 p.f) := fun W hW => later hW (hMk.2 0 _ rfl).1
  have hm1 : ∀ W, Below w1.heap.size w1 W → W.cell? ⟨mb, 1, none⟩ = some (.int .i64 p.t) := fun W hW => later hW (hMk.2 1 _ rfl).1
  have hm2 : ∀ W, Below w1.heap.size w1 W → W.cell? ⟨mb, 2, none⟩ = some (.int .i64 p.pr) := fun W hW => later hW (hMk.2 2 _ rfl).1
  have hm3 : ∀ W, Below w1.heap.size w1 W → W.cell? ⟨mb, 3, none⟩ = some (.int .i64 p.id) := fun W hW => later hW (hMk.2 3 _ rfl).1
  have hlk : ∀ W, Below w1.heap.size w1 W → (Instr.lookup 54 (.map (some M)) (.agg #[.int .i64 p.f, .int .i64 p.t, .int .i64 p.pr, .int .i64 p.id]) true).run Try.prog W = .ok (.tuple #[.agg #[.int .i64 at_, .int .i64 tx, .slice va ps.length vc], .bool true]) W := fun W hW => by
    have h := (hB1.map.later hW).look hm
    rw [glk_of hB1.map.2.1 (m := mk p) (v := .agg #[.int .i64 at_, .int .i64 tx, .slice va ps.length vc]) (List.mem_map.2 ⟨_, List.mem_append_right _ (List.mem_cons_self ..), rfl⟩)] at h
    exact h
  have hone : (#[.int .i64 at_, .int .i64 tx, .slice va ps.length vc] : Array Value).all (·.oneCell') = true := by simp [Value.oneCell']
  refine wp_region_held_drew (S := (fun W => Below w1.heap.size w1 W)) (by kernel_rfl) ?_ (fun hHeld => ?_)
  · first | exact (Below.refl _ _).drew | assumption
  refine tk (i := 0) (oi := ⟨some 20, .move (.tmp 0), 23, "frag.go:90", #[], none⟩) (v := .pointer (some ⟨B, 0, none⟩)) rfl (by kernel_rfl) (fun _ _ _ h => h) (Or.inl ⟨by rfl, ?_⟩) (by assumption) ?_
  · intro wx hSw
    go_simp
    try with_reducible rfl
  try simp only [Act.put, La1, La2, La3]
  refine tk (i := 1) (oi := ⟨some 21, .nilCheck (.tmp 20), 0, "frag.go:90", #[⟨0, .data⟩], none⟩) (v := .pointer (some ⟨B, 0, none⟩)) rfl (by kernel_rfl) (fun _ _ _ h => h) (Or.inl ⟨by rfl, ?_⟩) (by assumption) ?_
  · intro wx hSw
    go_simp
    try with_reducible rfl
  try simp only [Act.put, La1, La2, La3]
  refine tk (i := 2) (oi := ⟨some 22, .fieldAddr 56 (.tmp 21) 4, 0, "frag.go:90", #[⟨1, .data⟩], none⟩) (v := .pointer (some ⟨B, 4, none⟩)) rfl (by kernel_rfl) (fun _ _ _ h => h) (Or.inl ⟨by rfl, ?_⟩) (by assumption) ?_
  · intro wx hSw
    go_simp
    try with_reducible rfl
  try simp only [Act.put, La1, La2, La3]
  refine tk (i := 3) (oi := ⟨some 23, .load 54 (.tmp 22), 54, "frag.go:90", #[⟨2, .data⟩], none⟩) (v := .map (some M)) rfl (by kernel_rfl) (fun _ _ _ h => h) (Or.inl ⟨by rfl, ?_⟩) (by assumption) ?_
  · intro wx hSw
    try dsimp only at hSw
    have u4 := hf4 wx hSw
    have um0 := hm0 wx hSw
    have um1 := hm1 wx hSw
    have um2 := hm2 wx hSw
    have um3 := hm3 wx hSw
    have ul := hlk wx hSw
    go_simp
    try with_reducible rfl
  try simp only [Act.put, La1, La2, La3]
  refine tk (i := 4) (oi := ⟨some 24, .load 77 (.tmp 7), 77, "frag.go:90", #[], none⟩) (v := .agg #[.int .i64 p.f, .int .i64 p.t, .int .i64 p.pr, .int .i64 p.id]) rfl (by kernel_rfl) (fun _ _ _ h => h) (Or.inl ⟨by rfl, ?_⟩) (by assumption) ?_
  · intro wx hSw
    try dsimp only at hSw
    have u4 := hf4 wx hSw
    have um0 := hm0 wx hSw
    have um1 := hm1 wx hSw
    have um2 := hm2 wx hSw
    have um3 := hm3 wx hSw
    have ul := hlk wx hSw
    go_simp
    try with_reducible rfl
  try simp only [Act.put, La1, La2, La3]
  refine tk (i := 5) (oi := ⟨some 25, .lookup 54 (.tmp 23) (.tmp 24) true, 80, "frag.go:90", #[⟨3, .data⟩, ⟨4, .data⟩], none⟩) (v := .tuple #[.agg #[.int .i64 at_, .int .i64 tx, .slice va ps.length vc], .bool true]) rfl (by kernel_rfl) (fun _ _ _ h => h) (Or.inl ⟨by rfl, ?_⟩) (by assumption) ?_
  · intro wx hSw
    try dsimp only at hSw
    have u4 := hf4 wx hSw
    have um0 := hm0 wx hSw
    have um1 := hm1 wx hSw
    have um2 := hm2 wx hSw
    have um3 := hm3 wx hSw
    have ul := hlk wx hSw
    go_simp
    try with_reducible rfl
  try simp only [Act.put, La1, La2, La3]
  refine tk (i := 6) (oi := ⟨some 19, .move (.tmp 25), 80, "frag.go:90", #[⟨5, .data⟩], none⟩) (v := .tuple #[.agg #[.int .i64 at_, .int .i64 tx, .slice va ps.length vc], .bool true]) rfl (by kernel_rfl) (fun _ _ _ h => h) (Or.inl ⟨by rfl, ?_⟩) (by assumption) ?_
  · intro wx hSw
    go_simp
    try with_reducible rfl
  try simp only [Act.put, La1, La2, La3]
  refine tk (i := 7) (oi := ⟨some 26, .extract (.tmp 19) 0, 61, "frag.go:90", #[⟨6, .data⟩], none⟩) (v := .agg #[.int .i64 at_, .int .i64 tx, .slice va ps.length vc]) rfl (by kernel_rfl) (fun _ _ _ h => h) (Or.inl ⟨by rfl, ?_⟩) (by assumption) ?_
  · intro wx hSw
    go_simp
    try with_reducible rfl
  try simp only [Act.put, La1, La2, La3]
  refine tk (i := 8) (oi := ⟨some 27, .extract (.tmp 19) 1, 4, "frag.go:90", #[⟨6, .data⟩, { on := 10, ground := .gcOnly .lateStores }], none⟩) (v := .bool true) rfl (by kernel_rfl) (fun _ _ _ h => h) (Or.inl ⟨by rfl, ?_⟩) (by assumption) ?_
  · intro wx hSw
    go_simp
    try with_reducible rfl
  try simp only [Act.put, La1, La2, La3]
  refine wpAnyH_ready (rs := [9]) (by kernel_rfl) (by simp) ?_
  refine AllReadyH.cons (o := ⟨some 8, .alloc 61, 0, "frag.go:90", #[], none⟩) rfl (fun K hK => ?_) AllReadyH.nil
  go_simp
  refine hK.out _ _ (bt hHeld (bel1 _ _)) (fun hHeld => ?_)
  clear hK K
  try simp only [Act.put, La1, La2, La3]
  refine wpAnyH_ready (rs := [10]) (by kernel_rfl) (by simp) ?_
  refine AllReadyH.cons (o := ⟨none, .store 61 (.tmp 8) (.tmp 26), 0, "frag.go:90", #[⟨9, .data⟩, ⟨7, .data⟩, ⟨0, .phase⟩, ⟨1, .phase⟩, ⟨2, .phase⟩, ⟨3, .phase⟩, ⟨4, .phase⟩, ⟨5, .phase⟩, ⟨6, .phase⟩, ⟨7, .phase⟩, { on := 8, ground := .textOnly .lateStores }, ⟨9, .phase⟩], none⟩) rfl (fun K hK => ?_) AllReadyH.nil
  rw [if_pos (by rfl)]
  refine op_store_at 61 _ _ rfl _ w1.heap.size #[.int .i64 0, .int .i64 0, .slice none 0 0] #[.int .i64 at_, .int .i64 tx, .slice va ps.length vc] rfl rfl (At.box w1.drew #[.int .i64 0, .int .i64 0, .slice none 0 0] 61) rfl infoX hone ?_
  intro w2 hX2 ht2
  have hb2 : Below w1.heap.size w1 w2 := hHeld.trans (below_turn ht2 (Nat.le_refl _) hHeld.size)
  refine hK.out _ _ hb2 (fun hHeld => ?_)
  clear hK K
  try simp only [Act.put, La1, La2, La3]
  refine tk (i := 11) (oi := ⟨some 9, .assign (.tmp 27), 4, "frag.go:90", #[⟨8, .data⟩, ⟨10, .chain⟩, ⟨0, .phase⟩, ⟨1, .phase⟩, ⟨2, .phase⟩, ⟨3, .phase⟩, ⟨4, .phase⟩, ⟨5, .phase⟩, ⟨6, .phase⟩, ⟨7, .phase⟩, ⟨8, .phase⟩, ⟨9, .phase⟩, ⟨10, .phase⟩], none⟩) (v := .bool true) rfl (by kernel_rfl) (fun _ _ _ h => h) (Or.inl ⟨by rfl, ?_⟩) (by assumption) ?_
  · intro wx hSw
    go_simp
    try with_reducible rfl
  try simp only [Act.put, La1, La2, La3]
  refine wpAnyH_done (by kernel_rfl) ?_ _
  replace hB1 := hB1.later hb2
  replace hP1 := hP1.later hb2
  replace hZ1 := hZ1.later hb2
  replace hMk := hMk.later hb2
  replace hl1 := bt hl1 hb2
  obtain ⟨xb, hxb⟩ : ∃ x, x = w1.heap.size := ⟨_, rfl⟩
  rw [← hxb] at hX2 hmb
  rw [← hxb]
  have hxs := hX2.1
  clear hf4 hm0 hm1 hm2 hm3 hlk hHeld ht2 hb2 hxb
  go_upto_region 3 with fail
  go_quiet (fail)
  have qd : Below w2.heap.size w2 (w2.drewN nq) := below_drewN (Below.refl _ _) nq
  replace hB1 := hB1.later qd
  replace hP1 := hP1.later qd
  replace hZ1 := hZ1.later qd
  replace hMk := hMk.later qd
  replace hX2 := hX2.later qd
  replace hl1 := bt hl1 qd
  have hxs' := hX2.1
  clear qd hxs
  go_upto_region 5 with fail
  generalize w2.drewN nq = w3 at *
  have htt : Turn (FL B M (a ++ ⟨mk p, at_, tx, .slice va ps.length vc, ps⟩ :: b)) w w3 := Turn.of_below hl1
  have hr5 : RW w3 R (.slice va ps.length vc) ps := (hB1.ok _ (List.mem_append_right _ (List.mem_cons_self ..))).row
  have hok := hB1.ok _ (List.mem_append_right _ (List.mem_cons_self ..))
  have HFI : Hid (∀ q ∈ ps, q.Fine) := hok.fine
  have HRI : Hid (ps.Pairwise (fun a b => a.fr ≤ b.fr)) := hok.rise
  have hle : ps.length ≤ 64 := hok.len
  have hB5 := hB1
  have hP5 := hP1
  have hZ5 := hZ1
  have hM5 := hMk
  have hX5 := hX2
  clear hok hB1 hP1 hZ1 hMk hX2 hl1
  go_upto_region 7 with fail
  have hcon := has_any p ps at_ tx (.slice va ps.length vc) R w3 hr5 (by omega)
  rw [hh] at hcon
  go_wp2_with (first
    | (refine wpList_load_at rfl 61 _ rfl _ xb #[.int .i64 at_, .int .i64 tx, .slice va ps.length vc] _ rfl hX5 Try.underlying61 infoX ?_)
    | (refine wpList_load_at rfl 32 _ rfl _ w.heap.size #[.int .i64 p.f, .int .i64 p.t, .int .i64 p.tl, .int .i64 p.pr, .int .i64 p.id, .int .i64 p.fr, .bool p.mo, .bool p.dn, .string p.op, .string p.da] _ rfl hP5 Try.underlying32 (by kernel_rfl) ?_)
    | fail)
  refine hcon.mono ?_
  rintro e w6 ⟨rfl, l6⟩
  clear hcon
  replace hB5 := hB5.later l6
  replace hP5 := hP5.later l6
  replace hZ5 := hZ5.later l6
  replace hM5 := hM5.later l6
  replace hX5 := hX5.later l6
  replace hr5 := hr5.later l6
  replace htt := htt.later l6
  clear l6
  have hcon := fitsP_any p ps at_ tx (.slice va ps.length vc) R w6 hr5 (by omega) hp HFI.out
  rw [hf] at hcon
  go_wp2_with (first
    | (refine wpList_load_at rfl 61 _ rfl _ xb #[.int .i64 at_, .int .i64 tx, .slice va ps.length vc] _ rfl hX5 Try.underlying61 infoX ?_)
    | (refine wpList_load_at rfl 32 _ rfl _ w.heap.size #[.int .i64 p.f, .int .i64 p.t, .int .i64 p.tl, .int .i64 p.pr, .int .i64 p.id, .int .i64 p.fr, .bool p.mo, .bool p.dn, .string p.op, .string p.da] _ rfl hP5 Try.underlying32 (by kernel_rfl) ?_)
    | fail)
  refine hcon.mono ?_
  rintro e w7 ⟨rfl, l6⟩
  clear hcon
  replace hB5 := hB5.later l6
  replace hP5 := hP5.later l6
  replace hZ5 := hZ5.later l6
  replace hM5 := hM5.later l6
  replace hX5 := hX5.later l6
  replace hr5 := hr5.later l6
  replace htt := htt.later l6
  have hl64 := fitsL_len hf
  have hRw7 : R ≤ w7.heap.size := hB5.rw'
  have hs7 : w.heap.size ≤ w7.heap.size := by have := hX5.1; omega
  clear l6
  have hcon := with_any p ps at_ tx (.slice va ps.length vc) R w7 hr5 (by omega) hp HFI.out HRI.out hRw7
  go_wp2_with (first
    | (refine wpList_load_at rfl 61 _ rfl _ xb #[.int .i64 at_, .int .i64 tx, .slice va ps.length vc] _ rfl hX5 Try.underlying61 infoX ?_)
    | (refine wpList_load_at rfl 32 _ rfl _ w.heap.size #[.int .i64 p.f, .int .i64 p.t, .int .i64 p.tl, .int .i64 p.pr, .int .i64 p.id, .int .i64 p.fr, .bool p.mo, .bool p.dn, .string p.op, .string p.da] _ rfl hP5 Try.underlying32 (by kernel_rfl) ?_)
    | fail)
  refine hcon.mono ?_
  rintro e w8 ⟨v', i, rfl, hi, hcut, hr8, ht8, hloc⟩
  clear hcon
  have hvo : ∀ k, (.slice va ps.length vc : Value).ownBlock = some k → k < w.heap.size ∧ R ≤ k ∧ FL B M (a ++ ⟨mk p, at_, tx, .slice va ps.length vc, ps⟩ :: b) k := fun k hk => ⟨HRL.out _ (List.mem_append_right _ (List.mem_cons_self ..)) k hk, (hB5.ok _ (List.mem_append_right _ (List.mem_cons_self ..))).row.ge k hk, Or.inr (Or.inr ⟨_, List.mem_append_right _ (List.mem_cons_self ..), hk⟩)⟩
  have hv'o : ∀ k, v'.ownBlock = some k → k ≠ xb ∧ k ≠ mb ∧ k ≠ w.heap.size ∧ k ≠ w.heap.size + 1 ∧ (k < w.heap.size ∨ w7.heap.size ≤ k) := fun k hk => by
    have h7 := hX5.1
    rcases hloc with e | e
    · rw [e] at hk
      have := (hvo k hk).1
      omega
    · have := e k hk
      omega
  have HV : Hid (∀ k, v'.ownBlock = some k → (.slice va ps.length vc : Value).ownBlock = some k ∨ w7.heap.size ≤ k) := fun k hk => by
    rcases hloc with e | e
    · exact Or.inl (by rw [← e]; exact hk)
    · exact Or.inr (e k hk)
  have n1 : ¬ ((.slice va ps.length vc : Value).ownBlock = some xb) := fun e => by have := (hvo _ e).1; omega
  have n2 : ¬ ((.slice va ps.length vc : Value).ownBlock = some mb) := fun e => by have := (hvo _ e).1; omega
  have n3 : ¬ ((.slice va ps.length vc : Value).ownBlock = some w.heap.size) := fun e => by have := (hvo _ e).1; omega
  have n4 : ¬ ((.slice va ps.length vc : Value).ownBlock = some (w.heap.size + 1)) := fun e => by have := (hvo _ e).1; omega
  have n5 : ¬ ((.slice va ps.length vc : Value).ownBlock = some B) := fun e => by have := (hvo _ e).2.1; omega
  have n6 : ¬ ((.slice va ps.length vc : Value).ownBlock = some M) := fun e => by have := (hvo _ e).2.1; omega
  have hP8 := hP5.turn ht8 n3
  have hZ8 := hZ5.turn ht8 n4
  have hM8 := hM5.turn ht8 n2
  have hX8 := hX5.turn ht8 n1
  have hbx8 := hB5.box.turn ht8 n5
  have hmp8 := hB5.map.turn ht8 n6
  have htt8 := htt.step ht8 (fun k e => Or.inl (hvo k e).2.2)
  have hnew := hc i hi hcut
  have hil := ins_len (p := p) hi
  have hne' : insL ps i p ≠ [] := fun e => by rw [e] at hil; simp at hil
  have hfi' : ∀ q ∈ insL ps i p, q.Fine := fun q hq => by
    rcases ins_mem hq with h | h
    · rw [h]; exact hp
    · exact HFI.out q h
  have hri' := ins_rise HRI.out hcut
  have hoth : ∀ x ∈ (a ++ b), Pile.Ok w8 R x ∧ apart x ⟨mk p, at_, tx, v', insL ps i p⟩ := fun x hx => by
    have hin := inAll (y := ⟨mk p, at_, tx, .slice va ps.length vc, ps⟩) hx
    have hap := far_all hB5.far hx
    refine ⟨(hB5.ok x hin).turn ht8 (fun k hk e => hap k hk e), fun k hk e => ?_⟩
    rcases HV.out k e with h | h
    · exact hap k hk h
    · have := HRL.out x hin k hk
      have := hX5.1
      omega
  obtain ⟨a', c', rfl⟩ := hr8.shape
  obtain ⟨ns, hns⟩ : ∃ ns, ns = insL ps i p := ⟨_, rfl⟩
  rw [← hns] at hr8 hne' hfi' hri' hil hnew hoth hv'o HV
  rw [← hns]
  obtain ⟨m', hm'⟩ : ∃ m', m' = ns.length := ⟨_, rfl⟩
  rw [← hm'] at hr8 hoth hv'o HV
  rw [← hm']
  have HM : Hid (m' = ns.length) := hm'
  have HN : Hid (ns = insL ps i p) := hns
  have hm64 : ns.length ≤ 64 := by omega
  clear hm' hns
  have hs8 : w7.heap.size ≤ w8.heap.size := ht8.size
  clear hloc hX5 hP5 hZ5 hM5 htt ht8 hr5
  go_upto_region 13 with (first
    | (refine wpList_store_at rfl 61 _ _ rfl _ xb #[.int .i64 at_, .int .i64 tx, .slice va ps.length vc] #[.int .i64 at_, .int .i64 tx, .slice a' m' c'] rfl rfl hX8 rfl infoX (by simp [Value.oneCell']) ?_; intro w9 hX9 ht9)
    | go_in)
  have o1 : ∀ k, (Value.slice a' m' c').ownBlock = some k → ¬ (k = xb) := fun k hk => (hv'o k hk).1
  have hr9 := hr8.turn ht9 o1
  have hP9 := hP8.turn ht9 (by omega)
  have hZ9 := hZ8.turn ht9 (by omega)
  have hM9 := hM8.turn ht9 (by omega)
  have hbx9 := hbx8.turn ht9 (by omega)
  have hmp9 := hmp8.turn ht9 (by omega)
  have htt9 := htt8.step ht9 (fun k e => Or.inr (by omega))
  have hot9 : ∀ x ∈ (a ++ b), Pile.Ok w9 R x ∧ apart x ⟨mk p, at_, tx, .slice a' m' c', ns⟩ := fun x hx => ⟨(hoth x hx).1.turn ht9 (fun k hk e => by have := HRL.out x (inAll hx) k hk; omega), (hoth x hx).2⟩
  have hs9 : w8.heap.size ≤ w9.heap.size := ht9.size
  clear hr8 hP8 hZ8 hM8 hX8 hbx8 hmp8 htt8 hoth ht9
  have hcon := complete_any ns at_ tx (.slice a' m' c') R w9 (by have := hr9; exact this) (by omega) hne' hfi'
  rw [hnew] at hcon
  go_wp2_with (first
    | (refine wpList_load_at rfl 61 _ rfl _ xb #[.int .i64 at_, .int .i64 tx, .slice a' m' c'] _ rfl hX9 Try.underlying61 infoX ?_)
    | fail)
  refine hcon.mono ?_
  rintro e w10 ⟨rfl, l10⟩
  clear hcon
  replace hr9 := hr9.later l10
  replace hZ9 := hZ9.later l10
  replace hM9 := hM9.later l10
  replace hX9 := hX9.later l10
  replace hbx9 := hbx9.later l10
  replace hmp9 := hmp9.later l10
  replace htt9 := htt9.later l10
  replace hot9 : ∀ x ∈ (a ++ b), Pile.Ok w10 R x ∧ apart x ⟨mk p, at_, tx, .slice a' m' c', ns⟩ := fun x hx => ⟨(hot9 x hx).1.turn (S := fun _ => False) (Turn.of_below l10) (fun _ _ h => h), (hot9 x hx).2⟩
  have g4 : w10.cell? ⟨B, 4, none⟩ = some (.map (some M)) := (hbx9.2 4 _ rfl).1
  have m0 : w10.cell? ⟨mb, 0, none⟩ = some (.int .i64 p.f) := (hM9.2 0 _ rfl).1
  have m1 : w10.cell? ⟨mb, 1, none⟩ = some (.int .i64 p.t) := (hM9.2 1 _ rfl).1
  have m2 : w10.cell? ⟨mb, 2, none⟩ = some (.int .i64 p.pr) := (hM9.2 2 _ rfl).1
  have m3 : w10.cell? ⟨mb, 3, none⟩ = some (.int .i64 p.id) := (hM9.2 3 _ rfl).1
  have x0 : w10.cell? ⟨xb, 0, none⟩ = some (.int .i64 at_) := (hX9.2 0 _ rfl).1
  have x1 : w10.cell? ⟨xb, 1, none⟩ = some (.int .i64 tx) := (hX9.2 1 _ rfl).1
  have x2 : w10.cell? ⟨xb, 2, none⟩ = some (.slice a' m' c') := (hX9.2 2 _ rfl).1
  have hs10 : w9.heap.size ≤ w10.heap.size := l10.size
  clear l10
  have hmp9' : GM w10 M (a.map Pile.en ++ (mk p, .agg #[.int .i64 at_, .int .i64 tx, .slice va ps.length vc]) :: b.map Pile.en) := by
    have := hmp9
    rw [List.map_append, List.map_cons] at this
    exact this
  obtain ⟨W3, hr3, hG3, ht3⟩ := GM.set (w := w10.drew) hmp9' (by simp at hll ⊢; omega) (.agg #[.int .i64 at_, .int .i64 tx, .slice a' m' c'])
  have hr3' : (Instr.mapUpdate 54 (.map (some M)) (.agg #[.int .i64 p.f, .int .i64 p.t, .int .i64 p.pr, .int .i64 p.id]) (.agg #[.int .i64 at_, .int .i64 tx, .slice a' m' c'])).run Try.prog w10.drew = .ok () W3 := hr3
  clear hr3
  replace ht3 := ht3.undrew
  have hZ3 := hZ9.turn ht3 (by omega)
  have hBXn : BX W3 R B M ro pa la tu (a ++ ⟨mk p, at_, tx, .slice a' m' c', ns⟩ :: b) := by
    refine ⟨hbx9.turn ht3 hB5.ne, ?_, ?_, ?_, hbR, hmR, Nat.le_trans (Nat.le_trans hRw7 hs8) (Nat.le_trans (Nat.le_trans hs9 hs10) ht3.size), hB5.ne⟩
    · rw [List.map_append]
      exact hG3
    · intro x hx
      rcases List.mem_append.1 hx with h | h
      · exact (hot9 x (List.mem_append_left _ h)).1.turn ht3 (fun k hk e => by have := (hot9 x (List.mem_append_left _ h)).1.row.ge k hk; omega)
      · rcases List.mem_cons.1 h with h | h
        · rw [h]
          refine ⟨?_, hfi', hri', by omega⟩
          show RW W3 R (.slice a' m' c') ns
          exact hr9.turn ht3 (fun k hk e => by have := hr9.ge k hk; omega)
        · exact (hot9 x (List.mem_append_right _ h)).1.turn ht3 (fun k hk e => by have := (hot9 x (List.mem_append_right _ h)).1.row.ge k hk; omega)
    · exact far_put hB5.far (fun x hx => (hot9 x hx).2)
  have htt3 := htt9.step ht3 (fun k e => Or.inl (Or.inr (Or.inl e)))
  have HB3 : Hid (BX W3 R B M ro pa la tu (a ++ ⟨mk p, at_, tx, .slice a' m' c', ns⟩ :: b)) := hBXn
  have HT3 : Hid (Turn (FL B M (a ++ ⟨mk p, at_, tx, .slice va ps.length vc, ps⟩ :: b)) w W3) := htt3
  have hown : ∀ x ∈ (a ++ ⟨mk p, at_, tx, .slice a' m' c', ns⟩ :: b), ∀ k, x.v.ownBlock = some k → ¬ (k = w.heap.size + 1) := fun x hx k hk e => by
    rcases List.mem_append.1 hx with h | h
    · have := HRL.out x (List.mem_append_left _ h) k hk; omega
    · rcases List.mem_cons.1 h with h | h
      · rw [h] at hk; exact (hv'o k hk).2.2.2.1 e
      · have := HRL.out x (List.mem_append_right _ (List.mem_cons_of_mem _ h)) k hk; omega
  have hBl := hBXn.box.1
  clear hZ9 hM9 hX9 hbx9 hmp9 htt9 hot9 hG3 ht3 hBXn htt3 hr9
  go_upto_region 14 with fail
  go_region
  go_wp2_with (first
    | (refine wpList_store_at rfl 32 _ _ rfl _ (w.heap.size + 1) #[.int .i64 0, .int .i64 0, .int .i64 0, .int .i64 0, .int .i64 0, .int .i64 0, .bool false, .bool false, .string ⟨#[]⟩, .string ⟨#[]⟩] #[.int .i64 0, .int .i64 0, .int .i64 0, .int .i64 0, .int .i64 0, .int .i64 0, .bool false, .bool false, .string ⟨#[]⟩, .string ⟨#[]⟩] rfl rfl hZ3 rfl (by kernel_rfl) oneZ ?_; intro w11 hZ11 ht11))
  have r0 := (hZ11.2 0 _ rfl).1
  have r1 := (hZ11.2 1 _ rfl).1
  have r2 := (hZ11.2 2 _ rfl).1
  have r3 := (hZ11.2 3 _ rfl).1
  have r4 := (hZ11.2 4 _ rfl).1
  have r5 := (hZ11.2 5 _ rfl).1
  have r6 := (hZ11.2 6 _ rfl).1
  have r7 := (hZ11.2 7 _ rfl).1
  have r8 := (hZ11.2 8 _ rfl).1
  have r9 := (hZ11.2 9 _ rfl).1
  exact bodyPost_ret (v := .tuple #[.agg #[.int .i64 0, .int .i64 0, .int .i64 0, .int .i64 0, .int .i64 0, .int .i64 0, .bool false, .bool false, .string ⟨#[]⟩, .string ⟨#[]⟩], .bool false, .int .i64 0]) (by simp [results, Try.results23, go_sem, r0, r1, r2, r3, r4, r5, r6, r7, r8, r9]) rfl ⟨rfl, ⟨_, i, hi, hcut, by rw [← HN.out]; exact HB3.out.turn ht11 (by omega) (by omega) hown, HT3.out.step ht11 (fun k e => Or.inr (by omega)), (fun k hk => (HV.out k hk).elim (fun h => Or.inl ⟨_, List.mem_append_right _ (List.mem_cons_self ..), h⟩) (fun h => Or.inr (by omega)))⟩⟩
end Go.Proofs.Ytcjhniehbafhpaa
