/- the texts Jd, in part, merged by program -/
import Derived.Test.YtcjhniehbafhpaaProg
import Derived.Test.YtcjhniehbafhpaaRows
import Derived.WalkKit
import Derived.WalkSpells
import Derived.Laws.OwnMore
import Derived.Maps.RangeWalk
import Derived.Maps.OwnSet
import Derived.Maps.Ext
import Derived.Maps.Keyed
import Derived.DeepKeys4
import Derived.WalkSmall
import Derived.Deep.Cut
import Derived.Deep.CutRange
import Derived.Deep.MidRow
import Derived.Deep.QuietTactic
import Derived.BigQuiet
import Derived.Deep.RegionWith
import Derived.OwnWalk
import Derived.Laws.CopyRow
import Derived.OrdersHeld
import Derived.Shelf.Spec.SlicesInsert
import Derived.Lib.AppendZerosOnto
import Derived.Maps.AppendAt
import Derived.Lib.Overlaps
import Derived.Shelf.Strings.BuilderK
import Derived.Laws.AppendOwn
import Derived.Laws.AppendOwnNone
import Derived.Carry
import Derived.Shelf.SlSortCmp.WholeK
import Derived.Great.BuildSlice
import Derived.Shelf.SlSortCmp.NoneTotal
import Derived.Deep.RegionHeld3
import Derived.LoopN
import Derived.Test.YtcjhniehbafhpaaMA01
import Derived.Test.YtcjhniehbafhpaaMA02
import Derived.Test.YtcjhniehbafhpaaMA03
import Derived.Test.YtcjhniehbafhpaaMA04
import Derived.Test.YtcjhniehbafhpaaMA06
import Derived.Test.YtcjhniehbafhpaaMA07
import Derived.Test.YtcjhniehbafhpaaMA09
import Derived.Test.YtcjhniehbafhpaaMA10
import Derived.Test.YtcjhniehbafhpaaMA11
namespace Go.Proofs.Ytcjhniehbafhpaa
open Go.RowKit Go.Maps
set_option maxRecDepth 100000
set_option linter.unusedVariables false
set_option linter.unusedSimpArgs false

def rovB (x p : Pk) : Bool := decide (8 * x.fr < p.en) && decide (8 * p.fr < x.en) && decide (0 < x.da.size) && decide (0 < p.da.size)
def rpaB (x p : Pk) : Bool := (!x.mo && (!p.mo && decide (p.en ≠ x.en) || decide (x.en < p.en))) || (!p.mo && decide (p.en < x.en))
def rfitB (x p : Pk) : Bool := !rovB x p && !rpaB x p
def rfitsB (ps : List Pk) (p : Pk) : Bool := decide (ps.length < 64) && decide (p.en + 20 + (p.op.size : Int) ≤ 65535) && ps.all (fun x => rfitB x p)
theorem all_at {ps : List Pk} {k : Nat} {x : Pk} {f : Pk → Bool} (h : ps[k]? = some x) (hf : f x = false) : ps.all f = false := by
 rw [List.all_eq_false]
 exact ⟨x, List.mem_of_getElem? h, by rw [hf]; simp⟩
set_option maxHeartbeats 16000000 in
theorem rfits_any (ps : List Pk) (p : Pk) (v : Value) (R : Nat) (w : World) (hr : RW w R v ps) (hn : ps.length ≤ 1000) (hp : p.Fine) (hf : ∀ q ∈ ps, q.Fine) :
  Calls Try.prog 27 #[v, .agg #[.int .i64 p.f, .int .i64 p.t, .int .i64 p.tl, .int .i64 p.pr, .int .i64 p.id, .int .i64 p.fr, .bool p.mo, .bool p.dn, .string p.op, .string p.da]] w fun e w' => e = .returned (.bool (rfitsB ps p)) ∧ Below w.heap.size w w' := by
 obtain ⟨a, c, hv⟩ := hr.shape
 subst hv
 have HR : Hid (RW w R (.slice a ps.length c) ps) := hr
 have HF : Hid (∀ q ∈ ps, q.Fine) := hf
 have hlt0 : (ps.length : Int) ≤ 1000 := by omega
 have f1 := hp.f1
 have f0 := hp.f0
 have fo : (p.op.size : Int) ≤ 40 := hp.ol
 have fd : (p.da.size : Int) ≤ 65535 := hp.dl
 have fe : 0 ≤ p.en ∧ p.en ≤ 200000 := by unfold Pk.en; omega
 obtain ⟨fe0, fe1⟩ := fe
 clear hr hf
 obtain ⟨res, hres⟩ : ∃ r, rfitsB ps p = r := ⟨_, rfl⟩
 rw [hres]
 have HRES : Hid (rfitsB ps p = res) := hres
 clear hres
 have hP0 := At.box w #[.int .i64 p.f, .int .i64 p.t, .int .i64 p.tl, .int .i64 p.pr, .int .i64 p.id, .int .i64 p.fr, .bool p.mo, .bool p.dn, .string p.op, .string p.da] 32
 have hb0 := bel1 w (.cells #[.int .i64 p.f, .int .i64 p.t, .int .i64 p.tl, .int .i64 p.pr, .int .i64 p.id, .int .i64 p.fr, .bool p.mo, .bool p.dn, .string p.op, .string p.da] 32)
 go_enter Try.func27, Try.ntmps27
 go_upto_region 1 with fail
 generalize w.alloc (.cells #[.int .i64 p.f, .int .i64 p.t, .int .i64 p.tl, .int .i64 p.pr, .int .i64 p.id, .int .i64 p.fr, .bool p.mo, .bool p.dn, .string p.op, .string p.da] 32) = w3 at *
 have hp0 : ∀ W, Below w3.heap.size w3 W → W.cell? ⟨w.heap.size, 0, none⟩ = some (.int .i64 p.f) := fun W hW => later hW (hP0.2 0 _ rfl).1
 have hp1 : ∀ W, Below w3.heap.size w3 W → W.cell? ⟨w.heap.size, 1, none⟩ = some (.int .i64 p.t) := fun W hW => later hW (hP0.2 1 _ rfl).1
 have hp2 : ∀ W, Below w3.heap.size w3 W → W.cell? ⟨w.heap.size, 2, none⟩ = some (.int .i64 p.tl) := fun W hW => later hW (hP0.2 2 _ rfl).1
 have hp3 : ∀ W, Below w3.heap.size w3 W → W.cell? ⟨w.heap.size, 3, none⟩ = some (.int .i64 p.pr) := fun W hW => later hW (hP0.2 3 _ rfl).1
 have hp4 : ∀ W, Below w3.heap.size w3 W → W.cell? ⟨w.heap.size, 4, none⟩ = some (.int .i64 p.id) := fun W hW => later hW (hP0.2 4 _ rfl).1
 have hp5 : ∀ W, Below w3.heap.size w3 W → W.cell? ⟨w.heap.size, 5, none⟩ = some (.int .i64 p.fr) := fun W hW => later hW (hP0.2 5 _ rfl).1
 have hp6 : ∀ W, Below w3.heap.size w3 W → W.cell? ⟨w.heap.size, 6, none⟩ = some (.bool p.mo) := fun W hW => later hW (hP0.2 6 _ rfl).1
 have hp7 : ∀ W, Below w3.heap.size w3 W → W.cell? ⟨w.heap.size, 7, none⟩ = some (.bool p.dn) := fun W hW => later hW (hP0.2 7 _ rfl).1
 have hp8 : ∀ W, Below w3.heap.size w3 W → W.cell? ⟨w.heap.size, 8, none⟩ = some (.string p.op) := fun W hW => later hW (hP0.2 8 _ rfl).1
 have hp9 : ∀ W, Below w3.heap.size w3 W → W.cell? ⟨w.heap.size, 9, none⟩ = some (.string p.da) := fun W hW => later hW (hP0.2 9 _ rfl).1
 by_cases h64 : 64 ≤ ps.length
 ·
  have h64b : (64 : Int) ≤ (ps.length : Int) := by omega
  have h64c : decide (64 ≤ ps.length) = true := decide_eq_true h64
  have HF0 : Hid (res = false) := by
   rw [← HRES.out]; unfold rfitsB
   show _ = _
   rw [decide_eq_false (by omega)]; rfl
  refine wp_region_held_drew (S := (fun W => Below w3.heap.size w3 W)) (by kernel_rfl) ?_ (fun hHeld => ?_)
  · first | exact (Below.refl _ _).drew | assumption
  refine tk (i := 0) (oi := ⟨some 7, .move (.tmp 0), 36, "ref.go:58", #[], none⟩) (v := .slice a ps.length c) rfl (by kernel_rfl) (fun _ _ _ h => h) (Or.inl ⟨by rfl, ?_⟩) (by assumption) ?_
  ·
   intro wx hSw
   go_simp
   try with_reducible rfl
  try simp only [Act.put, La1, La2, La3]
  refine tk (i := 1) (oi := ⟨some 8, .call { callee := .builtin .len, args := #[.tmp 7], argTypes := #[36] }, 3, "ref.go:58", #[⟨0, .data⟩], none⟩) (v := .int .i64 (ps.length : Int)) rfl (by kernel_rfl) (fun _ _ _ h => h) (Or.inl ⟨by rfl, ?_⟩) (by assumption) ?_
  ·
   intro wx hSw
   try dsimp only at hSw
   have u0 := hp0 wx hSw
   have u1 := hp1 wx hSw
   have u2 := hp2 wx hSw
   have u3 := hp3 wx hSw
   have u4 := hp4 wx hSw
   have u5 := hp5 wx hSw
   have u6 := hp6 wx hSw
   have u7 := hp7 wx hSw
   have u8 := hp8 wx hSw
   have u9 := hp9 wx hSw
   go_simp
   try with_reducible rfl
  try simp only [Act.put, La1, La2, La3]
  refine tk (i := 2) (oi := ⟨some 9, .binOp .geq 3 (.tmp 8) (.const (.int .i64 64)) 3, 4, "ref.go:58", #[⟨1, .data⟩], none⟩) (v := .bool true) rfl (by kernel_rfl) (fun _ _ _ h => h) (Or.inl ⟨by rfl, ?_⟩) (by assumption) ?_
  ·
   intro wx hSw
   go_simp
   try with_reducible rfl
  try simp only [Act.put, La1, La2, La3]
  refine tk (i := 3) (oi := ⟨some 10, .move (.tmp 9), 4, "ref.go:58", #[⟨2, .data⟩], none⟩) (v := .bool true) rfl (by kernel_rfl) (fun _ _ _ h => h) (Or.inl ⟨by rfl, ?_⟩) (by assumption) ?_
  ·
   intro wx hSw
   go_simp
   try with_reducible rfl
  try simp only [Act.put, La1, La2, La3]
  refine tk (i := 4) (oi := ⟨some 11, .load 32 (.tmp 3), 32, "ref.go:58", #[⟨3, .guard⟩], some (3, false)⟩) (v := undef) rfl (by kernel_rfl) (fun _ _ _ h => h) (Or.inr ⟨by rfl, rfl⟩) (by assumption) ?_
  try simp only [Act.put, La1, La2, La3]
  refine tk (i := 5) (oi := ⟨some 12, .call { callee := .value (.func 42), args := #[.tmp 11], argTypes := #[32] }, 3, "ref.go:58", #[⟨4, .data⟩, ⟨3, .chain⟩, ⟨3, .guard⟩], some (3, false)⟩) (v := undef) rfl (by kernel_rfl) (fun _ _ _ h => h) (Or.inr ⟨by rfl, rfl⟩) (by assumption) ?_
  try simp only [Act.put, La1, La2, La3]
  refine tk (i := 6) (oi := ⟨some 13, .binOp .add 3 (.tmp 12) (.const (.int .i64 20)) 3, 3, "ref.go:58", #[⟨5, .data⟩, ⟨3, .guard⟩], some (3, false)⟩) (v := undef) rfl (by kernel_rfl) (fun _ _ _ h => h) (Or.inr ⟨by rfl, rfl⟩) (by assumption) ?_
  try simp only [Act.put, La1, La2, La3]
  refine tk (i := 7) (oi := ⟨some 14, .fieldAddr 32 (.tmp 3) 8, 0, "ref.go:58", #[⟨3, .guard⟩], some (3, false)⟩) (v := undef) rfl (by kernel_rfl) (fun _ _ _ h => h) (Or.inr ⟨by rfl, rfl⟩) (by assumption) ?_
  try simp only [Act.put, La1, La2, La3]
  refine tk (i := 8) (oi := ⟨some 15, .load 9 (.tmp 14), 9, "ref.go:58", #[⟨7, .data⟩, ⟨3, .guard⟩], some (3, false)⟩) (v := undef) rfl (by kernel_rfl) (fun _ _ _ h => h) (Or.inr ⟨by rfl, rfl⟩) (by assumption) ?_
  try simp only [Act.put, La1, La2, La3]
  refine tk (i := 9) (oi := ⟨some 16, .call { callee := .builtin .len, args := #[.tmp 15], argTypes := #[9] }, 3, "ref.go:58", #[⟨8, .data⟩, ⟨3, .guard⟩], some (3, false)⟩) (v := undef) rfl (by kernel_rfl) (fun _ _ _ h => h) (Or.inr ⟨by rfl, rfl⟩) (by assumption) ?_
  try simp only [Act.put, La1, La2, La3]
  refine tk (i := 10) (oi := ⟨some 17, .binOp .add 3 (.tmp 13) (.tmp 16) 3, 3, "ref.go:58", #[⟨6, .data⟩, ⟨9, .data⟩, ⟨3, .guard⟩], some (3, false)⟩) (v := undef) rfl (by kernel_rfl) (fun _ _ _ h => h) (Or.inr ⟨by rfl, rfl⟩) (by assumption) ?_
  try simp only [Act.put, La1, La2, La3]
  refine tk (i := 11) (oi := ⟨some 18, .binOp .gtr 3 (.tmp 17) (.const (.int .i64 65535)) 3, 4, "ref.go:58", #[⟨10, .data⟩, ⟨3, .guard⟩], some (3, false)⟩) (v := undef) rfl (by kernel_rfl) (fun _ _ _ h => h) (Or.inr ⟨by rfl, rfl⟩) (by assumption) ?_
  try simp only [Act.put, La1, La2, La3]
  refine tk (i := 12) (oi := ⟨some 19, .pick (.tmp 10) (.const (.bool true)) (.tmp 18), 4, "ref.go:58", #[⟨3, .data⟩, ⟨11, .data⟩], none⟩) (v := .bool true) rfl (by kernel_rfl) (fun _ _ _ h => h) (Or.inl ⟨by rfl, ?_⟩) (by assumption) ?_
  ·
   intro wx hSw
   go_simp
   try with_reducible rfl
  try simp only [Act.put, La1, La2, La3]
  refine wpAnyH_done (by kernel_rfl) ?_ _
  have hb4 := bt hb0 hHeld
  go_wp2
  go_ret
  exact ⟨by rw [HF0.out]; rfl, hb4⟩
 have h64b : ¬ (64 : Int) ≤ (ps.length : Int) := by omega
 have h64c : decide (64 ≤ ps.length) = false := decide_eq_false h64
 have hw1 : IntKind.i64.wrap (p.en + 20) = p.en + 20 := by rw [IntKind.wrap_i64]; omega
 have hw2 : IntKind.i64.wrap (p.en + 20 + (p.op.size : Int)) = p.en + 20 + (p.op.size : Int) := by rw [IntKind.wrap_i64]; omega
 by_cases hbig : 65535 < p.en + 20 + (p.op.size : Int)
 ·
  have HF0 : Hid (res = false) := by
   rw [← HRES.out]; unfold rfitsB
   show _ = _
   rw [decide_eq_false (p := p.en + 20 + (p.op.size : Int) ≤ 65535) (by omega)]; simp
  refine wp_region_held_drew (S := (fun W => Below w3.heap.size w3 W)) (by kernel_rfl) ?_ (fun hHeld => ?_)
  · first | exact (Below.refl _ _).drew | assumption
  refine tk (i := 0) (oi := ⟨some 7, .move (.tmp 0), 36, "ref.go:58", #[], none⟩) (v := .slice a ps.length c) rfl (by kernel_rfl) (fun _ _ _ h => h) (Or.inl ⟨by rfl, ?_⟩) (by assumption) ?_
  ·
   intro wx hSw
   go_simp
   try with_reducible rfl
  try simp only [Act.put, La1, La2, La3]
  refine tk (i := 1) (oi := ⟨some 8, .call { callee := .builtin .len, args := #[.tmp 7], argTypes := #[36] }, 3, "ref.go:58", #[⟨0, .data⟩], none⟩) (v := .int .i64 (ps.length : Int)) rfl (by kernel_rfl) (fun _ _ _ h => h) (Or.inl ⟨by rfl, ?_⟩) (by assumption) ?_
  ·
   intro wx hSw
   try dsimp only at hSw
   have u0 := hp0 wx hSw
   have u1 := hp1 wx hSw
   have u2 := hp2 wx hSw
   have u3 := hp3 wx hSw
   have u4 := hp4 wx hSw
   have u5 := hp5 wx hSw
   have u6 := hp6 wx hSw
   have u7 := hp7 wx hSw
   have u8 := hp8 wx hSw
   have u9 := hp9 wx hSw
   go_simp
   try with_reducible rfl
  try simp only [Act.put, La1, La2, La3]
  refine tk (i := 2) (oi := ⟨some 9, .binOp .geq 3 (.tmp 8) (.const (.int .i64 64)) 3, 4, "ref.go:58", #[⟨1, .data⟩], none⟩) (v := .bool false) rfl (by kernel_rfl) (fun _ _ _ h => h) (Or.inl ⟨by rfl, ?_⟩) (by assumption) ?_
  ·
   intro wx hSw
   go_simp
   try with_reducible rfl
  try simp only [Act.put, La1, La2, La3]
  refine tk (i := 3) (oi := ⟨some 10, .move (.tmp 9), 4, "ref.go:58", #[⟨2, .data⟩], none⟩) (v := .bool false) rfl (by kernel_rfl) (fun _ _ _ h => h) (Or.inl ⟨by rfl, ?_⟩) (by assumption) ?_
  ·
   intro wx hSw
   go_simp
   try with_reducible rfl
  try simp only [Act.put, La1, La2, La3]
  refine tk (i := 4) (oi := ⟨some 11, .load 32 (.tmp 3), 32, "ref.go:58", #[⟨3, .guard⟩], some (3, false)⟩) (v := .agg #[.int .i64 p.f, .int .i64 p.t, .int .i64 p.tl, .int .i64 p.pr, .int .i64 p.id, .int .i64 p.fr, .bool p.mo, .bool p.dn, .string p.op, .string p.da]) rfl (by kernel_rfl) (fun _ _ _ h => h) (Or.inl ⟨by rfl, ?_⟩) (by assumption) ?_
  ·
   intro wx hSw
   try dsimp only at hSw
   have u0 := hp0 wx hSw
   have u1 := hp1 wx hSw
   have u2 := hp2 wx hSw
   have u3 := hp3 wx hSw
   have u4 := hp4 wx hSw
   have u5 := hp5 wx hSw
   have u6 := hp6 wx hSw
   have u7 := hp7 wx hSw
   have u8 := hp8 wx hSw
   have u9 := hp9 wx hSw
   go_simp
   try with_reducible rfl
  try simp only [Act.put, La1, La2, La3]
  refine tk (i := 7) (oi := ⟨some 14, .fieldAddr 32 (.tmp 3) 8, 0, "ref.go:58", #[⟨3, .guard⟩], some (3, false)⟩) (v := .pointer (some ⟨w.heap.size, 8, none⟩)) rfl (by kernel_rfl) (fun _ _ _ h => h) (Or.inl ⟨by rfl, ?_⟩) (by assumption) ?_
  ·
   intro wx hSw
   go_simp
   try with_reducible rfl
  try simp only [Act.put, La1, La2, La3]
  refine tk (i := 8) (oi := ⟨some 15, .load 9 (.tmp 14), 9, "ref.go:58", #[⟨7, .data⟩, ⟨3, .guard⟩], some (3, false)⟩) (v := .string p.op) rfl (by kernel_rfl) (fun _ _ _ h => h) (Or.inl ⟨by rfl, ?_⟩) (by assumption) ?_
  ·
   intro wx hSw
   try dsimp only at hSw
   have u8 := hp8 wx hSw
   go_simp
   try with_reducible rfl
  try simp only [Act.put, La1, La2, La3]
  refine tk (i := 9) (oi := ⟨some 16, .call { callee := .builtin .len, args := #[.tmp 15], argTypes := #[9] }, 3, "ref.go:58", #[⟨8, .data⟩, ⟨3, .guard⟩], some (3, false)⟩) (v := .int .i64 (p.op.size : Int)) rfl (by kernel_rfl) (fun _ _ _ h => h) (Or.inl ⟨by rfl, ?_⟩) (by assumption) ?_
  ·
   intro wx hSw
   try dsimp only at hSw
   have u0 := hp0 wx hSw
   have u1 := hp1 wx hSw
   have u2 := hp2 wx hSw
   have u3 := hp3 wx hSw
   have u4 := hp4 wx hSw
   have u5 := hp5 wx hSw
   have u6 := hp6 wx hSw
   have u7 := hp7 wx hSw
   have u8 := hp8 wx hSw
   have u9 := hp9 wx hSw
   go_simp
   try with_reducible rfl
  try simp only [Act.put, La1, La2, La3]
  refine wpAnyH_ready (rs := [5]) (by kernel_rfl) (by simp) ?_
  refine AllReadyH.cons (o := ⟨some 12, .call { callee := .value (.func 42), args := #[.tmp 11], argTypes := #[32] }, 3, "ref.go:58", #[⟨4, .data⟩, ⟨3, .chain⟩, ⟨3, .guard⟩], some (3, false)⟩) rfl (fun K hK => ?_) AllReadyH.nil
  go_simp
  go_at_call 42
  refine (rend_any p _ hp).mono ?_
  rintro e wc1 ⟨rfl, hbc1⟩
  first
   | refine hK.out _ _ ?_ (fun hHeld => ?_)
   | (go_wp2_with fail; refine hK.out _ _ ?_ (fun hHeld => ?_))
  ·
   try dsimp only
   exact bt hHeld hbc1
  clear hK K
  try simp only [Act.put, La1, La2, La3]
  refine tk (i := 6) (oi := ⟨some 13, .binOp .add 3 (.tmp 12) (.const (.int .i64 20)) 3, 3, "ref.go:58", #[⟨5, .data⟩, ⟨3, .guard⟩], some (3, false)⟩) (v := .int .i64 (p.en + 20)) rfl (by kernel_rfl) (fun _ _ _ h => h) (Or.inl ⟨by rfl, ?_⟩) (by assumption) ?_
  ·
   intro wx hSw
   go_simp
   try with_reducible rfl
  try simp only [Act.put, La1, La2, La3]
  refine tk (i := 10) (oi := ⟨some 17, .binOp .add 3 (.tmp 13) (.tmp 16) 3, 3, "ref.go:58", #[⟨6, .data⟩, ⟨9, .data⟩, ⟨3, .guard⟩], some (3, false)⟩) (v := .int .i64 (p.en + 20 + (p.op.size : Int))) rfl (by kernel_rfl) (fun _ _ _ h => h) (Or.inl ⟨by rfl, ?_⟩) (by assumption) ?_
  ·
   intro wx hSw
   go_simp
   try with_reducible rfl
  try simp only [Act.put, La1, La2, La3]
  refine tk (i := 11) (oi := ⟨some 18, .binOp .gtr 3 (.tmp 17) (.const (.int .i64 65535)) 3, 4, "ref.go:58", #[⟨10, .data⟩, ⟨3, .guard⟩], some (3, false)⟩) (v := .bool true) rfl (by kernel_rfl) (fun _ _ _ h => h) (Or.inl ⟨by rfl, ?_⟩) (by assumption) ?_
  ·
   intro wx hSw
   go_simp
   try with_reducible rfl
  try simp only [Act.put, La1, La2, La3]
  refine tk (i := 12) (oi := ⟨some 19, .pick (.tmp 10) (.const (.bool true)) (.tmp 18), 4, "ref.go:58", #[⟨3, .data⟩, ⟨11, .data⟩], none⟩) (v := .bool true) rfl (by kernel_rfl) (fun _ _ _ h => h) (Or.inl ⟨by rfl, ?_⟩) (by assumption) ?_
  ·
   intro wx hSw
   go_simp
   try with_reducible rfl
  try simp only [Act.put, La1, La2, La3]
  refine wpAnyH_done (by kernel_rfl) ?_ _
  have hb4 := bt hb0 hHeld
  go_wp2
  go_ret
  exact ⟨by rw [HF0.out]; rfl, hb4⟩
 refine wp_region_held_drew (S := (fun W => Below w3.heap.size w3 W)) (by kernel_rfl) ?_ (fun hHeld => ?_)
 · first | exact (Below.refl _ _).drew | assumption
 refine tk (i := 0) (oi := ⟨some 7, .move (.tmp 0), 36, "ref.go:58", #[], none⟩) (v := .slice a ps.length c) rfl (by kernel_rfl) (fun _ _ _ h => h) (Or.inl ⟨by rfl, ?_⟩) (by assumption) ?_
 ·
  intro wx hSw
  go_simp
  try with_reducible rfl
 try simp only [Act.put, La1, La2, La3]
 refine tk (i := 1) (oi := ⟨some 8, .call { callee := .builtin .len, args := #[.tmp 7], argTypes := #[36] }, 3, "ref.go:58", #[⟨0, .data⟩], none⟩) (v := .int .i64 (ps.length : Int)) rfl (by kernel_rfl) (fun _ _ _ h => h) (Or.inl ⟨by rfl, ?_⟩) (by assumption) ?_
 ·
  intro wx hSw
  try dsimp only at hSw
  have u0 := hp0 wx hSw
  have u1 := hp1 wx hSw
  have u2 := hp2 wx hSw
  have u3 := hp3 wx hSw
  have u4 := hp4 wx hSw
  have u5 := hp5 wx hSw
  have u6 := hp6 wx hSw
  have u7 := hp7 wx hSw
  have u8 := hp8 wx hSw
  have u9 := hp9 wx hSw
  go_simp
  try with_reducible rfl
 try simp only [Act.put, La1, La2, La3]
 refine tk (i := 2) (oi := ⟨some 9, .binOp .geq 3 (.tmp 8) (.const (.int .i64 64)) 3, 4, "ref.go:58", #[⟨1, .data⟩], none⟩) (v := .bool false) rfl (by kernel_rfl) (fun _ _ _ h => h) (Or.inl ⟨by rfl, ?_⟩) (by assumption) ?_
 ·
  intro wx hSw
  go_simp
  try with_reducible rfl
 try simp only [Act.put, La1, La2, La3]
 refine tk (i := 3) (oi := ⟨some 10, .move (.tmp 9), 4, "ref.go:58", #[⟨2, .data⟩], none⟩) (v := .bool false) rfl (by kernel_rfl) (fun _ _ _ h => h) (Or.inl ⟨by rfl, ?_⟩) (by assumption) ?_
 ·
  intro wx hSw
  go_simp
  try with_reducible rfl
 try simp only [Act.put, La1, La2, La3]
 refine tk (i := 4) (oi := ⟨some 11, .load 32 (.tmp 3), 32, "ref.go:58", #[⟨3, .guard⟩], some (3, false)⟩) (v := .agg #[.int .i64 p.f, .int .i64 p.t, .int .i64 p.tl, .int .i64 p.pr, .int .i64 p.id, .int .i64 p.fr, .bool p.mo, .bool p.dn, .string p.op, .string p.da]) rfl (by kernel_rfl) (fun _ _ _ h => h) (Or.inl ⟨by rfl, ?_⟩) (by assumption) ?_
 ·
  intro wx hSw
  try dsimp only at hSw
  have u0 := hp0 wx hSw
  have u1 := hp1 wx hSw
  have u2 := hp2 wx hSw
  have u3 := hp3 wx hSw
  have u4 := hp4 wx hSw
  have u5 := hp5 wx hSw
  have u6 := hp6 wx hSw
  have u7 := hp7 wx hSw
  have u8 := hp8 wx hSw
  have u9 := hp9 wx hSw
  go_simp
  try with_reducible rfl
 try simp only [Act.put, La1, La2, La3]
 refine tk (i := 7) (oi := ⟨some 14, .fieldAddr 32 (.tmp 3) 8, 0, "ref.go:58", #[⟨3, .guard⟩], some (3, false)⟩) (v := .pointer (some ⟨w.heap.size, 8, none⟩)) rfl (by kernel_rfl) (fun _ _ _ h => h) (Or.inl ⟨by rfl, ?_⟩) (by assumption) ?_
 ·
  intro wx hSw
  go_simp
  try with_reducible rfl
 try simp only [Act.put, La1, La2, La3]
 refine tk (i := 8) (oi := ⟨some 15, .load 9 (.tmp 14), 9, "ref.go:58", #[⟨7, .data⟩, ⟨3, .guard⟩], some (3, false)⟩) (v := .string p.op) rfl (by kernel_rfl) (fun _ _ _ h => h) (Or.inl ⟨by rfl, ?_⟩) (by assumption) ?_
 ·
  intro wx hSw
  try dsimp only at hSw
  have u8 := hp8 wx hSw
  go_simp
  try with_reducible rfl
 try simp only [Act.put, La1, La2, La3]
 refine tk (i := 9) (oi := ⟨some 16, .call { callee := .builtin .len, args := #[.tmp 15], argTypes := #[9] }, 3, "ref.go:58", #[⟨8, .data⟩, ⟨3, .guard⟩], some (3, false)⟩) (v := .int .i64 (p.op.size : Int)) rfl (by kernel_rfl) (fun _ _ _ h => h) (Or.inl ⟨by rfl, ?_⟩) (by assumption) ?_
 ·
  intro wx hSw
  try dsimp only at hSw
  have u0 := hp0 wx hSw
  have u1 := hp1 wx hSw
  have u2 := hp2 wx hSw
  have u3 := hp3 wx hSw
  have u4 := hp4 wx hSw
  have u5 := hp5 wx hSw
  have u6 := hp6 wx hSw
  have u7 := hp7 wx hSw
  have u8 := hp8 wx hSw
  have u9 := hp9 wx hSw
  go_simp
  try with_reducible rfl
 try simp only [Act.put, La1, La2, La3]
 refine wpAnyH_ready (rs := [5]) (by kernel_rfl) (by simp) ?_
 refine AllReadyH.cons (o := ⟨some 12, .call { callee := .value (.func 42), args := #[.tmp 11], argTypes := #[32] }, 3, "ref.go:58", #[⟨4, .data⟩, ⟨3, .chain⟩, ⟨3, .guard⟩], some (3, false)⟩) rfl (fun K hK => ?_) AllReadyH.nil
 go_simp
 go_at_call 42
 refine (rend_any p _ hp).mono ?_
 rintro e wc1 ⟨rfl, hbc1⟩
 first
  | refine hK.out _ _ ?_ (fun hHeld => ?_)
  | (go_wp2_with fail; refine hK.out _ _ ?_ (fun hHeld => ?_))
 ·
  try dsimp only
  exact bt hHeld hbc1
 clear hK K
 try simp only [Act.put, La1, La2, La3]
 refine tk (i := 6) (oi := ⟨some 13, .binOp .add 3 (.tmp 12) (.const (.int .i64 20)) 3, 3, "ref.go:58", #[⟨5, .data⟩, ⟨3, .guard⟩], some (3, false)⟩) (v := .int .i64 (p.en + 20)) rfl (by kernel_rfl) (fun _ _ _ h => h) (Or.inl ⟨by rfl, ?_⟩) (by assumption) ?_
 ·
  intro wx hSw
  go_simp
  try with_reducible rfl
 try simp only [Act.put, La1, La2, La3]
 refine tk (i := 10) (oi := ⟨some 17, .binOp .add 3 (.tmp 13) (.tmp 16) 3, 3, "ref.go:58", #[⟨6, .data⟩, ⟨9, .data⟩, ⟨3, .guard⟩], some (3, false)⟩) (v := .int .i64 (p.en + 20 + (p.op.size : Int))) rfl (by kernel_rfl) (fun _ _ _ h => h) (Or.inl ⟨by rfl, ?_⟩) (by assumption) ?_
 ·
  intro wx hSw
  go_simp
  try with_reducible rfl
 try simp only [Act.put, La1, La2, La3]
 refine tk (i := 11) (oi := ⟨some 18, .binOp .gtr 3 (.tmp 17) (.const (.int .i64 65535)) 3, 4, "ref.go:58", #[⟨10, .data⟩, ⟨3, .guard⟩], some (3, false)⟩) (v := .bool false) rfl (by kernel_rfl) (fun _ _ _ h => h) (Or.inl ⟨by rfl, ?_⟩) (by assumption) ?_
 ·
  intro wx hSw
  go_simp
  try with_reducible rfl
 try simp only [Act.put, La1, La2, La3]
 refine tk (i := 12) (oi := ⟨some 19, .pick (.tmp 10) (.const (.bool true)) (.tmp 18), 4, "ref.go:58", #[⟨3, .data⟩, ⟨11, .data⟩], none⟩) (v := .bool false) rfl (by kernel_rfl) (fun _ _ _ h => h) (Or.inl ⟨by rfl, ?_⟩) (by assumption) ?_
 ·
  intro wx hSw
  go_simp
  try with_reducible rfl
 try simp only [Act.put, La1, La2, La3]
 refine wpAnyH_done (by kernel_rfl) ?_ _
 have hb4 := bt hb0 hHeld
 have hP4 := hP0.later hHeld
 have HALL : Hid (rfitsB ps p = ps.all (fun x => rfitB x p)) := by
  show _ = _
  unfold rfitsB
  rw [decide_eq_true (by omega), decide_eq_true (by omega)]; simp
 clear hP0 hp0 hp1 hp2 hp3 hp4 hp5 hp6 hp7 hp8 hp9 hHeld hb0
 have H0 : Hid (At wc1 w.heap.size #[.int .i64 p.f, .int .i64 p.t, .int .i64 p.tl, .int .i64 p.pr, .int .i64 p.id, .int .i64 p.fr, .bool p.mo, .bool p.dn, .string p.op, .string p.da]) := hP4
 clear hP4
 go_wp2
 go_loopw [5] (fun vi wr => ∃ k : Nat, k ≤ ps.length ∧ vi = .int .i64 (k : Int) ∧ (∀ x ∈ ps.take k, rfitB x p = true) ∧ Below wc1.heap.size wc1 wr) (fun vi _ => ps.length - (intOf vi).toNat)
 case atStart => exact ⟨0, Nat.zero_le _, rfl, (fun x hx => by simp at hx), Below.refl _ _⟩
 case round =>
  obtain ⟨k, hk, rfl, hno, hb⟩ := hrel
  by_cases hlt : k < ps.length
  ·
   obtain ⟨x, hx⟩ : ∃ x, ps[k]? = some x := ⟨ps[k], List.getElem?_eq_getElem hlt⟩
   obtain ⟨g, rfl, hcl⟩ : ∃ g, a = some ⟨g, 0, none⟩ ∧ ∀ j u, x.L[j]? = some u → w.cell? ⟨g, k * 10 + j, none⟩ = some u := by
    obtain ⟨g, c', cur, hv, -⟩ := HR.out.real (fun e => by rw [e] at hlt; exact absurd hlt (Nat.not_lt_zero _))
    injection hv with e1
    subst e1
    exact ⟨g, rfl, fun j u hu => HR.out.cells hx j u hu⟩
   have hrg : wr.rangeAt g (k * 10) [.int .i64 x.f, .int .i64 x.t, .int .i64 x.tl, .int .i64 x.pr, .int .i64 x.id, .int .i64 x.fr, .bool x.mo, .bool x.dn, .string x.op, .string x.da] := fun j u hu => later (bt hb4 hb) (hcl j u hu)
   have hk1 : (k : Int) < (ps.length : Int) := by omega
   have hk3 : (0 : Int) ≤ (k : Int) := by omega
   have hxf := HF.out x (List.mem_of_getElem? hx)
   have g1 := hxf.f1
   have g0 := hxf.f0
   have gd : (x.da.size : Int) ≤ 65535 := hxf.dl
   have ge : 0 ≤ x.en ∧ x.en ≤ 200000 := by unfold Pk.en; omega
   obtain ⟨ge0, ge1⟩ := ge
   have hw8x : IntKind.i64.wrap (8 * x.fr) = 8 * x.fr := by rw [IntKind.wrap_i64]; omega
   have hw8p : IntKind.i64.wrap (8 * p.fr) = 8 * p.fr := by rw [IntKind.wrap_i64]; omega
   have HST : Hid (rfitB x p = true → ∀ y ∈ ps.take (k + 1), rfitB y p = true) := fun h y hy => by
    rw [takeL_snoc hx] at hy
    rcases List.mem_append.1 hy with hy | hy
    · exact hno y hy
    · rw [List.mem_singleton.1 hy]; exact h
   have HBAD : Hid (rfitB x p = false → res = false) := fun h => by rw [← HRES.out, HALL.out]; exact all_at hx h
   clear hx hcl hno
   go_upto_region 7 with (first
    | (refine wpList_load_mid rfl 32 _ rfl g (k * 10) (by first | rfl | simp) _ _ hrg Try.underlying32 rfl (by kernel_rfl) ?_)
    | (refine wpList_store_at rfl 32 _ _ rfl _ wr.heap.size #[.int .i64 0, .int .i64 0, .int .i64 0, .int .i64 0, .int .i64 0, .int .i64 0, .bool false, .bool false, .string ⟨#[]⟩, .string ⟨#[]⟩] #[.int .i64 x.f, .int .i64 x.t, .int .i64 x.tl, .int .i64 x.pr, .int .i64 x.id, .int .i64 x.fr, .bool x.mo, .bool x.dn, .string x.op, .string x.da] rfl rfl (At.box wr #[.int .i64 0, .int .i64 0, .int .i64 0, .int .i64 0, .int .i64 0, .int .i64 0, .bool false, .bool false, .string ⟨#[]⟩, .string ⟨#[]⟩] 32) rfl (by kernel_rfl) (by simp [Value.oneCell']) ?_; intro w5 hX5 ht5)
    | go_in)
   have q5 : Below wr.heap.size wr w5 := (bel1 wr (.cells #[.int .i64 0, .int .i64 0, .int .i64 0, .int .i64 0, .int .i64 0, .int .i64 0, .bool false, .bool false, .string ⟨#[]⟩, .string ⟨#[]⟩] 32)).trans (below_turn ht5 (Nat.le_refl _) (bel1 wr _).size)
   have hP5 := H0.out.later (bt hb q5)
   obtain ⟨xb, hxb⟩ : ∃ z, z = wr.heap.size := ⟨_, rfl⟩
   rw [← hxb] at hX5
   rw [← hxb]
   have hb5 := bt hb q5
   have HX5 : Hid (At w5 xb #[.int .i64 x.f, .int .i64 x.t, .int .i64 x.tl, .int .i64 x.pr, .int .i64 x.id, .int .i64 x.fr, .bool x.mo, .bool x.dn, .string x.op, .string x.da]) := hX5
   have HP5 : Hid (At w5 w.heap.size #[.int .i64 p.f, .int .i64 p.t, .int .i64 p.tl, .int .i64 p.pr, .int .i64 p.id, .int .i64 p.fr, .bool p.mo, .bool p.dn, .string p.op, .string p.da]) := hP5
   clear ht5 q5 hrg hxb hb
   try dsimp only [Act.put]
   go_cut [55] from 20 to 89 (fun s W => s = .bool (rovB x p) ∧ Below w5.heap.size w5 W)
   case first =>
    have hp0 : ∀ W, Below w5.heap.size w5 W → W.cell? ⟨w.heap.size, 0, none⟩ = some (.int .i64 p.f) := fun W hW => later hW (HP5.out.2 0 _ rfl).1
    have hp1 : ∀ W, Below w5.heap.size w5 W → W.cell? ⟨w.heap.size, 1, none⟩ = some (.int .i64 p.t) := fun W hW => later hW (HP5.out.2 1 _ rfl).1
    have hp2 : ∀ W, Below w5.heap.size w5 W → W.cell? ⟨w.heap.size, 2, none⟩ = some (.int .i64 p.tl) := fun W hW => later hW (HP5.out.2 2 _ rfl).1
    have hp3 : ∀ W, Below w5.heap.size w5 W → W.cell? ⟨w.heap.size, 3, none⟩ = some (.int .i64 p.pr) := fun W hW => later hW (HP5.out.2 3 _ rfl).1
    have hp4 : ∀ W, Below w5.heap.size w5 W → W.cell? ⟨w.heap.size, 4, none⟩ = some (.int .i64 p.id) := fun W hW => later hW (HP5.out.2 4 _ rfl).1
    have hp5 : ∀ W, Below w5.heap.size w5 W → W.cell? ⟨w.heap.size, 5, none⟩ = some (.int .i64 p.fr) := fun W hW => later hW (HP5.out.2 5 _ rfl).1
    have hp6 : ∀ W, Below w5.heap.size w5 W → W.cell? ⟨w.heap.size, 6, none⟩ = some (.bool p.mo) := fun W hW => later hW (HP5.out.2 6 _ rfl).1
    have hp7 : ∀ W, Below w5.heap.size w5 W → W.cell? ⟨w.heap.size, 7, none⟩ = some (.bool p.dn) := fun W hW => later hW (HP5.out.2 7 _ rfl).1
    have hp8 : ∀ W, Below w5.heap.size w5 W → W.cell? ⟨w.heap.size, 8, none⟩ = some (.string p.op) := fun W hW => later hW (HP5.out.2 8 _ rfl).1
    have hp9 : ∀ W, Below w5.heap.size w5 W → W.cell? ⟨w.heap.size, 9, none⟩ = some (.string p.da) := fun W hW => later hW (HP5.out.2 9 _ rfl).1
    have hx0 : ∀ W, Below w5.heap.size w5 W → W.cell? ⟨xb, 0, none⟩ = some (.int .i64 x.f) := fun W hW => later hW (HX5.out.2 0 _ rfl).1
    have hx1 : ∀ W, Below w5.heap.size w5 W → W.cell? ⟨xb, 1, none⟩ = some (.int .i64 x.t) := fun W hW => later hW (HX5.out.2 1 _ rfl).1
    have hx2 : ∀ W, Below w5.heap.size w5 W → W.cell? ⟨xb, 2, none⟩ = some (.int .i64 x.tl) := fun W hW => later hW (HX5.out.2 2 _ rfl).1
    have hx3 : ∀ W, Below w5.heap.size w5 W → W.cell? ⟨xb, 3, none⟩ = some (.int .i64 x.pr) := fun W hW => later hW (HX5.out.2 3 _ rfl).1
    have hx4 : ∀ W, Below w5.heap.size w5 W → W.cell? ⟨xb, 4, none⟩ = some (.int .i64 x.id) := fun W hW => later hW (HX5.out.2 4 _ rfl).1
    have hx5 : ∀ W, Below w5.heap.size w5 W → W.cell? ⟨xb, 5, none⟩ = some (.int .i64 x.fr) := fun W hW => later hW (HX5.out.2 5 _ rfl).1
    have hx6 : ∀ W, Below w5.heap.size w5 W → W.cell? ⟨xb, 6, none⟩ = some (.bool x.mo) := fun W hW => later hW (HX5.out.2 6 _ rfl).1
    have hx7 : ∀ W, Below w5.heap.size w5 W → W.cell? ⟨xb, 7, none⟩ = some (.bool x.dn) := fun W hW => later hW (HX5.out.2 7 _ rfl).1
    have hx8 : ∀ W, Below w5.heap.size w5 W → W.cell? ⟨xb, 8, none⟩ = some (.string x.op) := fun W hW => later hW (HX5.out.2 8 _ rfl).1
    have hx9 : ∀ W, Below w5.heap.size w5 W → W.cell? ⟨xb, 9, none⟩ = some (.string x.da) := fun W hW => later hW (HX5.out.2 9 _ rfl).1
    clear HX5 HP5 hX5 hP5
    by_cases h1 : 8 * x.fr < p.en
    ·
     by_cases h2 : 8 * p.fr < x.en
     ·
      by_cases h3 : 0 < x.da.size
      ·
       have h3b : (0 : Int) < (x.da.size : Int) := by omega
       have h3c : decide (0 < x.da.size) = true := decide_eq_true h3
       by_cases h4 : 0 < p.da.size
       ·
        have h4b : (0 : Int) < (p.da.size : Int) := by omega
        have h4c : decide (0 < p.da.size) = true := decide_eq_true h4
        have HV : Hid (rovB x p = true) := by show _ = _; unfold rovB; simp [h1, h2, h3, h4]
        refine wp_region_held_drew (S := (fun W => Below w5.heap.size w5 W)) (by kernel_rfl) ?_ (fun hHeld => ?_)
        · first | exact (Below.refl _ _).drew | assumption
        refine tk (i := 0) (oi := ⟨some 30, .fieldAddr 32 (.tmp 6) 5, 0, "ref.go:63", #[], none⟩) (v := .pointer (some ⟨xb, 5, none⟩)) rfl (by kernel_rfl) (fun _ _ _ h => h) (Or.inl ⟨by rfl, ?_⟩) (by assumption) ?_
        ·
         intro wx hSw
         go_simp
         try with_reducible rfl
        try simp only [Act.put, La1, La2, La3]
        refine tk (i := 1) (oi := ⟨some 31, .load 3 (.tmp 30), 3, "ref.go:63", #[⟨0, .data⟩], none⟩) (v := .int .i64 x.fr) rfl (by kernel_rfl) (fun _ _ _ h => h) (Or.inl ⟨by rfl, ?_⟩) (by assumption) ?_
        ·
         intro wx hSw
         try dsimp only at hSw
         have u5 := hp5 wx hSw
         have t5 := hx5 wx hSw
         go_simp
         try with_reducible rfl
        try simp only [Act.put, La1, La2, La3]
        refine tk (i := 2) (oi := ⟨some 32, .binOp .mul 3 (.const (.int .i64 8)) (.tmp 31) 3, 3, "ref.go:63", #[⟨1, .data⟩], none⟩) (v := .int .i64 (8 * x.fr)) rfl (by kernel_rfl) (fun _ _ _ h => h) (Or.inl ⟨by rfl, ?_⟩) (by assumption) ?_
        ·
         intro wx hSw
         go_simp
         try with_reducible rfl
        try simp only [Act.put, La1, La2, La3]
        refine tk (i := 3) (oi := ⟨some 33, .load 32 (.tmp 3), 32, "ref.go:63", #[], none⟩) (v := .agg #[.int .i64 p.f, .int .i64 p.t, .int .i64 p.tl, .int .i64 p.pr, .int .i64 p.id, .int .i64 p.fr, .bool p.mo, .bool p.dn, .string p.op, .string p.da]) rfl (by kernel_rfl) (fun _ _ _ h => h) (Or.inl ⟨by rfl, ?_⟩) (by assumption) ?_
        ·
         intro wx hSw
         try dsimp only at hSw
         have u0 := hp0 wx hSw
         have u1 := hp1 wx hSw
         have u2 := hp2 wx hSw
         have u3 := hp3 wx hSw
         have u4 := hp4 wx hSw
         have u5 := hp5 wx hSw
         have u6 := hp6 wx hSw
         have u7 := hp7 wx hSw
         have u8 := hp8 wx hSw
         have u9 := hp9 wx hSw
         have t0 := hx0 wx hSw
         have t1 := hx1 wx hSw
         have t2 := hx2 wx hSw
         have t3 := hx3 wx hSw
         have t4 := hx4 wx hSw
         have t5 := hx5 wx hSw
         have t6 := hx6 wx hSw
         have t7 := hx7 wx hSw
         have t8 := hx8 wx hSw
         have t9 := hx9 wx hSw
         go_simp
         try with_reducible rfl
        try simp only [Act.put, La1, La2, La3]
        refine wpAnyH_ready (rs := [4]) (by kernel_rfl) (by simp) ?_
        refine AllReadyH.cons (o := ⟨some 34, .call { callee := .value (.func 42), args := #[.tmp 33], argTypes := #[32] }, 3, "ref.go:63", #[⟨3, .data⟩], none⟩) rfl (fun K hK => ?_) AllReadyH.nil
        go_simp
        go_at_call 42
        refine (rend_any p _ hp).mono ?_
        rintro e wc1 ⟨rfl, hbc1⟩
        first
         | refine hK.out _ _ ?_ (fun hHeld => ?_)
         | (go_wp2_with fail; refine hK.out _ _ ?_ (fun hHeld => ?_))
        ·
         try dsimp only
         exact bt hHeld hbc1
        clear hK K
        try simp only [Act.put, La1, La2, La3]
        refine tk (i := 5) (oi := ⟨some 35, .binOp .lss 3 (.tmp 32) (.tmp 34) 3, 4, "ref.go:63", #[⟨2, .data⟩, ⟨4, .data⟩], none⟩) (v := .bool true) rfl (by kernel_rfl) (fun _ _ _ h => h) (Or.inl ⟨by rfl, ?_⟩) (by assumption) ?_
        ·
         intro wx hSw
         go_simp
         try with_reducible rfl
        try simp only [Act.put, La1, La2, La3]
        refine tk (i := 6) (oi := ⟨some 36, .move (.tmp 35), 4, "ref.go:63", #[⟨5, .data⟩, ⟨4, .chain⟩], none⟩) (v := .bool true) rfl (by kernel_rfl) (fun _ _ _ h => h) (Or.inl ⟨by rfl, ?_⟩) (by assumption) ?_
        ·
         intro wx hSw
         go_simp
         try with_reducible rfl
        try simp only [Act.put, La1, La2, La3]
        refine tk (i := 7) (oi := ⟨some 37, .fieldAddr 32 (.tmp 3) 5, 0, "ref.go:63", #[⟨6, .guard⟩], some (6, true)⟩) (v := .pointer (some ⟨w.heap.size, 5, none⟩)) rfl (by kernel_rfl) (fun _ _ _ h => h) (Or.inl ⟨by rfl, ?_⟩) (by assumption) ?_
        ·
         intro wx hSw
         go_simp
         try with_reducible rfl
        try simp only [Act.put, La1, La2, La3]
        refine tk (i := 8) (oi := ⟨some 38, .load 3 (.tmp 37), 3, "ref.go:63", #[⟨7, .data⟩, ⟨6, .guard⟩], some (6, true)⟩) (v := .int .i64 p.fr) rfl (by kernel_rfl) (fun _ _ _ h => h) (Or.inl ⟨by rfl, ?_⟩) (by assumption) ?_
        ·
         intro wx hSw
         try dsimp only at hSw
         have u5 := hp5 wx hSw
         have t5 := hx5 wx hSw
         go_simp
         try with_reducible rfl
        try simp only [Act.put, La1, La2, La3]
        refine tk (i := 9) (oi := ⟨some 39, .binOp .mul 3 (.const (.int .i64 8)) (.tmp 38) 3, 3, "ref.go:63", #[⟨8, .data⟩, ⟨6, .guard⟩], some (6, true)⟩) (v := .int .i64 (8 * p.fr)) rfl (by kernel_rfl) (fun _ _ _ h => h) (Or.inl ⟨by rfl, ?_⟩) (by assumption) ?_
        ·
         intro wx hSw
         go_simp
         try with_reducible rfl
        try simp only [Act.put, La1, La2, La3]
        refine tk (i := 10) (oi := ⟨some 40, .load 32 (.tmp 6), 32, "ref.go:63", #[⟨6, .guard⟩], some (6, true)⟩) (v := .agg #[.int .i64 x.f, .int .i64 x.t, .int .i64 x.tl, .int .i64 x.pr, .int .i64 x.id, .int .i64 x.fr, .bool x.mo, .bool x.dn, .string x.op, .string x.da]) rfl (by kernel_rfl) (fun _ _ _ h => h) (Or.inl ⟨by rfl, ?_⟩) (by assumption) ?_
        ·
         intro wx hSw
         try dsimp only at hSw
         have u0 := hp0 wx hSw
         have u1 := hp1 wx hSw
         have u2 := hp2 wx hSw
         have u3 := hp3 wx hSw
         have u4 := hp4 wx hSw
         have u5 := hp5 wx hSw
         have u6 := hp6 wx hSw
         have u7 := hp7 wx hSw
         have u8 := hp8 wx hSw
         have u9 := hp9 wx hSw
         have t0 := hx0 wx hSw
         have t1 := hx1 wx hSw
         have t2 := hx2 wx hSw
         have t3 := hx3 wx hSw
         have t4 := hx4 wx hSw
         have t5 := hx5 wx hSw
         have t6 := hx6 wx hSw
         have t7 := hx7 wx hSw
         have t8 := hx8 wx hSw
         have t9 := hx9 wx hSw
         go_simp
         try with_reducible rfl
        try simp only [Act.put, La1, La2, La3]
        refine wpAnyH_ready (rs := [11]) (by kernel_rfl) (by simp) ?_
        refine AllReadyH.cons (o := ⟨some 41, .call { callee := .value (.func 42), args := #[.tmp 40], argTypes := #[32] }, 3, "ref.go:63", #[⟨10, .data⟩, ⟨6, .chain⟩, ⟨6, .guard⟩], some (6, true)⟩) rfl (fun K hK => ?_) AllReadyH.nil
        go_simp
        go_at_call 42
        refine (rend_any x _ hxf).mono ?_
        rintro e wc2 ⟨rfl, hbc2⟩
        first
         | refine hK.out _ _ ?_ (fun hHeld => ?_)
         | (go_wp2_with fail; refine hK.out _ _ ?_ (fun hHeld => ?_))
        ·
         try dsimp only
         exact bt hHeld hbc2
        clear hK K
        try simp only [Act.put, La1, La2, La3]
        refine tk (i := 12) (oi := ⟨some 42, .binOp .lss 3 (.tmp 39) (.tmp 41) 3, 4, "ref.go:63", #[⟨9, .data⟩, ⟨11, .data⟩, ⟨6, .guard⟩], some (6, true)⟩) (v := .bool true) rfl (by kernel_rfl) (fun _ _ _ h => h) (Or.inl ⟨by rfl, ?_⟩) (by assumption) ?_
        ·
         intro wx hSw
         go_simp
         try with_reducible rfl
        try simp only [Act.put, La1, La2, La3]
        refine tk (i := 13) (oi := ⟨some 43, .pick (.tmp 36) (.tmp 42) (.const (.bool false)), 4, "ref.go:63", #[⟨6, .data⟩, ⟨12, .data⟩], none⟩) (v := .bool true) rfl (by kernel_rfl) (fun _ _ _ h => h) (Or.inl ⟨by rfl, ?_⟩) (by assumption) ?_
        ·
         intro wx hSw
         go_simp
         try with_reducible rfl
        try simp only [Act.put, La1, La2, La3]
        refine tk (i := 14) (oi := ⟨some 44, .move (.tmp 43), 4, "ref.go:63", #[⟨13, .data⟩, ⟨11, .chain⟩], none⟩) (v := .bool true) rfl (by kernel_rfl) (fun _ _ _ h => h) (Or.inl ⟨by rfl, ?_⟩) (by assumption) ?_
        ·
         intro wx hSw
         go_simp
         try with_reducible rfl
        try simp only [Act.put, La1, La2, La3]
        refine tk (i := 15) (oi := ⟨some 45, .fieldAddr 32 (.tmp 6) 9, 0, "ref.go:63", #[⟨14, .guard⟩], some (14, true)⟩) (v := .pointer (some ⟨xb, 9, none⟩)) rfl (by kernel_rfl) (fun _ _ _ h => h) (Or.inl ⟨by rfl, ?_⟩) (by assumption) ?_
        ·
         intro wx hSw
         go_simp
         try with_reducible rfl
        try simp only [Act.put, La1, La2, La3]
        refine tk (i := 16) (oi := ⟨some 46, .load 9 (.tmp 45), 9, "ref.go:63", #[⟨15, .data⟩, ⟨14, .guard⟩], some (14, true)⟩) (v := .string x.da) rfl (by kernel_rfl) (fun _ _ _ h => h) (Or.inl ⟨by rfl, ?_⟩) (by assumption) ?_
        ·
         intro wx hSw
         try dsimp only at hSw
         have u9 := hp9 wx hSw
         have t9 := hx9 wx hSw
         go_simp
         try with_reducible rfl
        try simp only [Act.put, La1, La2, La3]
        refine tk (i := 17) (oi := ⟨some 47, .call { callee := .builtin .len, args := #[.tmp 46], argTypes := #[9] }, 3, "ref.go:63", #[⟨16, .data⟩, ⟨14, .guard⟩], some (14, true)⟩) (v := .int .i64 (x.da.size : Int)) rfl (by kernel_rfl) (fun _ _ _ h => h) (Or.inl ⟨by rfl, ?_⟩) (by assumption) ?_
        ·
         intro wx hSw
         try dsimp only at hSw
         have u0 := hp0 wx hSw
         have u1 := hp1 wx hSw
         have u2 := hp2 wx hSw
         have u3 := hp3 wx hSw
         have u4 := hp4 wx hSw
         have u5 := hp5 wx hSw
         have u6 := hp6 wx hSw
         have u7 := hp7 wx hSw
         have u8 := hp8 wx hSw
         have u9 := hp9 wx hSw
         have t0 := hx0 wx hSw
         have t1 := hx1 wx hSw
         have t2 := hx2 wx hSw
         have t3 := hx3 wx hSw
         have t4 := hx4 wx hSw
         have t5 := hx5 wx hSw
         have t6 := hx6 wx hSw
         have t7 := hx7 wx hSw
         have t8 := hx8 wx hSw
         have t9 := hx9 wx hSw
         go_simp
         try with_reducible rfl
        try simp only [Act.put, La1, La2, La3]
        refine tk (i := 18) (oi := ⟨some 48, .binOp .gtr 3 (.tmp 47) (.const (.int .i64 0)) 3, 4, "ref.go:63", #[⟨17, .data⟩, ⟨14, .guard⟩], some (14, true)⟩) (v := .bool true) rfl (by kernel_rfl) (fun _ _ _ h => h) (Or.inl ⟨by rfl, ?_⟩) (by assumption) ?_
        ·
         intro wx hSw
         go_simp
         try with_reducible rfl
        try simp only [Act.put, La1, La2, La3]
        refine tk (i := 19) (oi := ⟨some 49, .pick (.tmp 44) (.tmp 48) (.const (.bool false)), 4, "ref.go:63", #[⟨14, .data⟩, ⟨18, .data⟩], none⟩) (v := .bool true) rfl (by kernel_rfl) (fun _ _ _ h => h) (Or.inl ⟨by rfl, ?_⟩) (by assumption) ?_
        ·
         intro wx hSw
         go_simp
         try with_reducible rfl
        try simp only [Act.put, La1, La2, La3]
        refine tk (i := 20) (oi := ⟨some 50, .move (.tmp 49), 4, "ref.go:63", #[⟨19, .data⟩, ⟨14, .chain⟩], none⟩) (v := .bool true) rfl (by kernel_rfl) (fun _ _ _ h => h) (Or.inl ⟨by rfl, ?_⟩) (by assumption) ?_
        ·
         intro wx hSw
         go_simp
         try with_reducible rfl
        try simp only [Act.put, La1, La2, La3]
        refine tk (i := 21) (oi := ⟨some 51, .fieldAddr 32 (.tmp 3) 9, 0, "ref.go:63", #[⟨20, .guard⟩], some (20, true)⟩) (v := .pointer (some ⟨w.heap.size, 9, none⟩)) rfl (by kernel_rfl) (fun _ _ _ h => h) (Or.inl ⟨by rfl, ?_⟩) (by assumption) ?_
        ·
         intro wx hSw
         go_simp
         try with_reducible rfl
        try simp only [Act.put, La1, La2, La3]
        refine tk (i := 22) (oi := ⟨some 52, .load 9 (.tmp 51), 9, "ref.go:63", #[⟨21, .data⟩, ⟨20, .guard⟩], some (20, true)⟩) (v := .string p.da) rfl (by kernel_rfl) (fun _ _ _ h => h) (Or.inl ⟨by rfl, ?_⟩) (by assumption) ?_
        ·
         intro wx hSw
         try dsimp only at hSw
         have u9 := hp9 wx hSw
         have t9 := hx9 wx hSw
         go_simp
         try with_reducible rfl
        try simp only [Act.put, La1, La2, La3]
        refine tk (i := 23) (oi := ⟨some 53, .call { callee := .builtin .len, args := #[.tmp 52], argTypes := #[9] }, 3, "ref.go:63", #[⟨22, .data⟩, ⟨20, .guard⟩], some (20, true)⟩) (v := .int .i64 (p.da.size : Int)) rfl (by kernel_rfl) (fun _ _ _ h => h) (Or.inl ⟨by rfl, ?_⟩) (by assumption) ?_
        ·
         intro wx hSw
         try dsimp only at hSw
         have u0 := hp0 wx hSw
         have u1 := hp1 wx hSw
         have u2 := hp2 wx hSw
         have u3 := hp3 wx hSw
         have u4 := hp4 wx hSw
         have u5 := hp5 wx hSw
         have u6 := hp6 wx hSw
         have u7 := hp7 wx hSw
         have u8 := hp8 wx hSw
         have u9 := hp9 wx hSw
         have t0 := hx0 wx hSw
         have t1 := hx1 wx hSw
         have t2 := hx2 wx hSw
         have t3 := hx3 wx hSw
         have t4 := hx4 wx hSw
         have t5 := hx5 wx hSw
         have t6 := hx6 wx hSw
         have t7 := hx7 wx hSw
         have t8 := hx8 wx hSw
         have t9 := hx9 wx hSw
         go_simp
         try with_reducible rfl
        try simp only [Act.put, La1, La2, La3]
        refine tk (i := 24) (oi := ⟨some 54, .binOp .gtr 3 (.tmp 53) (.const (.int .i64 0)) 3, 4, "ref.go:63", #[⟨23, .data⟩, ⟨20, .guard⟩], some (20, true)⟩) (v := .bool true) rfl (by kernel_rfl) (fun _ _ _ h => h) (Or.inl ⟨by rfl, ?_⟩) (by assumption) ?_
        ·
         intro wx hSw
         go_simp
         try with_reducible rfl
        try simp only [Act.put, La1, La2, La3]
        refine tk (i := 25) (oi := ⟨some 55, .pick (.tmp 50) (.tmp 54) (.const (.bool false)), 4, "ref.go:63", #[⟨20, .data⟩, ⟨24, .data⟩], none⟩) (v := .bool true) rfl (by kernel_rfl) (fun _ _ _ h => h) (Or.inl ⟨by rfl, ?_⟩) (by assumption) ?_
        ·
         intro wx hSw
         go_simp
         try with_reducible rfl
        try simp only [Act.put, La1, La2, La3]
        refine wpAnyH_done (by kernel_rfl) ?_ _
        go_wp2
        go_meet
        case rel => exact ⟨by rw [HV.out], hHeld⟩
       ·
        have h4b : ¬ (0 : Int) < (p.da.size : Int) := by omega
        have h4c : decide (0 < p.da.size) = false := decide_eq_false h4
        have HV : Hid (rovB x p = false) := by show _ = _; unfold rovB; simp [h1, h2, h3, h4c]
        refine wp_region_held_drew (S := (fun W => Below w5.heap.size w5 W)) (by kernel_rfl) ?_ (fun hHeld => ?_)
        · first | exact (Below.refl _ _).drew | assumption
        refine tk (i := 0) (oi := ⟨some 30, .fieldAddr 32 (.tmp 6) 5, 0, "ref.go:63", #[], none⟩) (v := .pointer (some ⟨xb, 5, none⟩)) rfl (by kernel_rfl) (fun _ _ _ h => h) (Or.inl ⟨by rfl, ?_⟩) (by assumption) ?_
        ·
         intro wx hSw
         go_simp
         try with_reducible rfl
        try simp only [Act.put, La1, La2, La3]
        refine tk (i := 1) (oi := ⟨some 31, .load 3 (.tmp 30), 3, "ref.go:63", #[⟨0, .data⟩], none⟩) (v := .int .i64 x.fr) rfl (by kernel_rfl) (fun _ _ _ h => h) (Or.inl ⟨by rfl, ?_⟩) (by assumption) ?_
        ·
         intro wx hSw
         try dsimp only at hSw
         have u5 := hp5 wx hSw
         have t5 := hx5 wx hSw
         go_simp
         try with_reducible rfl
        try simp only [Act.put, La1, La2, La3]
        refine tk (i := 2) (oi := ⟨some 32, .binOp .mul 3 (.const (.int .i64 8)) (.tmp 31) 3, 3, "ref.go:63", #[⟨1, .data⟩], none⟩) (v := .int .i64 (8 * x.fr)) rfl (by kernel_rfl) (fun _ _ _ h => h) (Or.inl ⟨by rfl, ?_⟩) (by assumption) ?_
        ·
         intro wx hSw
         go_simp
         try with_reducible rfl
        try simp only [Act.put, La1, La2, La3]
        refine tk (i := 3) (oi := ⟨some 33, .load 32 (.tmp 3), 32, "ref.go:63", #[], none⟩) (v := .agg #[.int .i64 p.f, .int .i64 p.t, .int .i64 p.tl, .int .i64 p.pr, .int .i64 p.id, .int .i64 p.fr, .bool p.mo, .bool p.dn, .string p.op, .string p.da]) rfl (by kernel_rfl) (fun _ _ _ h => h) (Or.inl ⟨by rfl, ?_⟩) (by assumption) ?_
        ·
         intro wx hSw
         try dsimp only at hSw
         have u0 := hp0 wx hSw
         have u1 := hp1 wx hSw
         have u2 := hp2 wx hSw
         have u3 := hp3 wx hSw
         have u4 := hp4 wx hSw
         have u5 := hp5 wx hSw
         have u6 := hp6 wx hSw
         have u7 := hp7 wx hSw
         have u8 := hp8 wx hSw
         have u9 := hp9 wx hSw
         have t0 := hx0 wx hSw
         have t1 := hx1 wx hSw
         have t2 := hx2 wx hSw
         have t3 := hx3 wx hSw
         have t4 := hx4 wx hSw
         have t5 := hx5 wx hSw
         have t6 := hx6 wx hSw
         have t7 := hx7 wx hSw
         have t8 := hx8 wx hSw
         have t9 := hx9 wx hSw
         go_simp
         try with_reducible rfl
        try simp only [Act.put, La1, La2, La3]
        refine wpAnyH_ready (rs := [4]) (by kernel_rfl) (by simp) ?_
        refine AllReadyH.cons (o := ⟨some 34, .call { callee := .value (.func 42), args := #[.tmp 33], argTypes := #[32] }, 3, "ref.go:63", #[⟨3, .data⟩], none⟩) rfl (fun K hK => ?_) AllReadyH.nil
        go_simp
        go_at_call 42
        refine (rend_any p _ hp).mono ?_
        rintro e wc1 ⟨rfl, hbc1⟩
        first
         | refine hK.out _ _ ?_ (fun hHeld => ?_)
         | (go_wp2_with fail; refine hK.out _ _ ?_ (fun hHeld => ?_))
        ·
         try dsimp only
         exact bt hHeld hbc1
        clear hK K
        try simp only [Act.put, La1, La2, La3]
        refine tk (i := 5) (oi := ⟨some 35, .binOp .lss 3 (.tmp 32) (.tmp 34) 3, 4, "ref.go:63", #[⟨2, .data⟩, ⟨4, .data⟩], none⟩) (v := .bool true) rfl (by kernel_rfl) (fun _ _ _ h => h) (Or.inl ⟨by rfl, ?_⟩) (by assumption) ?_
        ·
         intro wx hSw
         go_simp
         try with_reducible rfl
        try simp only [Act.put, La1, La2, La3]
        refine tk (i := 6) (oi := ⟨some 36, .move (.tmp 35), 4, "ref.go:63", #[⟨5, .data⟩, ⟨4, .chain⟩], none⟩) (v := .bool true) rfl (by kernel_rfl) (fun _ _ _ h => h) (Or.inl ⟨by rfl, ?_⟩) (by assumption) ?_
        ·
         intro wx hSw
         go_simp
         try with_reducible rfl
        try simp only [Act.put, La1, La2, La3]
        refine tk (i := 7) (oi := ⟨some 37, .fieldAddr 32 (.tmp 3) 5, 0, "ref.go:63", #[⟨6, .guard⟩], some (6, true)⟩) (v := .pointer (some ⟨w.heap.size, 5, none⟩)) rfl (by kernel_rfl) (fun _ _ _ h => h) (Or.inl ⟨by rfl, ?_⟩) (by assumption) ?_
        ·
         intro wx hSw
         go_simp
         try with_reducible rfl
        try simp only [Act.put, La1, La2, La3]
        refine tk (i := 8) (oi := ⟨some 38, .load 3 (.tmp 37), 3, "ref.go:63", #[⟨7, .data⟩, ⟨6, .guard⟩], some (6, true)⟩) (v := .int .i64 p.fr) rfl (by kernel_rfl) (fun _ _ _ h => h) (Or.inl ⟨by rfl, ?_⟩) (by assumption) ?_
        ·
         intro wx hSw
         try dsimp only at hSw
         have u5 := hp5 wx hSw
         have t5 := hx5 wx hSw
         go_simp
         try with_reducible rfl
        try simp only [Act.put, La1, La2, La3]
        refine tk (i := 9) (oi := ⟨some 39, .binOp .mul 3 (.const (.int .i64 8)) (.tmp 38) 3, 3, "ref.go:63", #[⟨8, .data⟩, ⟨6, .guard⟩], some (6, true)⟩) (v := .int .i64 (8 * p.fr)) rfl (by kernel_rfl) (fun _ _ _ h => h) (Or.inl ⟨by rfl, ?_⟩) (by assumption) ?_
        ·
         intro wx hSw
         go_simp
         try with_reducible rfl
        try simp only [Act.put, La1, La2, La3]
        refine tk (i := 10) (oi := ⟨some 40, .load 32 (.tmp 6), 32, "ref.go:63", #[⟨6, .guard⟩], some (6, true)⟩) (v := .agg #[.int .i64 x.f, .int .i64 x.t, .int .i64 x.tl, .int .i64 x.pr, .int .i64 x.id, .int .i64 x.fr, .bool x.mo, .bool x.dn, .string x.op, .string x.da]) rfl (by kernel_rfl) (fun _ _ _ h => h) (Or.inl ⟨by rfl, ?_⟩) (by assumption) ?_
        ·
         intro wx hSw
         try dsimp only at hSw
         have u0 := hp0 wx hSw
         have u1 := hp1 wx hSw
         have u2 := hp2 wx hSw
         have u3 := hp3 wx hSw
         have u4 := hp4 wx hSw
         have u5 := hp5 wx hSw
         have u6 := hp6 wx hSw
         have u7 := hp7 wx hSw
         have u8 := hp8 wx hSw
         have u9 := hp9 wx hSw
         have t0 := hx0 wx hSw
         have t1 := hx1 wx hSw
         have t2 := hx2 wx hSw
         have t3 := hx3 wx hSw
         have t4 := hx4 wx hSw
         have t5 := hx5 wx hSw
         have t6 := hx6 wx hSw
         have t7 := hx7 wx hSw
         have t8 := hx8 wx hSw
         have t9 := hx9 wx hSw
         go_simp
         try with_reducible rfl
        try simp only [Act.put, La1, La2, La3]
        refine wpAnyH_ready (rs := [11]) (by kernel_rfl) (by simp) ?_
        refine AllReadyH.cons (o := ⟨some 41, .call { callee := .value (.func 42), args := #[.tmp 40], argTypes := #[32] }, 3, "ref.go:63", #[⟨10, .data⟩, ⟨6, .chain⟩, ⟨6, .guard⟩], some (6, true)⟩) rfl (fun K hK => ?_) AllReadyH.nil
        go_simp
        go_at_call 42
        refine (rend_any x _ hxf).mono ?_
        rintro e wc2 ⟨rfl, hbc2⟩
        first
         | refine hK.out _ _ ?_ (fun hHeld => ?_)
         | (go_wp2_with fail; refine hK.out _ _ ?_ (fun hHeld => ?_))
        ·
         try dsimp only
         exact bt hHeld hbc2
        clear hK K
        try simp only [Act.put, La1, La2, La3]
        refine tk (i := 12) (oi := ⟨some 42, .binOp .lss 3 (.tmp 39) (.tmp 41) 3, 4, "ref.go:63", #[⟨9, .data⟩, ⟨11, .data⟩, ⟨6, .guard⟩], some (6, true)⟩) (v := .bool true) rfl (by kernel_rfl) (fun _ _ _ h => h) (Or.inl ⟨by rfl, ?_⟩) (by assumption) ?_
        ·
         intro wx hSw
         go_simp
         try with_reducible rfl
        try simp only [Act.put, La1, La2, La3]
        refine tk (i := 13) (oi := ⟨some 43, .pick (.tmp 36) (.tmp 42) (.const (.bool false)), 4, "ref.go:63", #[⟨6, .data⟩, ⟨12, .data⟩], none⟩) (v := .bool true) rfl (by kernel_rfl) (fun _ _ _ h => h) (Or.inl ⟨by rfl, ?_⟩) (by assumption) ?_
        ·
         intro wx hSw
         go_simp
         try with_reducible rfl
        try simp only [Act.put, La1, La2, La3]
        refine tk (i := 14) (oi := ⟨some 44, .move (.tmp 43), 4, "ref.go:63", #[⟨13, .data⟩, ⟨11, .chain⟩], none⟩) (v := .bool true) rfl (by kernel_rfl) (fun _ _ _ h => h) (Or.inl ⟨by rfl, ?_⟩) (by assumption) ?_
        ·
         intro wx hSw
         go_simp
         try with_reducible rfl
        try simp only [Act.put, La1, La2, La3]
        refine tk (i := 15) (oi := ⟨some 45, .fieldAddr 32 (.tmp 6) 9, 0, "ref.go:63", #[⟨14, .guard⟩], some (14, true)⟩) (v := .pointer (some ⟨xb, 9, none⟩)) rfl (by kernel_rfl) (fun _ _ _ h => h) (Or.inl ⟨by rfl, ?_⟩) (by assumption) ?_
        ·
         intro wx hSw
         go_simp
         try with_reducible rfl
        try simp only [Act.put, La1, La2, La3]
        refine tk (i := 16) (oi := ⟨some 46, .load 9 (.tmp 45), 9, "ref.go:63", #[⟨15, .data⟩, ⟨14, .guard⟩], some (14, true)⟩) (v := .string x.da) rfl (by kernel_rfl) (fun _ _ _ h => h) (Or.inl ⟨by rfl, ?_⟩) (by assumption) ?_
        ·
         intro wx hSw
         try dsimp only at hSw
         have u9 := hp9 wx hSw
         have t9 := hx9 wx hSw
         go_simp
         try with_reducible rfl
        try simp only [Act.put, La1, La2, La3]
        refine tk (i := 17) (oi := ⟨some 47, .call { callee := .builtin .len, args := #[.tmp 46], argTypes := #[9] }, 3, "ref.go:63", #[⟨16, .data⟩, ⟨14, .guard⟩], some (14, true)⟩) (v := .int .i64 (x.da.size : Int)) rfl (by kernel_rfl) (fun _ _ _ h => h) (Or.inl ⟨by rfl, ?_⟩) (by assumption) ?_
        ·
         intro wx hSw
         try dsimp only at hSw
         have u0 := hp0 wx hSw
         have u1 := hp1 wx hSw
         have u2 := hp2 wx hSw
         have u3 := hp3 wx hSw
         have u4 := hp4 wx hSw
         have u5 := hp5 wx hSw
         have u6 := hp6 wx hSw
         have u7 := hp7 wx hSw
         have u8 := hp8 wx hSw
         have u9 := hp9 wx hSw
         have t0 := hx0 wx hSw
         have t1 := hx1 wx hSw
         have t2 := hx2 wx hSw
         have t3 := hx3 wx hSw
         have t4 := hx4 wx hSw
         have t5 := hx5 wx hSw
         have t6 := hx6 wx hSw
         have t7 := hx7 wx hSw
         have t8 := hx8 wx hSw
         have t9 := hx9 wx hSw
         go_simp
         try with_reducible rfl
        try simp only [Act.put, La1, La2, La3]
        refine tk (i := 18) (oi := ⟨some 48, .binOp .gtr 3 (.tmp 47) (.const (.int .i64 0)) 3, 4, "ref.go:63", #[⟨17, .data⟩, ⟨14, .guard⟩], some (14, true)⟩) (v := .bool true) rfl (by kernel_rfl) (fun _ _ _ h => h) (Or.inl ⟨by rfl, ?_⟩) (by assumption) ?_
        ·
         intro wx hSw
         go_simp
         try with_reducible rfl
        try simp only [Act.put, La1, La2, La3]
        refine tk (i := 19) (oi := ⟨some 49, .pick (.tmp 44) (.tmp 48) (.const (.bool false)), 4, "ref.go:63", #[⟨14, .data⟩, ⟨18, .data⟩], none⟩) (v := .bool true) rfl (by kernel_rfl) (fun _ _ _ h => h) (Or.inl ⟨by rfl, ?_⟩) (by assumption) ?_
        ·
         intro wx hSw
         go_simp
         try with_reducible rfl
        try simp only [Act.put, La1, La2, La3]
        refine tk (i := 20) (oi := ⟨some 50, .move (.tmp 49), 4, "ref.go:63", #[⟨19, .data⟩, ⟨14, .chain⟩], none⟩) (v := .bool true) rfl (by kernel_rfl) (fun _ _ _ h => h) (Or.inl ⟨by rfl, ?_⟩) (by assumption) ?_
        ·
         intro wx hSw
         go_simp
         try with_reducible rfl
        try simp only [Act.put, La1, La2, La3]
        refine tk (i := 21) (oi := ⟨some 51, .fieldAddr 32 (.tmp 3) 9, 0, "ref.go:63", #[⟨20, .guard⟩], some (20, true)⟩) (v := .pointer (some ⟨w.heap.size, 9, none⟩)) rfl (by kernel_rfl) (fun _ _ _ h => h) (Or.inl ⟨by rfl, ?_⟩) (by assumption) ?_
        ·
         intro wx hSw
         go_simp
         try with_reducible rfl
        try simp only [Act.put, La1, La2, La3]
        refine tk (i := 22) (oi := ⟨some 52, .load 9 (.tmp 51), 9, "ref.go:63", #[⟨21, .data⟩, ⟨20, .guard⟩], some (20, true)⟩) (v := .string p.da) rfl (by kernel_rfl) (fun _ _ _ h => h) (Or.inl ⟨by rfl, ?_⟩) (by assumption) ?_
        ·
         intro wx hSw
         try dsimp only at hSw
         have u9 := hp9 wx hSw
         have t9 := hx9 wx hSw
         go_simp
         try with_reducible rfl
        try simp only [Act.put, La1, La2, La3]
        refine tk (i := 23) (oi := ⟨some 53, .call { callee := .builtin .len, args := #[.tmp 52], argTypes := #[9] }, 3, "ref.go:63", #[⟨22, .data⟩, ⟨20, .guard⟩], some (20, true)⟩) (v := .int .i64 (p.da.size : Int)) rfl (by kernel_rfl) (fun _ _ _ h => h) (Or.inl ⟨by rfl, ?_⟩) (by assumption) ?_
        ·
         intro wx hSw
         try dsimp only at hSw
         have u0 := hp0 wx hSw
         have u1 := hp1 wx hSw
         have u2 := hp2 wx hSw
         have u3 := hp3 wx hSw
         have u4 := hp4 wx hSw
         have u5 := hp5 wx hSw
         have u6 := hp6 wx hSw
         have u7 := hp7 wx hSw
         have u8 := hp8 wx hSw
         have u9 := hp9 wx hSw
         have t0 := hx0 wx hSw
         have t1 := hx1 wx hSw
         have t2 := hx2 wx hSw
         have t3 := hx3 wx hSw
         have t4 := hx4 wx hSw
         have t5 := hx5 wx hSw
         have t6 := hx6 wx hSw
         have t7 := hx7 wx hSw
         have t8 := hx8 wx hSw
         have t9 := hx9 wx hSw
         go_simp
         try with_reducible rfl
        try simp only [Act.put, La1, La2, La3]
        refine tk (i := 24) (oi := ⟨some 54, .binOp .gtr 3 (.tmp 53) (.const (.int .i64 0)) 3, 4, "ref.go:63", #[⟨23, .data⟩, ⟨20, .guard⟩], some (20, true)⟩) (v := .bool false) rfl (by kernel_rfl) (fun _ _ _ h => h) (Or.inl ⟨by rfl, ?_⟩) (by assumption) ?_
        ·
         intro wx hSw
         go_simp
         try with_reducible rfl
        try simp only [Act.put, La1, La2, La3]
        refine tk (i := 25) (oi := ⟨some 55, .pick (.tmp 50) (.tmp 54) (.const (.bool false)), 4, "ref.go:63", #[⟨20, .data⟩, ⟨24, .data⟩], none⟩) (v := .bool false) rfl (by kernel_rfl) (fun _ _ _ h => h) (Or.inl ⟨by rfl, ?_⟩) (by assumption) ?_
        ·
         intro wx hSw
         go_simp
         try with_reducible rfl
        try simp only [Act.put, La1, La2, La3]
        refine wpAnyH_done (by kernel_rfl) ?_ _
        go_wp2
        go_meet
        case rel => exact ⟨by rw [HV.out], hHeld⟩
      ·
       have h3b : ¬ (0 : Int) < (x.da.size : Int) := by omega
       have h3c : decide (0 < x.da.size) = false := decide_eq_false h3
       have HV : Hid (rovB x p = false) := by show _ = _; unfold rovB; simp [h1, h2, h3c]
       refine wp_region_held_drew (S := (fun W => Below w5.heap.size w5 W)) (by kernel_rfl) ?_ (fun hHeld => ?_)
       · first | exact (Below.refl _ _).drew | assumption
       refine tk (i := 0) (oi := ⟨some 30, .fieldAddr 32 (.tmp 6) 5, 0, "ref.go:63", #[], none⟩) (v := .pointer (some ⟨xb, 5, none⟩)) rfl (by kernel_rfl) (fun _ _ _ h => h) (Or.inl ⟨by rfl, ?_⟩) (by assumption) ?_
       ·
        intro wx hSw
        go_simp
        try with_reducible rfl
       try simp only [Act.put, La1, La2, La3]
       refine tk (i := 1) (oi := ⟨some 31, .load 3 (.tmp 30), 3, "ref.go:63", #[⟨0, .data⟩], none⟩) (v := .int .i64 x.fr) rfl (by kernel_rfl) (fun _ _ _ h => h) (Or.inl ⟨by rfl, ?_⟩) (by assumption) ?_
       ·
        intro wx hSw
        try dsimp only at hSw
        have u5 := hp5 wx hSw
        have t5 := hx5 wx hSw
        go_simp
        try with_reducible rfl
       try simp only [Act.put, La1, La2, La3]
       refine tk (i := 2) (oi := ⟨some 32, .binOp .mul 3 (.const (.int .i64 8)) (.tmp 31) 3, 3, "ref.go:63", #[⟨1, .data⟩], none⟩) (v := .int .i64 (8 * x.fr)) rfl (by kernel_rfl) (fun _ _ _ h => h) (Or.inl ⟨by rfl, ?_⟩) (by assumption) ?_
       ·
        intro wx hSw
        go_simp
        try with_reducible rfl
       try simp only [Act.put, La1, La2, La3]
       refine tk (i := 3) (oi := ⟨some 33, .load 32 (.tmp 3), 32, "ref.go:63", #[], none⟩) (v := .agg #[.int .i64 p.f, .int .i64 p.t, .int .i64 p.tl, .int .i64 p.pr, .int .i64 p.id, .int .i64 p.fr, .bool p.mo, .bool p.dn, .string p.op, .string p.da]) rfl (by kernel_rfl) (fun _ _ _ h => h) (Or.inl ⟨by rfl, ?_⟩) (by assumption) ?_
       ·
        intro wx hSw
        try dsimp only at hSw
        have u0 := hp0 wx hSw
        have u1 := hp1 wx hSw
        have u2 := hp2 wx hSw
        have u3 := hp3 wx hSw
        have u4 := hp4 wx hSw
        have u5 := hp5 wx hSw
        have u6 := hp6 wx hSw
        have u7 := hp7 wx hSw
        have u8 := hp8 wx hSw
        have u9 := hp9 wx hSw
        have t0 := hx0 wx hSw
        have t1 := hx1 wx hSw
        have t2 := hx2 wx hSw
        have t3 := hx3 wx hSw
        have t4 := hx4 wx hSw
        have t5 := hx5 wx hSw
        have t6 := hx6 wx hSw
        have t7 := hx7 wx hSw
        have t8 := hx8 wx hSw
        have t9 := hx9 wx hSw
        go_simp
        try with_reducible rfl
       try simp only [Act.put, La1, La2, La3]
       refine wpAnyH_ready (rs := [4]) (by kernel_rfl) (by simp) ?_
       refine AllReadyH.cons (o := ⟨some 34, .call { callee := .value (.func 42), args := #[.tmp 33], argTypes := #[32] }, 3, "ref.go:63", #[⟨3, .data⟩], none⟩) rfl (fun K hK => ?_) AllReadyH.nil
       go_simp
       go_at_call 42
       refine (rend_any p _ hp).mono ?_
       rintro e wc1 ⟨rfl, hbc1⟩
       first
        | refine hK.out _ _ ?_ (fun hHeld => ?_)
        | (go_wp2_with fail; refine hK.out _ _ ?_ (fun hHeld => ?_))
       ·
        try dsimp only
        exact bt hHeld hbc1
       clear hK K
       try simp only [Act.put, La1, La2, La3]
       refine tk (i := 5) (oi := ⟨some 35, .binOp .lss 3 (.tmp 32) (.tmp 34) 3, 4, "ref.go:63", #[⟨2, .data⟩, ⟨4, .data⟩], none⟩) (v := .bool true) rfl (by kernel_rfl) (fun _ _ _ h => h) (Or.inl ⟨by rfl, ?_⟩) (by assumption) ?_
       ·
        intro wx hSw
        go_simp
        try with_reducible rfl
       try simp only [Act.put, La1, La2, La3]
       refine tk (i := 6) (oi := ⟨some 36, .move (.tmp 35), 4, "ref.go:63", #[⟨5, .data⟩, ⟨4, .chain⟩], none⟩) (v := .bool true) rfl (by kernel_rfl) (fun _ _ _ h => h) (Or.inl ⟨by rfl, ?_⟩) (by assumption) ?_
       ·
        intro wx hSw
        go_simp
        try with_reducible rfl
       try simp only [Act.put, La1, La2, La3]
       refine tk (i := 7) (oi := ⟨some 37, .fieldAddr 32 (.tmp 3) 5, 0, "ref.go:63", #[⟨6, .guard⟩], some (6, true)⟩) (v := .pointer (some ⟨w.heap.size, 5, none⟩)) rfl (by kernel_rfl) (fun _ _ _ h => h) (Or.inl ⟨by rfl, ?_⟩) (by assumption) ?_
       ·
        intro wx hSw
        go_simp
        try with_reducible rfl
       try simp only [Act.put, La1, La2, La3]
       refine tk (i := 8) (oi := ⟨some 38, .load 3 (.tmp 37), 3, "ref.go:63", #[⟨7, .data⟩, ⟨6, .guard⟩], some (6, true)⟩) (v := .int .i64 p.fr) rfl (by kernel_rfl) (fun _ _ _ h => h) (Or.inl ⟨by rfl, ?_⟩) (by assumption) ?_
       ·
        intro wx hSw
        try dsimp only at hSw
        have u5 := hp5 wx hSw
        have t5 := hx5 wx hSw
        go_simp
        try with_reducible rfl
       try simp only [Act.put, La1, La2, La3]
       refine tk (i := 9) (oi := ⟨some 39, .binOp .mul 3 (.const (.int .i64 8)) (.tmp 38) 3, 3, "ref.go:63", #[⟨8, .data⟩, ⟨6, .guard⟩], some (6, true)⟩) (v := .int .i64 (8 * p.fr)) rfl (by kernel_rfl) (fun _ _ _ h => h) (Or.inl ⟨by rfl, ?_⟩) (by assumption) ?_
       ·
        intro wx hSw
        go_simp
        try with_reducible rfl
       try simp only [Act.put, La1, La2, La3]
       refine tk (i := 10) (oi := ⟨some 40, .load 32 (.tmp 6), 32, "ref.go:63", #[⟨6, .guard⟩], some (6, true)⟩) (v := .agg #[.int .i64 x.f, .int .i64 x.t, .int .i64 x.tl, .int .i64 x.pr, .int .i64 x.id, .int .i64 x.fr, .bool x.mo, .bool x.dn, .string x.op, .string x.da]) rfl (by kernel_rfl) (fun _ _ _ h => h) (Or.inl ⟨by rfl, ?_⟩) (by assumption) ?_
       ·
        intro wx hSw
        try dsimp only at hSw
        have u0 := hp0 wx hSw
        have u1 := hp1 wx hSw
        have u2 := hp2 wx hSw
        have u3 := hp3 wx hSw
        have u4 := hp4 wx hSw
        have u5 := hp5 wx hSw
        have u6 := hp6 wx hSw
        have u7 := hp7 wx hSw
        have u8 := hp8 wx hSw
        have u9 := hp9 wx hSw
        have t0 := hx0 wx hSw
        have t1 := hx1 wx hSw
        have t2 := hx2 wx hSw
        have t3 := hx3 wx hSw
        have t4 := hx4 wx hSw
        have t5 := hx5 wx hSw
        have t6 := hx6 wx hSw
        have t7 := hx7 wx hSw
        have t8 := hx8 wx hSw
        have t9 := hx9 wx hSw
        go_simp
        try with_reducible rfl
       try simp only [Act.put, La1, La2, La3]
       refine wpAnyH_ready (rs := [11]) (by kernel_rfl) (by simp) ?_
       refine AllReadyH.cons (o := ⟨some 41, .call { callee := .value (.func 42), args := #[.tmp 40], argTypes := #[32] }, 3, "ref.go:63", #[⟨10, .data⟩, ⟨6, .chain⟩, ⟨6, .guard⟩], some (6, true)⟩) rfl (fun K hK => ?_) AllReadyH.nil
       go_simp
       go_at_call 42
       refine (rend_any x _ hxf).mono ?_
       rintro e wc2 ⟨rfl, hbc2⟩
       first
        | refine hK.out _ _ ?_ (fun hHeld => ?_)
        | (go_wp2_with fail; refine hK.out _ _ ?_ (fun hHeld => ?_))
       ·
        try dsimp only
        exact bt hHeld hbc2
       clear hK K
       try simp only [Act.put, La1, La2, La3]
       refine tk (i := 12) (oi := ⟨some 42, .binOp .lss 3 (.tmp 39) (.tmp 41) 3, 4, "ref.go:63", #[⟨9, .data⟩, ⟨11, .data⟩, ⟨6, .guard⟩], some (6, true)⟩) (v := .bool true) rfl (by kernel_rfl) (fun _ _ _ h => h) (Or.inl ⟨by rfl, ?_⟩) (by assumption) ?_
       ·
        intro wx hSw
        go_simp
        try with_reducible rfl
       try simp only [Act.put, La1, La2, La3]
       refine tk (i := 13) (oi := ⟨some 43, .pick (.tmp 36) (.tmp 42) (.const (.bool false)), 4, "ref.go:63", #[⟨6, .data⟩, ⟨12, .data⟩], none⟩) (v := .bool true) rfl (by kernel_rfl) (fun _ _ _ h => h) (Or.inl ⟨by rfl, ?_⟩) (by assumption) ?_
       ·
        intro wx hSw
        go_simp
        try with_reducible rfl
       try simp only [Act.put, La1, La2, La3]
       refine tk (i := 14) (oi := ⟨some 44, .move (.tmp 43), 4, "ref.go:63", #[⟨13, .data⟩, ⟨11, .chain⟩], none⟩) (v := .bool true) rfl (by kernel_rfl) (fun _ _ _ h => h) (Or.inl ⟨by rfl, ?_⟩) (by assumption) ?_
       ·
        intro wx hSw
        go_simp
        try with_reducible rfl
       try simp only [Act.put, La1, La2, La3]
       refine tk (i := 15) (oi := ⟨some 45, .fieldAddr 32 (.tmp 6) 9, 0, "ref.go:63", #[⟨14, .guard⟩], some (14, true)⟩) (v := .pointer (some ⟨xb, 9, none⟩)) rfl (by kernel_rfl) (fun _ _ _ h => h) (Or.inl ⟨by rfl, ?_⟩) (by assumption) ?_
       ·
        intro wx hSw
        go_simp
        try with_reducible rfl
       try simp only [Act.put, La1, La2, La3]
       refine tk (i := 16) (oi := ⟨some 46, .load 9 (.tmp 45), 9, "ref.go:63", #[⟨15, .data⟩, ⟨14, .guard⟩], some (14, true)⟩) (v := .string x.da) rfl (by kernel_rfl) (fun _ _ _ h => h) (Or.inl ⟨by rfl, ?_⟩) (by assumption) ?_
       ·
        intro wx hSw
        try dsimp only at hSw
        have u9 := hp9 wx hSw
        have t9 := hx9 wx hSw
        go_simp
        try with_reducible rfl
       try simp only [Act.put, La1, La2, La3]
       refine tk (i := 17) (oi := ⟨some 47, .call { callee := .builtin .len, args := #[.tmp 46], argTypes := #[9] }, 3, "ref.go:63", #[⟨16, .data⟩, ⟨14, .guard⟩], some (14, true)⟩) (v := .int .i64 (x.da.size : Int)) rfl (by kernel_rfl) (fun _ _ _ h => h) (Or.inl ⟨by rfl, ?_⟩) (by assumption) ?_
       ·
        intro wx hSw
        try dsimp only at hSw
        have u0 := hp0 wx hSw
        have u1 := hp1 wx hSw
        have u2 := hp2 wx hSw
        have u3 := hp3 wx hSw
        have u4 := hp4 wx hSw
        have u5 := hp5 wx hSw
        have u6 := hp6 wx hSw
        have u7 := hp7 wx hSw
        have u8 := hp8 wx hSw
        have u9 := hp9 wx hSw
        have t0 := hx0 wx hSw
        have t1 := hx1 wx hSw
        have t2 := hx2 wx hSw
        have t3 := hx3 wx hSw
        have t4 := hx4 wx hSw
        have t5 := hx5 wx hSw
        have t6 := hx6 wx hSw
        have t7 := hx7 wx hSw
        have t8 := hx8 wx hSw
        have t9 := hx9 wx hSw
        go_simp
        try with_reducible rfl
       try simp only [Act.put, La1, La2, La3]
       refine tk (i := 18) (oi := ⟨some 48, .binOp .gtr 3 (.tmp 47) (.const (.int .i64 0)) 3, 4, "ref.go:63", #[⟨17, .data⟩, ⟨14, .guard⟩], some (14, true)⟩) (v := .bool false) rfl (by kernel_rfl) (fun _ _ _ h => h) (Or.inl ⟨by rfl, ?_⟩) (by assumption) ?_
       ·
        intro wx hSw
        go_simp
        try with_reducible rfl
       try simp only [Act.put, La1, La2, La3]
       refine tk (i := 19) (oi := ⟨some 49, .pick (.tmp 44) (.tmp 48) (.const (.bool false)), 4, "ref.go:63", #[⟨14, .data⟩, ⟨18, .data⟩], none⟩) (v := .bool false) rfl (by kernel_rfl) (fun _ _ _ h => h) (Or.inl ⟨by rfl, ?_⟩) (by assumption) ?_
       ·
        intro wx hSw
        go_simp
        try with_reducible rfl
       try simp only [Act.put, La1, La2, La3]
       refine tk (i := 20) (oi := ⟨some 50, .move (.tmp 49), 4, "ref.go:63", #[⟨19, .data⟩, ⟨14, .chain⟩], none⟩) (v := .bool false) rfl (by kernel_rfl) (fun _ _ _ h => h) (Or.inl ⟨by rfl, ?_⟩) (by assumption) ?_
       ·
        intro wx hSw
        go_simp
        try with_reducible rfl
       try simp only [Act.put, La1, La2, La3]
       refine tk (i := 21) (oi := ⟨some 51, .fieldAddr 32 (.tmp 3) 9, 0, "ref.go:63", #[⟨20, .guard⟩], some (20, true)⟩) (v := undef) rfl (by kernel_rfl) (fun _ _ _ h => h) (Or.inr ⟨by rfl, rfl⟩) (by assumption) ?_
       try simp only [Act.put, La1, La2, La3]
       refine tk (i := 22) (oi := ⟨some 52, .load 9 (.tmp 51), 9, "ref.go:63", #[⟨21, .data⟩, ⟨20, .guard⟩], some (20, true)⟩) (v := undef) rfl (by kernel_rfl) (fun _ _ _ h => h) (Or.inr ⟨by rfl, rfl⟩) (by assumption) ?_
       try simp only [Act.put, La1, La2, La3]
       refine tk (i := 23) (oi := ⟨some 53, .call { callee := .builtin .len, args := #[.tmp 52], argTypes := #[9] }, 3, "ref.go:63", #[⟨22, .data⟩, ⟨20, .guard⟩], some (20, true)⟩) (v := undef) rfl (by kernel_rfl) (fun _ _ _ h => h) (Or.inr ⟨by rfl, rfl⟩) (by assumption) ?_
       try simp only [Act.put, La1, La2, La3]
       refine tk (i := 24) (oi := ⟨some 54, .binOp .gtr 3 (.tmp 53) (.const (.int .i64 0)) 3, 4, "ref.go:63", #[⟨23, .data⟩, ⟨20, .guard⟩], some (20, true)⟩) (v := undef) rfl (by kernel_rfl) (fun _ _ _ h => h) (Or.inr ⟨by rfl, rfl⟩) (by assumption) ?_
       try simp only [Act.put, La1, La2, La3]
       refine tk (i := 25) (oi := ⟨some 55, .pick (.tmp 50) (.tmp 54) (.const (.bool false)), 4, "ref.go:63", #[⟨20, .data⟩, ⟨24, .data⟩], none⟩) (v := .bool false) rfl (by kernel_rfl) (fun _ _ _ h => h) (Or.inl ⟨by rfl, ?_⟩) (by assumption) ?_
       ·
        intro wx hSw
        go_simp
        try with_reducible rfl
       try simp only [Act.put, La1, La2, La3]
       refine wpAnyH_done (by kernel_rfl) ?_ _
       go_wp2
       go_meet
       case rel => exact ⟨by rw [HV.out], hHeld⟩
     ·
      have HV : Hid (rovB x p = false) := by show _ = _; unfold rovB; simp [h1, h2]
      refine wp_region_held_drew (S := (fun W => Below w5.heap.size w5 W)) (by kernel_rfl) ?_ (fun hHeld => ?_)
      · first | exact (Below.refl _ _).drew | assumption
      refine tk (i := 0) (oi := ⟨some 30, .fieldAddr 32 (.tmp 6) 5, 0, "ref.go:63", #[], none⟩) (v := .pointer (some ⟨xb, 5, none⟩)) rfl (by kernel_rfl) (fun _ _ _ h => h) (Or.inl ⟨by rfl, ?_⟩) (by assumption) ?_
      ·
       intro wx hSw
       go_simp
       try with_reducible rfl
      try simp only [Act.put, La1, La2, La3]
      refine tk (i := 1) (oi := ⟨some 31, .load 3 (.tmp 30), 3, "ref.go:63", #[⟨0, .data⟩], none⟩) (v := .int .i64 x.fr) rfl (by kernel_rfl) (fun _ _ _ h => h) (Or.inl ⟨by rfl, ?_⟩) (by assumption) ?_
      ·
       intro wx hSw
       try dsimp only at hSw
       have u5 := hp5 wx hSw
       have t5 := hx5 wx hSw
       go_simp
       try with_reducible rfl
      try simp only [Act.put, La1, La2, La3]
      refine tk (i := 2) (oi := ⟨some 32, .binOp .mul 3 (.const (.int .i64 8)) (.tmp 31) 3, 3, "ref.go:63", #[⟨1, .data⟩], none⟩) (v := .int .i64 (8 * x.fr)) rfl (by kernel_rfl) (fun _ _ _ h => h) (Or.inl ⟨by rfl, ?_⟩) (by assumption) ?_
      ·
       intro wx hSw
       go_simp
       try with_reducible rfl
      try simp only [Act.put, La1, La2, La3]
      refine tk (i := 3) (oi := ⟨some 33, .load 32 (.tmp 3), 32, "ref.go:63", #[], none⟩) (v := .agg #[.int .i64 p.f, .int .i64 p.t, .int .i64 p.tl, .int .i64 p.pr, .int .i64 p.id, .int .i64 p.fr, .bool p.mo, .bool p.dn, .string p.op, .string p.da]) rfl (by kernel_rfl) (fun _ _ _ h => h) (Or.inl ⟨by rfl, ?_⟩) (by assumption) ?_
      ·
       intro wx hSw
       try dsimp only at hSw
       have u0 := hp0 wx hSw
       have u1 := hp1 wx hSw
       have u2 := hp2 wx hSw
       have u3 := hp3 wx hSw
       have u4 := hp4 wx hSw
       have u5 := hp5 wx hSw
       have u6 := hp6 wx hSw
       have u7 := hp7 wx hSw
       have u8 := hp8 wx hSw
       have u9 := hp9 wx hSw
       have t0 := hx0 wx hSw
       have t1 := hx1 wx hSw
       have t2 := hx2 wx hSw
       have t3 := hx3 wx hSw
       have t4 := hx4 wx hSw
       have t5 := hx5 wx hSw
       have t6 := hx6 wx hSw
       have t7 := hx7 wx hSw
       have t8 := hx8 wx hSw
       have t9 := hx9 wx hSw
       go_simp
       try with_reducible rfl
      try simp only [Act.put, La1, La2, La3]
      refine wpAnyH_ready (rs := [4]) (by kernel_rfl) (by simp) ?_
      refine AllReadyH.cons (o := ⟨some 34, .call { callee := .value (.func 42), args := #[.tmp 33], argTypes := #[32] }, 3, "ref.go:63", #[⟨3, .data⟩], none⟩) rfl (fun K hK => ?_) AllReadyH.nil
      go_simp
      go_at_call 42
      refine (rend_any p _ hp).mono ?_
      rintro e wc1 ⟨rfl, hbc1⟩
      first
       | refine hK.out _ _ ?_ (fun hHeld => ?_)
       | (go_wp2_with fail; refine hK.out _ _ ?_ (fun hHeld => ?_))
      ·
       try dsimp only
       exact bt hHeld hbc1
      clear hK K
      try simp only [Act.put, La1, La2, La3]
      refine tk (i := 5) (oi := ⟨some 35, .binOp .lss 3 (.tmp 32) (.tmp 34) 3, 4, "ref.go:63", #[⟨2, .data⟩, ⟨4, .data⟩], none⟩) (v := .bool true) rfl (by kernel_rfl) (fun _ _ _ h => h) (Or.inl ⟨by rfl, ?_⟩) (by assumption) ?_
      ·
       intro wx hSw
       go_simp
       try with_reducible rfl
      try simp only [Act.put, La1, La2, La3]
      refine tk (i := 6) (oi := ⟨some 36, .move (.tmp 35), 4, "ref.go:63", #[⟨5, .data⟩, ⟨4, .chain⟩], none⟩) (v := .bool true) rfl (by kernel_rfl) (fun _ _ _ h => h) (Or.inl ⟨by rfl, ?_⟩) (by assumption) ?_
      ·
       intro wx hSw
       go_simp
       try with_reducible rfl
      try simp only [Act.put, La1, La2, La3]
      refine tk (i := 7) (oi := ⟨some 37, .fieldAddr 32 (.tmp 3) 5, 0, "ref.go:63", #[⟨6, .guard⟩], some (6, true)⟩) (v := .pointer (some ⟨w.heap.size, 5, none⟩)) rfl (by kernel_rfl) (fun _ _ _ h => h) (Or.inl ⟨by rfl, ?_⟩) (by assumption) ?_
      ·
       intro wx hSw
       go_simp
       try with_reducible rfl
      try simp only [Act.put, La1, La2, La3]
      refine tk (i := 8) (oi := ⟨some 38, .load 3 (.tmp 37), 3, "ref.go:63", #[⟨7, .data⟩, ⟨6, .guard⟩], some (6, true)⟩) (v := .int .i64 p.fr) rfl (by kernel_rfl) (fun _ _ _ h => h) (Or.inl ⟨by rfl, ?_⟩) (by assumption) ?_
      ·
       intro wx hSw
       try dsimp only at hSw
       have u5 := hp5 wx hSw
       have t5 := hx5 wx hSw
       go_simp
       try with_reducible rfl
      try simp only [Act.put, La1, La2, La3]
      refine tk (i := 9) (oi := ⟨some 39, .binOp .mul 3 (.const (.int .i64 8)) (.tmp 38) 3, 3, "ref.go:63", #[⟨8, .data⟩, ⟨6, .guard⟩], some (6, true)⟩) (v := .int .i64 (8 * p.fr)) rfl (by kernel_rfl) (fun _ _ _ h => h) (Or.inl ⟨by rfl, ?_⟩) (by assumption) ?_
      ·
       intro wx hSw
       go_simp
       try with_reducible rfl
      try simp only [Act.put, La1, La2, La3]
      refine tk (i := 10) (oi := ⟨some 40, .load 32 (.tmp 6), 32, "ref.go:63", #[⟨6, .guard⟩], some (6, true)⟩) (v := .agg #[.int .i64 x.f, .int .i64 x.t, .int .i64 x.tl, .int .i64 x.pr, .int .i64 x.id, .int .i64 x.fr, .bool x.mo, .bool x.dn, .string x.op, .string x.da]) rfl (by kernel_rfl) (fun _ _ _ h => h) (Or.inl ⟨by rfl, ?_⟩) (by assumption) ?_
      ·
       intro wx hSw
       try dsimp only at hSw
       have u0 := hp0 wx hSw
       have u1 := hp1 wx hSw
       have u2 := hp2 wx hSw
       have u3 := hp3 wx hSw
       have u4 := hp4 wx hSw
       have u5 := hp5 wx hSw
       have u6 := hp6 wx hSw
       have u7 := hp7 wx hSw
       have u8 := hp8 wx hSw
       have u9 := hp9 wx hSw
       have t0 := hx0 wx hSw
       have t1 := hx1 wx hSw
       have t2 := hx2 wx hSw
       have t3 := hx3 wx hSw
       have t4 := hx4 wx hSw
       have t5 := hx5 wx hSw
       have t6 := hx6 wx hSw
       have t7 := hx7 wx hSw
       have t8 := hx8 wx hSw
       have t9 := hx9 wx hSw
       go_simp
       try with_reducible rfl
      try simp only [Act.put, La1, La2, La3]
      refine wpAnyH_ready (rs := [11]) (by kernel_rfl) (by simp) ?_
      refine AllReadyH.cons (o := ⟨some 41, .call { callee := .value (.func 42), args := #[.tmp 40], argTypes := #[32] }, 3, "ref.go:63", #[⟨10, .data⟩, ⟨6, .chain⟩, ⟨6, .guard⟩], some (6, true)⟩) rfl (fun K hK => ?_) AllReadyH.nil
      go_simp
      go_at_call 42
      refine (rend_any x _ hxf).mono ?_
      rintro e wc2 ⟨rfl, hbc2⟩
      first
       | refine hK.out _ _ ?_ (fun hHeld => ?_)
       | (go_wp2_with fail; refine hK.out _ _ ?_ (fun hHeld => ?_))
      ·
       try dsimp only
       exact bt hHeld hbc2
      clear hK K
      try simp only [Act.put, La1, La2, La3]
      refine tk (i := 12) (oi := ⟨some 42, .binOp .lss 3 (.tmp 39) (.tmp 41) 3, 4, "ref.go:63", #[⟨9, .data⟩, ⟨11, .data⟩, ⟨6, .guard⟩], some (6, true)⟩) (v := .bool false) rfl (by kernel_rfl) (fun _ _ _ h => h) (Or.inl ⟨by rfl, ?_⟩) (by assumption) ?_
      ·
       intro wx hSw
       go_simp
       try with_reducible rfl
      try simp only [Act.put, La1, La2, La3]
      refine tk (i := 13) (oi := ⟨some 43, .pick (.tmp 36) (.tmp 42) (.const (.bool false)), 4, "ref.go:63", #[⟨6, .data⟩, ⟨12, .data⟩], none⟩) (v := .bool false) rfl (by kernel_rfl) (fun _ _ _ h => h) (Or.inl ⟨by rfl, ?_⟩) (by assumption) ?_
      ·
       intro wx hSw
       go_simp
       try with_reducible rfl
      try simp only [Act.put, La1, La2, La3]
      refine tk (i := 14) (oi := ⟨some 44, .move (.tmp 43), 4, "ref.go:63", #[⟨13, .data⟩, ⟨11, .chain⟩], none⟩) (v := .bool false) rfl (by kernel_rfl) (fun _ _ _ h => h) (Or.inl ⟨by rfl, ?_⟩) (by assumption) ?_
      ·
       intro wx hSw
       go_simp
       try with_reducible rfl
      try simp only [Act.put, La1, La2, La3]
      refine tk (i := 15) (oi := ⟨some 45, .fieldAddr 32 (.tmp 6) 9, 0, "ref.go:63", #[⟨14, .guard⟩], some (14, true)⟩) (v := undef) rfl (by kernel_rfl) (fun _ _ _ h => h) (Or.inr ⟨by rfl, rfl⟩) (by assumption) ?_
      try simp only [Act.put, La1, La2, La3]
      refine tk (i := 16) (oi := ⟨some 46, .load 9 (.tmp 45), 9, "ref.go:63", #[⟨15, .data⟩, ⟨14, .guard⟩], some (14, true)⟩) (v := undef) rfl (by kernel_rfl) (fun _ _ _ h => h) (Or.inr ⟨by rfl, rfl⟩) (by assumption) ?_
      try simp only [Act.put, La1, La2, La3]
      refine tk (i := 17) (oi := ⟨some 47, .call { callee := .builtin .len, args := #[.tmp 46], argTypes := #[9] }, 3, "ref.go:63", #[⟨16, .data⟩, ⟨14, .guard⟩], some (14, true)⟩) (v := undef) rfl (by kernel_rfl) (fun _ _ _ h => h) (Or.inr ⟨by rfl, rfl⟩) (by assumption) ?_
      try simp only [Act.put, La1, La2, La3]
      refine tk (i := 18) (oi := ⟨some 48, .binOp .gtr 3 (.tmp 47) (.const (.int .i64 0)) 3, 4, "ref.go:63", #[⟨17, .data⟩, ⟨14, .guard⟩], some (14, true)⟩) (v := undef) rfl (by kernel_rfl) (fun _ _ _ h => h) (Or.inr ⟨by rfl, rfl⟩) (by assumption) ?_
      try simp only [Act.put, La1, La2, La3]
      refine tk (i := 19) (oi := ⟨some 49, .pick (.tmp 44) (.tmp 48) (.const (.bool false)), 4, "ref.go:63", #[⟨14, .data⟩, ⟨18, .data⟩], none⟩) (v := .bool false) rfl (by kernel_rfl) (fun _ _ _ h => h) (Or.inl ⟨by rfl, ?_⟩) (by assumption) ?_
      ·
       intro wx hSw
       go_simp
       try with_reducible rfl
      try simp only [Act.put, La1, La2, La3]
      refine tk (i := 20) (oi := ⟨some 50, .move (.tmp 49), 4, "ref.go:63", #[⟨19, .data⟩, ⟨14, .chain⟩], none⟩) (v := .bool false) rfl (by kernel_rfl) (fun _ _ _ h => h) (Or.inl ⟨by rfl, ?_⟩) (by assumption) ?_
      ·
       intro wx hSw
       go_simp
       try with_reducible rfl
      try simp only [Act.put, La1, La2, La3]
      refine tk (i := 21) (oi := ⟨some 51, .fieldAddr 32 (.tmp 3) 9, 0, "ref.go:63", #[⟨20, .guard⟩], some (20, true)⟩) (v := undef) rfl (by kernel_rfl) (fun _ _ _ h => h) (Or.inr ⟨by rfl, rfl⟩) (by assumption) ?_
      try simp only [Act.put, La1, La2, La3]
      refine tk (i := 22) (oi := ⟨some 52, .load 9 (.tmp 51), 9, "ref.go:63", #[⟨21, .data⟩, ⟨20, .guard⟩], some (20, true)⟩) (v := undef) rfl (by kernel_rfl) (fun _ _ _ h => h) (Or.inr ⟨by rfl, rfl⟩) (by assumption) ?_
      try simp only [Act.put, La1, La2, La3]
      refine tk (i := 23) (oi := ⟨some 53, .call { callee := .builtin .len, args := #[.tmp 52], argTypes := #[9] }, 3, "ref.go:63", #[⟨22, .data⟩, ⟨20, .guard⟩], some (20, true)⟩) (v := undef) rfl (by kernel_rfl) (fun _ _ _ h => h) (Or.inr ⟨by rfl, rfl⟩) (by assumption) ?_
      try simp only [Act.put, La1, La2, La3]
      refine tk (i := 24) (oi := ⟨some 54, .binOp .gtr 3 (.tmp 53) (.const (.int .i64 0)) 3, 4, "ref.go:63", #[⟨23, .data⟩, ⟨20, .guard⟩], some (20, true)⟩) (v := undef) rfl (by kernel_rfl) (fun _ _ _ h => h) (Or.inr ⟨by rfl, rfl⟩) (by assumption) ?_
      try simp only [Act.put, La1, La2, La3]
      refine tk (i := 25) (oi := ⟨some 55, .pick (.tmp 50) (.tmp 54) (.const (.bool false)), 4, "ref.go:63", #[⟨20, .data⟩, ⟨24, .data⟩], none⟩) (v := .bool false) rfl (by kernel_rfl) (fun _ _ _ h => h) (Or.inl ⟨by rfl, ?_⟩) (by assumption) ?_
      ·
       intro wx hSw
       go_simp
       try with_reducible rfl
      try simp only [Act.put, La1, La2, La3]
      refine wpAnyH_done (by kernel_rfl) ?_ _
      go_wp2
      go_meet
      case rel => exact ⟨by rw [HV.out], hHeld⟩
    ·
     have HV : Hid (rovB x p = false) := by show _ = _; unfold rovB; simp [h1]
     refine wp_region_held_drew (S := (fun W => Below w5.heap.size w5 W)) (by kernel_rfl) ?_ (fun hHeld => ?_)
     · first | exact (Below.refl _ _).drew | assumption
     refine tk (i := 0) (oi := ⟨some 30, .fieldAddr 32 (.tmp 6) 5, 0, "ref.go:63", #[], none⟩) (v := .pointer (some ⟨xb, 5, none⟩)) rfl (by kernel_rfl) (fun _ _ _ h => h) (Or.inl ⟨by rfl, ?_⟩) (by assumption) ?_
     ·
      intro wx hSw
      go_simp
      try with_reducible rfl
     try simp only [Act.put, La1, La2, La3]
     refine tk (i := 1) (oi := ⟨some 31, .load 3 (.tmp 30), 3, "ref.go:63", #[⟨0, .data⟩], none⟩) (v := .int .i64 x.fr) rfl (by kernel_rfl) (fun _ _ _ h => h) (Or.inl ⟨by rfl, ?_⟩) (by assumption) ?_
     ·
      intro wx hSw
      try dsimp only at hSw
      have u5 := hp5 wx hSw
      have t5 := hx5 wx hSw
      go_simp
      try with_reducible rfl
     try simp only [Act.put, La1, La2, La3]
     refine tk (i := 2) (oi := ⟨some 32, .binOp .mul 3 (.const (.int .i64 8)) (.tmp 31) 3, 3, "ref.go:63", #[⟨1, .data⟩], none⟩) (v := .int .i64 (8 * x.fr)) rfl (by kernel_rfl) (fun _ _ _ h => h) (Or.inl ⟨by rfl, ?_⟩) (by assumption) ?_
     ·
      intro wx hSw
      go_simp
      try with_reducible rfl
     try simp only [Act.put, La1, La2, La3]
     refine tk (i := 3) (oi := ⟨some 33, .load 32 (.tmp 3), 32, "ref.go:63", #[], none⟩) (v := .agg #[.int .i64 p.f, .int .i64 p.t, .int .i64 p.tl, .int .i64 p.pr, .int .i64 p.id, .int .i64 p.fr, .bool p.mo, .bool p.dn, .string p.op, .string p.da]) rfl (by kernel_rfl) (fun _ _ _ h => h) (Or.inl ⟨by rfl, ?_⟩) (by assumption) ?_
     ·
      intro wx hSw
      try dsimp only at hSw
      have u0 := hp0 wx hSw
      have u1 := hp1 wx hSw
      have u2 := hp2 wx hSw
      have u3 := hp3 wx hSw
      have u4 := hp4 wx hSw
      have u5 := hp5 wx hSw
      have u6 := hp6 wx hSw
      have u7 := hp7 wx hSw
      have u8 := hp8 wx hSw
      have u9 := hp9 wx hSw
      have t0 := hx0 wx hSw
      have t1 := hx1 wx hSw
      have t2 := hx2 wx hSw
      have t3 := hx3 wx hSw
      have t4 := hx4 wx hSw
      have t5 := hx5 wx hSw
      have t6 := hx6 wx hSw
      have t7 := hx7 wx hSw
      have t8 := hx8 wx hSw
      have t9 := hx9 wx hSw
      go_simp
      try with_reducible rfl
     try simp only [Act.put, La1, La2, La3]
     refine wpAnyH_ready (rs := [4]) (by kernel_rfl) (by simp) ?_
     refine AllReadyH.cons (o := ⟨some 34, .call { callee := .value (.func 42), args := #[.tmp 33], argTypes := #[32] }, 3, "ref.go:63", #[⟨3, .data⟩], none⟩) rfl (fun K hK => ?_) AllReadyH.nil
     go_simp
     go_at_call 42
     refine (rend_any p _ hp).mono ?_
     rintro e wc1 ⟨rfl, hbc1⟩
     first
      | refine hK.out _ _ ?_ (fun hHeld => ?_)
      | (go_wp2_with fail; refine hK.out _ _ ?_ (fun hHeld => ?_))
     ·
      try dsimp only
      exact bt hHeld hbc1
     clear hK K
     try simp only [Act.put, La1, La2, La3]
     refine tk (i := 5) (oi := ⟨some 35, .binOp .lss 3 (.tmp 32) (.tmp 34) 3, 4, "ref.go:63", #[⟨2, .data⟩, ⟨4, .data⟩], none⟩) (v := .bool false) rfl (by kernel_rfl) (fun _ _ _ h => h) (Or.inl ⟨by rfl, ?_⟩) (by assumption) ?_
     ·
      intro wx hSw
      go_simp
      try with_reducible rfl
     try simp only [Act.put, La1, La2, La3]
     refine tk (i := 6) (oi := ⟨some 36, .move (.tmp 35), 4, "ref.go:63", #[⟨5, .data⟩, ⟨4, .chain⟩], none⟩) (v := .bool false) rfl (by kernel_rfl) (fun _ _ _ h => h) (Or.inl ⟨by rfl, ?_⟩) (by assumption) ?_
     ·
      intro wx hSw
      go_simp
      try with_reducible rfl
     try simp only [Act.put, La1, La2, La3]
     refine tk (i := 7) (oi := ⟨some 37, .fieldAddr 32 (.tmp 3) 5, 0, "ref.go:63", #[⟨6, .guard⟩], some (6, true)⟩) (v := undef) rfl (by kernel_rfl) (fun _ _ _ h => h) (Or.inr ⟨by rfl, rfl⟩) (by assumption) ?_
     try simp only [Act.put, La1, La2, La3]
     refine tk (i := 8) (oi := ⟨some 38, .load 3 (.tmp 37), 3, "ref.go:63", #[⟨7, .data⟩, ⟨6, .guard⟩], some (6, true)⟩) (v := undef) rfl (by kernel_rfl) (fun _ _ _ h => h) (Or.inr ⟨by rfl, rfl⟩) (by assumption) ?_
     try simp only [Act.put, La1, La2, La3]
     refine tk (i := 9) (oi := ⟨some 39, .binOp .mul 3 (.const (.int .i64 8)) (.tmp 38) 3, 3, "ref.go:63", #[⟨8, .data⟩, ⟨6, .guard⟩], some (6, true)⟩) (v := undef) rfl (by kernel_rfl) (fun _ _ _ h => h) (Or.inr ⟨by rfl, rfl⟩) (by assumption) ?_
     try simp only [Act.put, La1, La2, La3]
     refine tk (i := 10) (oi := ⟨some 40, .load 32 (.tmp 6), 32, "ref.go:63", #[⟨6, .guard⟩], some (6, true)⟩) (v := undef) rfl (by kernel_rfl) (fun _ _ _ h => h) (Or.inr ⟨by rfl, rfl⟩) (by assumption) ?_
     try simp only [Act.put, La1, La2, La3]
     refine tk (i := 11) (oi := ⟨some 41, .call { callee := .value (.func 42), args := #[.tmp 40], argTypes := #[32] }, 3, "ref.go:63", #[⟨10, .data⟩, ⟨6, .chain⟩, ⟨6, .guard⟩], some (6, true)⟩) (v := undef) rfl (by kernel_rfl) (fun _ _ _ h => h) (Or.inr ⟨by rfl, rfl⟩) (by assumption) ?_
     try simp only [Act.put, La1, La2, La3]
     refine tk (i := 12) (oi := ⟨some 42, .binOp .lss 3 (.tmp 39) (.tmp 41) 3, 4, "ref.go:63", #[⟨9, .data⟩, ⟨11, .data⟩, ⟨6, .guard⟩], some (6, true)⟩) (v := undef) rfl (by kernel_rfl) (fun _ _ _ h => h) (Or.inr ⟨by rfl, rfl⟩) (by assumption) ?_
     try simp only [Act.put, La1, La2, La3]
     refine tk (i := 13) (oi := ⟨some 43, .pick (.tmp 36) (.tmp 42) (.const (.bool false)), 4, "ref.go:63", #[⟨6, .data⟩, ⟨12, .data⟩], none⟩) (v := .bool false) rfl (by kernel_rfl) (fun _ _ _ h => h) (Or.inl ⟨by rfl, ?_⟩) (by assumption) ?_
     ·
      intro wx hSw
      go_simp
      try with_reducible rfl
     try simp only [Act.put, La1, La2, La3]
     refine tk (i := 14) (oi := ⟨some 44, .move (.tmp 43), 4, "ref.go:63", #[⟨13, .data⟩, ⟨11, .chain⟩], none⟩) (v := .bool false) rfl (by kernel_rfl) (fun _ _ _ h => h) (Or.inl ⟨by rfl, ?_⟩) (by assumption) ?_
     ·
      intro wx hSw
      go_simp
      try with_reducible rfl
     try simp only [Act.put, La1, La2, La3]
     refine tk (i := 15) (oi := ⟨some 45, .fieldAddr 32 (.tmp 6) 9, 0, "ref.go:63", #[⟨14, .guard⟩], some (14, true)⟩) (v := undef) rfl (by kernel_rfl) (fun _ _ _ h => h) (Or.inr ⟨by rfl, rfl⟩) (by assumption) ?_
     try simp only [Act.put, La1, La2, La3]
     refine tk (i := 16) (oi := ⟨some 46, .load 9 (.tmp 45), 9, "ref.go:63", #[⟨15, .data⟩, ⟨14, .guard⟩], some (14, true)⟩) (v := undef) rfl (by kernel_rfl) (fun _ _ _ h => h) (Or.inr ⟨by rfl, rfl⟩) (by assumption) ?_
     try simp only [Act.put, La1, La2, La3]
     refine tk (i := 17) (oi := ⟨some 47, .call { callee := .builtin .len, args := #[.tmp 46], argTypes := #[9] }, 3, "ref.go:63", #[⟨16, .data⟩, ⟨14, .guard⟩], some (14, true)⟩) (v := undef) rfl (by kernel_rfl) (fun _ _ _ h => h) (Or.inr ⟨by rfl, rfl⟩) (by assumption) ?_
     try simp only [Act.put, La1, La2, La3]
     refine tk (i := 18) (oi := ⟨some 48, .binOp .gtr 3 (.tmp 47) (.const (.int .i64 0)) 3, 4, "ref.go:63", #[⟨17, .data⟩, ⟨14, .guard⟩], some (14, true)⟩) (v := undef) rfl (by kernel_rfl) (fun _ _ _ h => h) (Or.inr ⟨by rfl, rfl⟩) (by assumption) ?_
     try simp only [Act.put, La1, La2, La3]
     refine tk (i := 19) (oi := ⟨some 49, .pick (.tmp 44) (.tmp 48) (.const (.bool false)), 4, "ref.go:63", #[⟨14, .data⟩, ⟨18, .data⟩], none⟩) (v := .bool false) rfl (by kernel_rfl) (fun _ _ _ h => h) (Or.inl ⟨by rfl, ?_⟩) (by assumption) ?_
     ·
      intro wx hSw
      go_simp
      try with_reducible rfl
     try simp only [Act.put, La1, La2, La3]
     refine tk (i := 20) (oi := ⟨some 50, .move (.tmp 49), 4, "ref.go:63", #[⟨19, .data⟩, ⟨14, .chain⟩], none⟩) (v := .bool false) rfl (by kernel_rfl) (fun _ _ _ h => h) (Or.inl ⟨by rfl, ?_⟩) (by assumption) ?_
     ·
      intro wx hSw
      go_simp
      try with_reducible rfl
     try simp only [Act.put, La1, La2, La3]
     refine tk (i := 21) (oi := ⟨some 51, .fieldAddr 32 (.tmp 3) 9, 0, "ref.go:63", #[⟨20, .guard⟩], some (20, true)⟩) (v := undef) rfl (by kernel_rfl) (fun _ _ _ h => h) (Or.inr ⟨by rfl, rfl⟩) (by assumption) ?_
     try simp only [Act.put, La1, La2, La3]
     refine tk (i := 22) (oi := ⟨some 52, .load 9 (.tmp 51), 9, "ref.go:63", #[⟨21, .data⟩, ⟨20, .guard⟩], some (20, true)⟩) (v := undef) rfl (by kernel_rfl) (fun _ _ _ h => h) (Or.inr ⟨by rfl, rfl⟩) (by assumption) ?_
     try simp only [Act.put, La1, La2, La3]
     refine tk (i := 23) (oi := ⟨some 53, .call { callee := .builtin .len, args := #[.tmp 52], argTypes := #[9] }, 3, "ref.go:63", #[⟨22, .data⟩, ⟨20, .guard⟩], some (20, true)⟩) (v := undef) rfl (by kernel_rfl) (fun _ _ _ h => h) (Or.inr ⟨by rfl, rfl⟩) (by assumption) ?_
     try simp only [Act.put, La1, La2, La3]
     refine tk (i := 24) (oi := ⟨some 54, .binOp .gtr 3 (.tmp 53) (.const (.int .i64 0)) 3, 4, "ref.go:63", #[⟨23, .data⟩, ⟨20, .guard⟩], some (20, true)⟩) (v := undef) rfl (by kernel_rfl) (fun _ _ _ h => h) (Or.inr ⟨by rfl, rfl⟩) (by assumption) ?_
     try simp only [Act.put, La1, La2, La3]
     refine tk (i := 25) (oi := ⟨some 55, .pick (.tmp 50) (.tmp 54) (.const (.bool false)), 4, "ref.go:63", #[⟨20, .data⟩, ⟨24, .data⟩], none⟩) (v := .bool false) rfl (by kernel_rfl) (fun _ _ _ h => h) (Or.inl ⟨by rfl, ?_⟩) (by assumption) ?_
     ·
      intro wx hSw
      go_simp
      try with_reducible rfl
     try simp only [Act.put, La1, La2, La3]
     refine wpAnyH_done (by kernel_rfl) ?_ _
     go_wp2
     go_meet
     case rel => exact ⟨by rw [HV.out], hHeld⟩
   case rest =>
    obtain ⟨rfl, hbc⟩ := hcut
    obtain ⟨w6, hw6⟩ : ∃ z, z = wc := ⟨wc, rfl⟩
    subst hw6
    have hX6 := HX5.out.later hbc
    have hP6 := HP5.out.later hbc
    have hb6 := bt hb5 hbc
    clear HX5 HP5 hX5 hP5 hb5 hbc
    cases hov : rovB x p with
    | true =>
     have HF0 : Hid (res = false) := HBAD.out (by unfold rfitB; rw [hov]; rfl)
     clear hov
     go_wp2
     go_ret
     exact ⟨by rw [HF0.out]; rfl, bt hb4 hb6⟩
    | false =>
     have HOV : Hid (rovB x p = false) := hov
     clear hov
     go_upto_region 9 with fail
     go_cut [89] from 20 to 89 (fun s W => s = .bool (rpaB x p) ∧ Below w6.heap.size w6 W)
     case first =>
      have hp0 : ∀ W, Below w6.heap.size w6 W → W.cell? ⟨w.heap.size, 0, none⟩ = some (.int .i64 p.f) := fun W hW => later hW (hP6.2 0 _ rfl).1
      have hp1 : ∀ W, Below w6.heap.size w6 W → W.cell? ⟨w.heap.size, 1, none⟩ = some (.int .i64 p.t) := fun W hW => later hW (hP6.2 1 _ rfl).1
      have hp2 : ∀ W, Below w6.heap.size w6 W → W.cell? ⟨w.heap.size, 2, none⟩ = some (.int .i64 p.tl) := fun W hW => later hW (hP6.2 2 _ rfl).1
      have hp3 : ∀ W, Below w6.heap.size w6 W → W.cell? ⟨w.heap.size, 3, none⟩ = some (.int .i64 p.pr) := fun W hW => later hW (hP6.2 3 _ rfl).1
      have hp4 : ∀ W, Below w6.heap.size w6 W → W.cell? ⟨w.heap.size, 4, none⟩ = some (.int .i64 p.id) := fun W hW => later hW (hP6.2 4 _ rfl).1
      have hp5 : ∀ W, Below w6.heap.size w6 W → W.cell? ⟨w.heap.size, 5, none⟩ = some (.int .i64 p.fr) := fun W hW => later hW (hP6.2 5 _ rfl).1
      have hp6 : ∀ W, Below w6.heap.size w6 W → W.cell? ⟨w.heap.size, 6, none⟩ = some (.bool p.mo) := fun W hW => later hW (hP6.2 6 _ rfl).1
      have hp7 : ∀ W, Below w6.heap.size w6 W → W.cell? ⟨w.heap.size, 7, none⟩ = some (.bool p.dn) := fun W hW => later hW (hP6.2 7 _ rfl).1
      have hp8 : ∀ W, Below w6.heap.size w6 W → W.cell? ⟨w.heap.size, 8, none⟩ = some (.string p.op) := fun W hW => later hW (hP6.2 8 _ rfl).1
      have hp9 : ∀ W, Below w6.heap.size w6 W → W.cell? ⟨w.heap.size, 9, none⟩ = some (.string p.da) := fun W hW => later hW (hP6.2 9 _ rfl).1
      have hx0 : ∀ W, Below w6.heap.size w6 W → W.cell? ⟨xb, 0, none⟩ = some (.int .i64 x.f) := fun W hW => later hW (hX6.2 0 _ rfl).1
      have hx1 : ∀ W, Below w6.heap.size w6 W → W.cell? ⟨xb, 1, none⟩ = some (.int .i64 x.t) := fun W hW => later hW (hX6.2 1 _ rfl).1
      have hx2 : ∀ W, Below w6.heap.size w6 W → W.cell? ⟨xb, 2, none⟩ = some (.int .i64 x.tl) := fun W hW => later hW (hX6.2 2 _ rfl).1
      have hx3 : ∀ W, Below w6.heap.size w6 W → W.cell? ⟨xb, 3, none⟩ = some (.int .i64 x.pr) := fun W hW => later hW (hX6.2 3 _ rfl).1
      have hx4 : ∀ W, Below w6.heap.size w6 W → W.cell? ⟨xb, 4, none⟩ = some (.int .i64 x.id) := fun W hW => later hW (hX6.2 4 _ rfl).1
      have hx5 : ∀ W, Below w6.heap.size w6 W → W.cell? ⟨xb, 5, none⟩ = some (.int .i64 x.fr) := fun W hW => later hW (hX6.2 5 _ rfl).1
      have hx6 : ∀ W, Below w6.heap.size w6 W → W.cell? ⟨xb, 6, none⟩ = some (.bool x.mo) := fun W hW => later hW (hX6.2 6 _ rfl).1
      have hx7 : ∀ W, Below w6.heap.size w6 W → W.cell? ⟨xb, 7, none⟩ = some (.bool x.dn) := fun W hW => later hW (hX6.2 7 _ rfl).1
      have hx8 : ∀ W, Below w6.heap.size w6 W → W.cell? ⟨xb, 8, none⟩ = some (.string x.op) := fun W hW => later hW (hX6.2 8 _ rfl).1
      have hx9 : ∀ W, Below w6.heap.size w6 W → W.cell? ⟨xb, 9, none⟩ = some (.string x.da) := fun W hW => later hW (hX6.2 9 _ rfl).1
      clear hX6 hP6
      obtain ⟨xm, hxm⟩ : ∃ b, x.mo = b := ⟨_, rfl⟩
      cases xm with
      | true =>
       obtain ⟨pm, hpm⟩ : ∃ b, p.mo = b := ⟨_, rfl⟩
       cases pm with
       | true =>
        have HV : Hid (rpaB x p = false) := by show _ = _; unfold rpaB; simp [hxm, hpm]
        have hxb : (!x.mo) = false := by rw [hxm]; rfl
        have hpb : (!p.mo) = false := by rw [hpm]; rfl
        clear hxm hpm
        refine wp_region_held_drew (S := (fun W => Below w6.heap.size w6 W)) (by kernel_rfl) ?_ (fun hHeld => ?_)
        · first | exact (Below.refl _ _).drew | assumption
        refine tk (i := 0) (oi := ⟨some 56, .fieldAddr 32 (.tmp 6) 6, 0, "ref.go:66", #[], none⟩) (v := .pointer (some ⟨xb, 6, none⟩)) rfl (by kernel_rfl) (fun _ _ _ h => h) (Or.inl ⟨by rfl, ?_⟩) (by assumption) ?_
        ·
         intro wx hSw
         go_simp
         try with_reducible rfl
        try simp only [Act.put, La1, La2, La3]
        refine tk (i := 1) (oi := ⟨some 57, .load 4 (.tmp 56), 4, "ref.go:66", #[⟨0, .data⟩], none⟩) (v := .bool x.mo) rfl (by kernel_rfl) (fun _ _ _ h => h) (Or.inl ⟨by rfl, ?_⟩) (by assumption) ?_
        ·
         intro wx hSw
         try dsimp only at hSw
         have u6 := hp6 wx hSw
         have t6 := hx6 wx hSw
         go_simp
         try with_reducible rfl
        try simp only [Act.put, La1, La2, La3]
        refine tk (i := 2) (oi := ⟨some 58, .unOp .not 4 (.tmp 57), 4, "ref.go:66", #[⟨1, .data⟩], none⟩) (v := .bool false) rfl (by kernel_rfl) (fun _ _ _ h => h) (Or.inl ⟨by rfl, ?_⟩) (by assumption) ?_
        ·
         intro wx hSw
         go_simp
         try with_reducible rfl
        try simp only [Act.put, La1, La2, La3]
        refine tk (i := 3) (oi := ⟨some 59, .move (.tmp 58), 4, "ref.go:66", #[⟨2, .data⟩], none⟩) (v := .bool false) rfl (by kernel_rfl) (fun _ _ _ h => h) (Or.inl ⟨by rfl, ?_⟩) (by assumption) ?_
        ·
         intro wx hSw
         go_simp
         try with_reducible rfl
        try simp only [Act.put, La1, La2, La3]
        refine tk (i := 4) (oi := ⟨some 60, .fieldAddr 32 (.tmp 3) 6, 0, "ref.go:66", #[⟨3, .guard⟩], some (3, true)⟩) (v := undef) rfl (by kernel_rfl) (fun _ _ _ h => h) (Or.inr ⟨by rfl, rfl⟩) (by assumption) ?_
        try simp only [Act.put, La1, La2, La3]
        refine tk (i := 5) (oi := ⟨some 61, .load 4 (.tmp 60), 4, "ref.go:66", #[⟨4, .data⟩, ⟨3, .guard⟩], some (3, true)⟩) (v := undef) rfl (by kernel_rfl) (fun _ _ _ h => h) (Or.inr ⟨by rfl, rfl⟩) (by assumption) ?_
        try simp only [Act.put, La1, La2, La3]
        refine tk (i := 6) (oi := ⟨some 62, .unOp .not 4 (.tmp 61), 4, "ref.go:66", #[⟨5, .data⟩, ⟨3, .guard⟩], some (3, true)⟩) (v := undef) rfl (by kernel_rfl) (fun _ _ _ h => h) (Or.inr ⟨by rfl, rfl⟩) (by assumption) ?_
        try simp only [Act.put, La1, La2, La3]
        refine tk (i := 7) (oi := ⟨some 63, .move (.tmp 62), 4, "ref.go:66", #[⟨6, .data⟩, ⟨3, .chain⟩, ⟨3, .guard⟩], some (3, true)⟩) (v := undef) rfl (by kernel_rfl) (fun _ _ _ h => h) (Or.inr ⟨by rfl, rfl⟩) (by assumption) ?_
        try simp only [Act.put, La1, La2, La3]
        refine tk (i := 8) (oi := ⟨some 64, .load 32 (.tmp 3), 32, "ref.go:66", #[⟨7, .guard⟩], some (7, true)⟩) (v := undef) rfl (by kernel_rfl) (fun _ _ _ h => h) (Or.inr ⟨by rfl, rfl⟩) (by assumption) ?_
        try simp only [Act.put, La1, La2, La3]
        refine tk (i := 9) (oi := ⟨some 65, .call { callee := .value (.func 42), args := #[.tmp 64], argTypes := #[32] }, 3, "ref.go:66", #[⟨8, .data⟩, ⟨7, .chain⟩, ⟨7, .guard⟩], some (7, true)⟩) (v := undef) rfl (by kernel_rfl) (fun _ _ _ h => h) (Or.inr ⟨by rfl, rfl⟩) (by assumption) ?_
        try simp only [Act.put, La1, La2, La3]
        refine tk (i := 10) (oi := ⟨some 66, .load 32 (.tmp 6), 32, "ref.go:66", #[⟨7, .guard⟩], some (7, true)⟩) (v := undef) rfl (by kernel_rfl) (fun _ _ _ h => h) (Or.inr ⟨by rfl, rfl⟩) (by assumption) ?_
        try simp only [Act.put, La1, La2, La3]
        refine tk (i := 11) (oi := ⟨some 67, .call { callee := .value (.func 42), args := #[.tmp 66], argTypes := #[32] }, 3, "ref.go:66", #[⟨10, .data⟩, ⟨9, .chain⟩, ⟨7, .guard⟩], some (7, true)⟩) (v := undef) rfl (by kernel_rfl) (fun _ _ _ h => h) (Or.inr ⟨by rfl, rfl⟩) (by assumption) ?_
        try simp only [Act.put, La1, La2, La3]
        refine tk (i := 12) (oi := ⟨some 68, .binOp .neq 3 (.tmp 65) (.tmp 67) 3, 4, "ref.go:66", #[⟨9, .data⟩, ⟨11, .data⟩, ⟨7, .guard⟩], some (7, true)⟩) (v := undef) rfl (by kernel_rfl) (fun _ _ _ h => h) (Or.inr ⟨by rfl, rfl⟩) (by assumption) ?_
        try simp only [Act.put, La1, La2, La3]
        refine tk (i := 13) (oi := ⟨some 69, .pick (.tmp 63) (.tmp 68) (.const (.bool false)), 4, "ref.go:66", #[⟨7, .data⟩, ⟨12, .data⟩, ⟨3, .guard⟩], some (3, true)⟩) (v := undef) rfl (by kernel_rfl) (fun _ _ _ h => h) (Or.inr ⟨by rfl, rfl⟩) (by assumption) ?_
        try simp only [Act.put, La1, La2, La3]
        refine tk (i := 14) (oi := ⟨some 70, .move (.tmp 69), 4, "ref.go:66", #[⟨13, .data⟩, ⟨11, .chain⟩, ⟨3, .guard⟩], some (3, true)⟩) (v := undef) rfl (by kernel_rfl) (fun _ _ _ h => h) (Or.inr ⟨by rfl, rfl⟩) (by assumption) ?_
        try simp only [Act.put, La1, La2, La3]
        refine tk (i := 15) (oi := ⟨some 71, .load 32 (.tmp 3), 32, "ref.go:66", #[⟨14, .guard⟩], some (14, false)⟩) (v := undef) rfl (by kernel_rfl) (fun _ _ _ h => h) (Or.inr ⟨by rfl, rfl⟩) (by assumption) ?_
        try simp only [Act.put, La1, La2, La3]
        refine tk (i := 16) (oi := ⟨some 72, .call { callee := .value (.func 42), args := #[.tmp 71], argTypes := #[32] }, 3, "ref.go:66", #[⟨15, .data⟩, ⟨14, .chain⟩, ⟨14, .guard⟩], some (14, false)⟩) (v := undef) rfl (by kernel_rfl) (fun _ _ _ h => h) (Or.inr ⟨by rfl, rfl⟩) (by assumption) ?_
        try simp only [Act.put, La1, La2, La3]
        refine tk (i := 17) (oi := ⟨some 73, .load 32 (.tmp 6), 32, "ref.go:66", #[⟨14, .guard⟩], some (14, false)⟩) (v := undef) rfl (by kernel_rfl) (fun _ _ _ h => h) (Or.inr ⟨by rfl, rfl⟩) (by assumption) ?_
        try simp only [Act.put, La1, La2, La3]
        refine tk (i := 18) (oi := ⟨some 74, .call { callee := .value (.func 42), args := #[.tmp 73], argTypes := #[32] }, 3, "ref.go:66", #[⟨17, .data⟩, ⟨16, .chain⟩, ⟨14, .guard⟩], some (14, false)⟩) (v := undef) rfl (by kernel_rfl) (fun _ _ _ h => h) (Or.inr ⟨by rfl, rfl⟩) (by assumption) ?_
        try simp only [Act.put, La1, La2, La3]
        refine tk (i := 19) (oi := ⟨some 75, .binOp .gtr 3 (.tmp 72) (.tmp 74) 3, 4, "ref.go:66", #[⟨16, .data⟩, ⟨18, .data⟩, ⟨14, .guard⟩], some (14, false)⟩) (v := undef) rfl (by kernel_rfl) (fun _ _ _ h => h) (Or.inr ⟨by rfl, rfl⟩) (by assumption) ?_
        try simp only [Act.put, La1, La2, La3]
        refine tk (i := 20) (oi := ⟨some 76, .pick (.tmp 70) (.const (.bool true)) (.tmp 75), 4, "ref.go:66", #[⟨14, .data⟩, ⟨19, .data⟩, ⟨3, .guard⟩], some (3, true)⟩) (v := undef) rfl (by kernel_rfl) (fun _ _ _ h => h) (Or.inr ⟨by rfl, rfl⟩) (by assumption) ?_
        try simp only [Act.put, La1, La2, La3]
        refine tk (i := 21) (oi := ⟨some 77, .pick (.tmp 59) (.tmp 76) (.const (.bool false)), 4, "ref.go:66", #[⟨3, .data⟩, ⟨20, .data⟩], none⟩) (v := .bool false) rfl (by kernel_rfl) (fun _ _ _ h => h) (Or.inl ⟨by rfl, ?_⟩) (by assumption) ?_
        ·
         intro wx hSw
         go_simp
         try with_reducible rfl
        try simp only [Act.put, La1, La2, La3]
        refine tk (i := 22) (oi := ⟨some 78, .move (.tmp 77), 4, "ref.go:66", #[⟨21, .data⟩, ⟨18, .chain⟩], none⟩) (v := .bool false) rfl (by kernel_rfl) (fun _ _ _ h => h) (Or.inl ⟨by rfl, ?_⟩) (by assumption) ?_
        ·
         intro wx hSw
         go_simp
         try with_reducible rfl
        try simp only [Act.put, La1, La2, La3]
        refine tk (i := 23) (oi := ⟨some 79, .fieldAddr 32 (.tmp 3) 6, 0, "ref.go:66", #[⟨22, .guard⟩], some (22, false)⟩) (v := .pointer (some ⟨w.heap.size, 6, none⟩)) rfl (by kernel_rfl) (fun _ _ _ h => h) (Or.inl ⟨by rfl, ?_⟩) (by assumption) ?_
        ·
         intro wx hSw
         go_simp
         try with_reducible rfl
        try simp only [Act.put, La1, La2, La3]
        refine tk (i := 24) (oi := ⟨some 80, .load 4 (.tmp 79), 4, "ref.go:66", #[⟨23, .data⟩, ⟨22, .guard⟩], some (22, false)⟩) (v := .bool p.mo) rfl (by kernel_rfl) (fun _ _ _ h => h) (Or.inl ⟨by rfl, ?_⟩) (by assumption) ?_
        ·
         intro wx hSw
         try dsimp only at hSw
         have u6 := hp6 wx hSw
         have t6 := hx6 wx hSw
         go_simp
         try with_reducible rfl
        try simp only [Act.put, La1, La2, La3]
        refine tk (i := 25) (oi := ⟨some 81, .unOp .not 4 (.tmp 80), 4, "ref.go:66", #[⟨24, .data⟩, ⟨22, .guard⟩], some (22, false)⟩) (v := .bool false) rfl (by kernel_rfl) (fun _ _ _ h => h) (Or.inl ⟨by rfl, ?_⟩) (by assumption) ?_
        ·
         intro wx hSw
         go_simp
         try with_reducible rfl
        try simp only [Act.put, La1, La2, La3]
        refine tk (i := 26) (oi := ⟨some 82, .move (.tmp 81), 4, "ref.go:66", #[⟨25, .data⟩, ⟨22, .chain⟩, ⟨22, .guard⟩], some (22, false)⟩) (v := .bool false) rfl (by kernel_rfl) (fun _ _ _ h => h) (Or.inl ⟨by rfl, ?_⟩) (by assumption) ?_
        ·
         intro wx hSw
         go_simp
         try with_reducible rfl
        try simp only [Act.put, La1, La2, La3]
        refine tk (i := 27) (oi := ⟨some 83, .load 32 (.tmp 6), 32, "ref.go:66", #[⟨26, .guard⟩], some (26, true)⟩) (v := undef) rfl (by kernel_rfl) (fun _ _ _ h => h) (Or.inr ⟨by rfl, rfl⟩) (by assumption) ?_
        try simp only [Act.put, La1, La2, La3]
        refine tk (i := 28) (oi := ⟨some 84, .call { callee := .value (.func 42), args := #[.tmp 83], argTypes := #[32] }, 3, "ref.go:66", #[⟨27, .data⟩, ⟨26, .chain⟩, ⟨26, .guard⟩], some (26, true)⟩) (v := undef) rfl (by kernel_rfl) (fun _ _ _ h => h) (Or.inr ⟨by rfl, rfl⟩) (by assumption) ?_
        try simp only [Act.put, La1, La2, La3]
        refine tk (i := 29) (oi := ⟨some 85, .load 32 (.tmp 3), 32, "ref.go:66", #[⟨26, .guard⟩], some (26, true)⟩) (v := undef) rfl (by kernel_rfl) (fun _ _ _ h => h) (Or.inr ⟨by rfl, rfl⟩) (by assumption) ?_
        try simp only [Act.put, La1, La2, La3]
        refine tk (i := 30) (oi := ⟨some 86, .call { callee := .value (.func 42), args := #[.tmp 85], argTypes := #[32] }, 3, "ref.go:66", #[⟨29, .data⟩, ⟨28, .chain⟩, ⟨26, .guard⟩], some (26, true)⟩) (v := undef) rfl (by kernel_rfl) (fun _ _ _ h => h) (Or.inr ⟨by rfl, rfl⟩) (by assumption) ?_
        try simp only [Act.put, La1, La2, La3]
        refine tk (i := 31) (oi := ⟨some 87, .binOp .gtr 3 (.tmp 84) (.tmp 86) 3, 4, "ref.go:66", #[⟨28, .data⟩, ⟨30, .data⟩, ⟨26, .guard⟩], some (26, true)⟩) (v := undef) rfl (by kernel_rfl) (fun _ _ _ h => h) (Or.inr ⟨by rfl, rfl⟩) (by assumption) ?_
        try simp only [Act.put, La1, La2, La3]
        refine tk (i := 32) (oi := ⟨some 88, .pick (.tmp 82) (.tmp 87) (.const (.bool false)), 4, "ref.go:66", #[⟨26, .data⟩, ⟨31, .data⟩, ⟨22, .guard⟩], some (22, false)⟩) (v := .bool false) rfl (by kernel_rfl) (fun _ _ _ h => h) (Or.inl ⟨by rfl, ?_⟩) (by assumption) ?_
        ·
         intro wx hSw
         go_simp
         try with_reducible rfl
        try simp only [Act.put, La1, La2, La3]
        refine tk (i := 33) (oi := ⟨some 89, .pick (.tmp 78) (.const (.bool true)) (.tmp 88), 4, "ref.go:66", #[⟨22, .data⟩, ⟨32, .data⟩], none⟩) (v := .bool false) rfl (by kernel_rfl) (fun _ _ _ h => h) (Or.inl ⟨by rfl, ?_⟩) (by assumption) ?_
        ·
         intro wx hSw
         go_simp
         try with_reducible rfl
        try simp only [Act.put, La1, La2, La3]
        refine wpAnyH_done (by kernel_rfl) ?_ _
        go_wp2
        go_meet
        case rel => exact ⟨by rw [HV.out], hHeld⟩
       | false =>
        by_cases hl : p.en < x.en
        ·
         have HV : Hid (rpaB x p = true) := by show _ = _; unfold rpaB; simp [hxm, hpm, hl]
         have hxb : (!x.mo) = false := by rw [hxm]; rfl
         have hpb : (!p.mo) = true := by rw [hpm]; rfl
         clear hxm hpm
         refine wp_region_held_drew (S := (fun W => Below w6.heap.size w6 W)) (by kernel_rfl) ?_ (fun hHeld => ?_)
         · first | exact (Below.refl _ _).drew | assumption
         refine tk (i := 0) (oi := ⟨some 56, .fieldAddr 32 (.tmp 6) 6, 0, "ref.go:66", #[], none⟩) (v := .pointer (some ⟨xb, 6, none⟩)) rfl (by kernel_rfl) (fun _ _ _ h => h) (Or.inl ⟨by rfl, ?_⟩) (by assumption) ?_
         ·
          intro wx hSw
          go_simp
          try with_reducible rfl
         try simp only [Act.put, La1, La2, La3]
         refine tk (i := 1) (oi := ⟨some 57, .load 4 (.tmp 56), 4, "ref.go:66", #[⟨0, .data⟩], none⟩) (v := .bool x.mo) rfl (by kernel_rfl) (fun _ _ _ h => h) (Or.inl ⟨by rfl, ?_⟩) (by assumption) ?_
         ·
          intro wx hSw
          try dsimp only at hSw
          have u6 := hp6 wx hSw
          have t6 := hx6 wx hSw
          go_simp
          try with_reducible rfl
         try simp only [Act.put, La1, La2, La3]
         refine tk (i := 2) (oi := ⟨some 58, .unOp .not 4 (.tmp 57), 4, "ref.go:66", #[⟨1, .data⟩], none⟩) (v := .bool false) rfl (by kernel_rfl) (fun _ _ _ h => h) (Or.inl ⟨by rfl, ?_⟩) (by assumption) ?_
         ·
          intro wx hSw
          go_simp
          try with_reducible rfl
         try simp only [Act.put, La1, La2, La3]
         refine tk (i := 3) (oi := ⟨some 59, .move (.tmp 58), 4, "ref.go:66", #[⟨2, .data⟩], none⟩) (v := .bool false) rfl (by kernel_rfl) (fun _ _ _ h => h) (Or.inl ⟨by rfl, ?_⟩) (by assumption) ?_
         ·
          intro wx hSw
          go_simp
          try with_reducible rfl
         try simp only [Act.put, La1, La2, La3]
         refine tk (i := 4) (oi := ⟨some 60, .fieldAddr 32 (.tmp 3) 6, 0, "ref.go:66", #[⟨3, .guard⟩], some (3, true)⟩) (v := undef) rfl (by kernel_rfl) (fun _ _ _ h => h) (Or.inr ⟨by rfl, rfl⟩) (by assumption) ?_
         try simp only [Act.put, La1, La2, La3]
         refine tk (i := 5) (oi := ⟨some 61, .load 4 (.tmp 60), 4, "ref.go:66", #[⟨4, .data⟩, ⟨3, .guard⟩], some (3, true)⟩) (v := undef) rfl (by kernel_rfl) (fun _ _ _ h => h) (Or.inr ⟨by rfl, rfl⟩) (by assumption) ?_
         try simp only [Act.put, La1, La2, La3]
         refine tk (i := 6) (oi := ⟨some 62, .unOp .not 4 (.tmp 61), 4, "ref.go:66", #[⟨5, .data⟩, ⟨3, .guard⟩], some (3, true)⟩) (v := undef) rfl (by kernel_rfl) (fun _ _ _ h => h) (Or.inr ⟨by rfl, rfl⟩) (by assumption) ?_
         try simp only [Act.put, La1, La2, La3]
         refine tk (i := 7) (oi := ⟨some 63, .move (.tmp 62), 4, "ref.go:66", #[⟨6, .data⟩, ⟨3, .chain⟩, ⟨3, .guard⟩], some (3, true)⟩) (v := undef) rfl (by kernel_rfl) (fun _ _ _ h => h) (Or.inr ⟨by rfl, rfl⟩) (by assumption) ?_
         try simp only [Act.put, La1, La2, La3]
         refine tk (i := 8) (oi := ⟨some 64, .load 32 (.tmp 3), 32, "ref.go:66", #[⟨7, .guard⟩], some (7, true)⟩) (v := undef) rfl (by kernel_rfl) (fun _ _ _ h => h) (Or.inr ⟨by rfl, rfl⟩) (by assumption) ?_
         try simp only [Act.put, La1, La2, La3]
         refine tk (i := 9) (oi := ⟨some 65, .call { callee := .value (.func 42), args := #[.tmp 64], argTypes := #[32] }, 3, "ref.go:66", #[⟨8, .data⟩, ⟨7, .chain⟩, ⟨7, .guard⟩], some (7, true)⟩) (v := undef) rfl (by kernel_rfl) (fun _ _ _ h => h) (Or.inr ⟨by rfl, rfl⟩) (by assumption) ?_
         try simp only [Act.put, La1, La2, La3]
         refine tk (i := 10) (oi := ⟨some 66, .load 32 (.tmp 6), 32, "ref.go:66", #[⟨7, .guard⟩], some (7, true)⟩) (v := undef) rfl (by kernel_rfl) (fun _ _ _ h => h) (Or.inr ⟨by rfl, rfl⟩) (by assumption) ?_
         try simp only [Act.put, La1, La2, La3]
         refine tk (i := 11) (oi := ⟨some 67, .call { callee := .value (.func 42), args := #[.tmp 66], argTypes := #[32] }, 3, "ref.go:66", #[⟨10, .data⟩, ⟨9, .chain⟩, ⟨7, .guard⟩], some (7, true)⟩) (v := undef) rfl (by kernel_rfl) (fun _ _ _ h => h) (Or.inr ⟨by rfl, rfl⟩) (by assumption) ?_
         try simp only [Act.put, La1, La2, La3]
         refine tk (i := 12) (oi := ⟨some 68, .binOp .neq 3 (.tmp 65) (.tmp 67) 3, 4, "ref.go:66", #[⟨9, .data⟩, ⟨11, .data⟩, ⟨7, .guard⟩], some (7, true)⟩) (v := undef) rfl (by kernel_rfl) (fun _ _ _ h => h) (Or.inr ⟨by rfl, rfl⟩) (by assumption) ?_
         try simp only [Act.put, La1, La2, La3]
         refine tk (i := 13) (oi := ⟨some 69, .pick (.tmp 63) (.tmp 68) (.const (.bool false)), 4, "ref.go:66", #[⟨7, .data⟩, ⟨12, .data⟩, ⟨3, .guard⟩], some (3, true)⟩) (v := undef) rfl (by kernel_rfl) (fun _ _ _ h => h) (Or.inr ⟨by rfl, rfl⟩) (by assumption) ?_
         try simp only [Act.put, La1, La2, La3]
         refine tk (i := 14) (oi := ⟨some 70, .move (.tmp 69), 4, "ref.go:66", #[⟨13, .data⟩, ⟨11, .chain⟩, ⟨3, .guard⟩], some (3, true)⟩) (v := undef) rfl (by kernel_rfl) (fun _ _ _ h => h) (Or.inr ⟨by rfl, rfl⟩) (by assumption) ?_
         try simp only [Act.put, La1, La2, La3]
         refine tk (i := 15) (oi := ⟨some 71, .load 32 (.tmp 3), 32, "ref.go:66", #[⟨14, .guard⟩], some (14, false)⟩) (v := undef) rfl (by kernel_rfl) (fun _ _ _ h => h) (Or.inr ⟨by rfl, rfl⟩) (by assumption) ?_
         try simp only [Act.put, La1, La2, La3]
         refine tk (i := 16) (oi := ⟨some 72, .call { callee := .value (.func 42), args := #[.tmp 71], argTypes := #[32] }, 3, "ref.go:66", #[⟨15, .data⟩, ⟨14, .chain⟩, ⟨14, .guard⟩], some (14, false)⟩) (v := undef) rfl (by kernel_rfl) (fun _ _ _ h => h) (Or.inr ⟨by rfl, rfl⟩) (by assumption) ?_
         try simp only [Act.put, La1, La2, La3]
         refine tk (i := 17) (oi := ⟨some 73, .load 32 (.tmp 6), 32, "ref.go:66", #[⟨14, .guard⟩], some (14, false)⟩) (v := undef) rfl (by kernel_rfl) (fun _ _ _ h => h) (Or.inr ⟨by rfl, rfl⟩) (by assumption) ?_
         try simp only [Act.put, La1, La2, La3]
         refine tk (i := 18) (oi := ⟨some 74, .call { callee := .value (.func 42), args := #[.tmp 73], argTypes := #[32] }, 3, "ref.go:66", #[⟨17, .data⟩, ⟨16, .chain⟩, ⟨14, .guard⟩], some (14, false)⟩) (v := undef) rfl (by kernel_rfl) (fun _ _ _ h => h) (Or.inr ⟨by rfl, rfl⟩) (by assumption) ?_
         try simp only [Act.put, La1, La2, La3]
         refine tk (i := 19) (oi := ⟨some 75, .binOp .gtr 3 (.tmp 72) (.tmp 74) 3, 4, "ref.go:66", #[⟨16, .data⟩, ⟨18, .data⟩, ⟨14, .guard⟩], some (14, false)⟩) (v := undef) rfl (by kernel_rfl) (fun _ _ _ h => h) (Or.inr ⟨by rfl, rfl⟩) (by assumption) ?_
         try simp only [Act.put, La1, La2, La3]
         refine tk (i := 20) (oi := ⟨some 76, .pick (.tmp 70) (.const (.bool true)) (.tmp 75), 4, "ref.go:66", #[⟨14, .data⟩, ⟨19, .data⟩, ⟨3, .guard⟩], some (3, true)⟩) (v := undef) rfl (by kernel_rfl) (fun _ _ _ h => h) (Or.inr ⟨by rfl, rfl⟩) (by assumption) ?_
         try simp only [Act.put, La1, La2, La3]
         refine tk (i := 21) (oi := ⟨some 77, .pick (.tmp 59) (.tmp 76) (.const (.bool false)), 4, "ref.go:66", #[⟨3, .data⟩, ⟨20, .data⟩], none⟩) (v := .bool false) rfl (by kernel_rfl) (fun _ _ _ h => h) (Or.inl ⟨by rfl, ?_⟩) (by assumption) ?_
         ·
          intro wx hSw
          go_simp
          try with_reducible rfl
         try simp only [Act.put, La1, La2, La3]
         refine tk (i := 22) (oi := ⟨some 78, .move (.tmp 77), 4, "ref.go:66", #[⟨21, .data⟩, ⟨18, .chain⟩], none⟩) (v := .bool false) rfl (by kernel_rfl) (fun _ _ _ h => h) (Or.inl ⟨by rfl, ?_⟩) (by assumption) ?_
         ·
          intro wx hSw
          go_simp
          try with_reducible rfl
         try simp only [Act.put, La1, La2, La3]
         refine tk (i := 23) (oi := ⟨some 79, .fieldAddr 32 (.tmp 3) 6, 0, "ref.go:66", #[⟨22, .guard⟩], some (22, false)⟩) (v := .pointer (some ⟨w.heap.size, 6, none⟩)) rfl (by kernel_rfl) (fun _ _ _ h => h) (Or.inl ⟨by rfl, ?_⟩) (by assumption) ?_
         ·
          intro wx hSw
          go_simp
          try with_reducible rfl
         try simp only [Act.put, La1, La2, La3]
         refine tk (i := 24) (oi := ⟨some 80, .load 4 (.tmp 79), 4, "ref.go:66", #[⟨23, .data⟩, ⟨22, .guard⟩], some (22, false)⟩) (v := .bool p.mo) rfl (by kernel_rfl) (fun _ _ _ h => h) (Or.inl ⟨by rfl, ?_⟩) (by assumption) ?_
         ·
          intro wx hSw
          try dsimp only at hSw
          have u6 := hp6 wx hSw
          have t6 := hx6 wx hSw
          go_simp
          try with_reducible rfl
         try simp only [Act.put, La1, La2, La3]
         refine tk (i := 25) (oi := ⟨some 81, .unOp .not 4 (.tmp 80), 4, "ref.go:66", #[⟨24, .data⟩, ⟨22, .guard⟩], some (22, false)⟩) (v := .bool true) rfl (by kernel_rfl) (fun _ _ _ h => h) (Or.inl ⟨by rfl, ?_⟩) (by assumption) ?_
         ·
          intro wx hSw
          go_simp
          try with_reducible rfl
         try simp only [Act.put, La1, La2, La3]
         refine tk (i := 26) (oi := ⟨some 82, .move (.tmp 81), 4, "ref.go:66", #[⟨25, .data⟩, ⟨22, .chain⟩, ⟨22, .guard⟩], some (22, false)⟩) (v := .bool true) rfl (by kernel_rfl) (fun _ _ _ h => h) (Or.inl ⟨by rfl, ?_⟩) (by assumption) ?_
         ·
          intro wx hSw
          go_simp
          try with_reducible rfl
         try simp only [Act.put, La1, La2, La3]
         refine tk (i := 27) (oi := ⟨some 83, .load 32 (.tmp 6), 32, "ref.go:66", #[⟨26, .guard⟩], some (26, true)⟩) (v := .agg #[.int .i64 x.f, .int .i64 x.t, .int .i64 x.tl, .int .i64 x.pr, .int .i64 x.id, .int .i64 x.fr, .bool x.mo, .bool x.dn, .string x.op, .string x.da]) rfl (by kernel_rfl) (fun _ _ _ h => h) (Or.inl ⟨by rfl, ?_⟩) (by assumption) ?_
         ·
          intro wx hSw
          try dsimp only at hSw
          have u0 := hp0 wx hSw
          have u1 := hp1 wx hSw
          have u2 := hp2 wx hSw
          have u3 := hp3 wx hSw
          have u4 := hp4 wx hSw
          have u5 := hp5 wx hSw
          have u6 := hp6 wx hSw
          have u7 := hp7 wx hSw
          have u8 := hp8 wx hSw
          have u9 := hp9 wx hSw
          have t0 := hx0 wx hSw
          have t1 := hx1 wx hSw
          have t2 := hx2 wx hSw
          have t3 := hx3 wx hSw
          have t4 := hx4 wx hSw
          have t5 := hx5 wx hSw
          have t6 := hx6 wx hSw
          have t7 := hx7 wx hSw
          have t8 := hx8 wx hSw
          have t9 := hx9 wx hSw
          go_simp
          try with_reducible rfl
         try simp only [Act.put, La1, La2, La3]
         refine tk (i := 29) (oi := ⟨some 85, .load 32 (.tmp 3), 32, "ref.go:66", #[⟨26, .guard⟩], some (26, true)⟩) (v := .agg #[.int .i64 p.f, .int .i64 p.t, .int .i64 p.tl, .int .i64 p.pr, .int .i64 p.id, .int .i64 p.fr, .bool p.mo, .bool p.dn, .string p.op, .string p.da]) rfl (by kernel_rfl) (fun _ _ _ h => h) (Or.inl ⟨by rfl, ?_⟩) (by assumption) ?_
         ·
          intro wx hSw
          try dsimp only at hSw
          have u0 := hp0 wx hSw
          have u1 := hp1 wx hSw
          have u2 := hp2 wx hSw
          have u3 := hp3 wx hSw
          have u4 := hp4 wx hSw
          have u5 := hp5 wx hSw
          have u6 := hp6 wx hSw
          have u7 := hp7 wx hSw
          have u8 := hp8 wx hSw
          have u9 := hp9 wx hSw
          have t0 := hx0 wx hSw
          have t1 := hx1 wx hSw
          have t2 := hx2 wx hSw
          have t3 := hx3 wx hSw
          have t4 := hx4 wx hSw
          have t5 := hx5 wx hSw
          have t6 := hx6 wx hSw
          have t7 := hx7 wx hSw
          have t8 := hx8 wx hSw
          have t9 := hx9 wx hSw
          go_simp
          try with_reducible rfl
         try simp only [Act.put, La1, La2, La3]
         refine wpAnyH_ready (rs := [28]) (by kernel_rfl) (by simp) ?_
         refine AllReadyH.cons (o := ⟨some 84, .call { callee := .value (.func 42), args := #[.tmp 83], argTypes := #[32] }, 3, "ref.go:66", #[⟨27, .data⟩, ⟨26, .chain⟩, ⟨26, .guard⟩], some (26, true)⟩) rfl (fun K hK => ?_) AllReadyH.nil
         go_simp
         go_at_call 42
         refine (rend_any x _ hxf).mono ?_
         rintro e wc5 ⟨rfl, hbc5⟩
         first
          | refine hK.out _ _ ?_ (fun hHeld => ?_)
          | (go_wp2_with fail; refine hK.out _ _ ?_ (fun hHeld => ?_))
         ·
          try dsimp only
          exact bt hHeld hbc5
         clear hK K
         try simp only [Act.put, La1, La2, La3]
         refine wpAnyH_ready (rs := [30]) (by kernel_rfl) (by simp) ?_
         refine AllReadyH.cons (o := ⟨some 86, .call { callee := .value (.func 42), args := #[.tmp 85], argTypes := #[32] }, 3, "ref.go:66", #[⟨29, .data⟩, ⟨28, .chain⟩, ⟨26, .guard⟩], some (26, true)⟩) rfl (fun K hK => ?_) AllReadyH.nil
         go_simp
         go_at_call 42
         refine (rend_any p _ hp).mono ?_
         rintro e wc6 ⟨rfl, hbc6⟩
         first
          | refine hK.out _ _ ?_ (fun hHeld => ?_)
          | (go_wp2_with fail; refine hK.out _ _ ?_ (fun hHeld => ?_))
         ·
          try dsimp only
          exact bt hHeld hbc6
         clear hK K
         try simp only [Act.put, La1, La2, La3]
         refine tk (i := 31) (oi := ⟨some 87, .binOp .gtr 3 (.tmp 84) (.tmp 86) 3, 4, "ref.go:66", #[⟨28, .data⟩, ⟨30, .data⟩, ⟨26, .guard⟩], some (26, true)⟩) (v := .bool true) rfl (by kernel_rfl) (fun _ _ _ h => h) (Or.inl ⟨by rfl, ?_⟩) (by assumption) ?_
         ·
          intro wx hSw
          go_simp
          try with_reducible rfl
         try simp only [Act.put, La1, La2, La3]
         refine tk (i := 32) (oi := ⟨some 88, .pick (.tmp 82) (.tmp 87) (.const (.bool false)), 4, "ref.go:66", #[⟨26, .data⟩, ⟨31, .data⟩, ⟨22, .guard⟩], some (22, false)⟩) (v := .bool true) rfl (by kernel_rfl) (fun _ _ _ h => h) (Or.inl ⟨by rfl, ?_⟩) (by assumption) ?_
         ·
          intro wx hSw
          go_simp
          try with_reducible rfl
         try simp only [Act.put, La1, La2, La3]
         refine tk (i := 33) (oi := ⟨some 89, .pick (.tmp 78) (.const (.bool true)) (.tmp 88), 4, "ref.go:66", #[⟨22, .data⟩, ⟨32, .data⟩], none⟩) (v := .bool true) rfl (by kernel_rfl) (fun _ _ _ h => h) (Or.inl ⟨by rfl, ?_⟩) (by assumption) ?_
         ·
          intro wx hSw
          go_simp
          try with_reducible rfl
         try simp only [Act.put, La1, La2, La3]
         refine wpAnyH_done (by kernel_rfl) ?_ _
         go_wp2
         go_meet
         case rel => exact ⟨by rw [HV.out], hHeld⟩
        ·
         have HV : Hid (rpaB x p = false) := by show _ = _; unfold rpaB; simp [hxm, hpm, hl]
         have hxb : (!x.mo) = false := by rw [hxm]; rfl
         have hpb : (!p.mo) = true := by rw [hpm]; rfl
         clear hxm hpm
         refine wp_region_held_drew (S := (fun W => Below w6.heap.size w6 W)) (by kernel_rfl) ?_ (fun hHeld => ?_)
         · first | exact (Below.refl _ _).drew | assumption
         refine tk (i := 0) (oi := ⟨some 56, .fieldAddr 32 (.tmp 6) 6, 0, "ref.go:66", #[], none⟩) (v := .pointer (some ⟨xb, 6, none⟩)) rfl (by kernel_rfl) (fun _ _ _ h => h) (Or.inl ⟨by rfl, ?_⟩) (by assumption) ?_
         ·
          intro wx hSw
          go_simp
          try with_reducible rfl
         try simp only [Act.put, La1, La2, La3]
         refine tk (i := 1) (oi := ⟨some 57, .load 4 (.tmp 56), 4, "ref.go:66", #[⟨0, .data⟩], none⟩) (v := .bool x.mo) rfl (by kernel_rfl) (fun _ _ _ h => h) (Or.inl ⟨by rfl, ?_⟩) (by assumption) ?_
         ·
          intro wx hSw
          try dsimp only at hSw
          have u6 := hp6 wx hSw
          have t6 := hx6 wx hSw
          go_simp
          try with_reducible rfl
         try simp only [Act.put, La1, La2, La3]
         refine tk (i := 2) (oi := ⟨some 58, .unOp .not 4 (.tmp 57), 4, "ref.go:66", #[⟨1, .data⟩], none⟩) (v := .bool false) rfl (by kernel_rfl) (fun _ _ _ h => h) (Or.inl ⟨by rfl, ?_⟩) (by assumption) ?_
         ·
          intro wx hSw
          go_simp
          try with_reducible rfl
         try simp only [Act.put, La1, La2, La3]
         refine tk (i := 3) (oi := ⟨some 59, .move (.tmp 58), 4, "ref.go:66", #[⟨2, .data⟩], none⟩) (v := .bool false) rfl (by kernel_rfl) (fun _ _ _ h => h) (Or.inl ⟨by rfl, ?_⟩) (by assumption) ?_
         ·
          intro wx hSw
          go_simp
          try with_reducible rfl
         try simp only [Act.put, La1, La2, La3]
         refine tk (i := 4) (oi := ⟨some 60, .fieldAddr 32 (.tmp 3) 6, 0, "ref.go:66", #[⟨3, .guard⟩], some (3, true)⟩) (v := undef) rfl (by kernel_rfl) (fun _ _ _ h => h) (Or.inr ⟨by rfl, rfl⟩) (by assumption) ?_
         try simp only [Act.put, La1, La2, La3]
         refine tk (i := 5) (oi := ⟨some 61, .load 4 (.tmp 60), 4, "ref.go:66", #[⟨4, .data⟩, ⟨3, .guard⟩], some (3, true)⟩) (v := undef) rfl (by kernel_rfl) (fun _ _ _ h => h) (Or.inr ⟨by rfl, rfl⟩) (by assumption) ?_
         try simp only [Act.put, La1, La2, La3]
         refine tk (i := 6) (oi := ⟨some 62, .unOp .not 4 (.tmp 61), 4, "ref.go:66", #[⟨5, .data⟩, ⟨3, .guard⟩], some (3, true)⟩) (v := undef) rfl (by kernel_rfl) (fun _ _ _ h => h) (Or.inr ⟨by rfl, rfl⟩) (by assumption) ?_
         try simp only [Act.put, La1, La2, La3]
         refine tk (i := 7) (oi := ⟨some 63, .move (.tmp 62), 4, "ref.go:66", #[⟨6, .data⟩, ⟨3, .chain⟩, ⟨3, .guard⟩], some (3, true)⟩) (v := undef) rfl (by kernel_rfl) (fun _ _ _ h => h) (Or.inr ⟨by rfl, rfl⟩) (by assumption) ?_
         try simp only [Act.put, La1, La2, La3]
         refine tk (i := 8) (oi := ⟨some 64, .load 32 (.tmp 3), 32, "ref.go:66", #[⟨7, .guard⟩], some (7, true)⟩) (v := undef) rfl (by kernel_rfl) (fun _ _ _ h => h) (Or.inr ⟨by rfl, rfl⟩) (by assumption) ?_
         try simp only [Act.put, La1, La2, La3]
         refine tk (i := 9) (oi := ⟨some 65, .call { callee := .value (.func 42), args := #[.tmp 64], argTypes := #[32] }, 3, "ref.go:66", #[⟨8, .data⟩, ⟨7, .chain⟩, ⟨7, .guard⟩], some (7, true)⟩) (v := undef) rfl (by kernel_rfl) (fun _ _ _ h => h) (Or.inr ⟨by rfl, rfl⟩) (by assumption) ?_
         try simp only [Act.put, La1, La2, La3]
         refine tk (i := 10) (oi := ⟨some 66, .load 32 (.tmp 6), 32, "ref.go:66", #[⟨7, .guard⟩], some (7, true)⟩) (v := undef) rfl (by kernel_rfl) (fun _ _ _ h => h) (Or.inr ⟨by rfl, rfl⟩) (by assumption) ?_
         try simp only [Act.put, La1, La2, La3]
         refine tk (i := 11) (oi := ⟨some 67, .call { callee := .value (.func 42), args := #[.tmp 66], argTypes := #[32] }, 3, "ref.go:66", #[⟨10, .data⟩, ⟨9, .chain⟩, ⟨7, .guard⟩], some (7, true)⟩) (v := undef) rfl (by kernel_rfl) (fun _ _ _ h => h) (Or.inr ⟨by rfl, rfl⟩) (by assumption) ?_
         try simp only [Act.put, La1, La2, La3]
         refine tk (i := 12) (oi := ⟨some 68, .binOp .neq 3 (.tmp 65) (.tmp 67) 3, 4, "ref.go:66", #[⟨9, .data⟩, ⟨11, .data⟩, ⟨7, .guard⟩], some (7, true)⟩) (v := undef) rfl (by kernel_rfl) (fun _ _ _ h => h) (Or.inr ⟨by rfl, rfl⟩) (by assumption) ?_
         try simp only [Act.put, La1, La2, La3]
         refine tk (i := 13) (oi := ⟨some 69, .pick (.tmp 63) (.tmp 68) (.const (.bool false)), 4, "ref.go:66", #[⟨7, .data⟩, ⟨12, .data⟩, ⟨3, .guard⟩], some (3, true)⟩) (v := undef) rfl (by kernel_rfl) (fun _ _ _ h => h) (Or.inr ⟨by rfl, rfl⟩) (by assumption) ?_
         try simp only [Act.put, La1, La2, La3]
         refine tk (i := 14) (oi := ⟨some 70, .move (.tmp 69), 4, "ref.go:66", #[⟨13, .data⟩, ⟨11, .chain⟩, ⟨3, .guard⟩], some (3, true)⟩) (v := undef) rfl (by kernel_rfl) (fun _ _ _ h => h) (Or.inr ⟨by rfl, rfl⟩) (by assumption) ?_
         try simp only [Act.put, La1, La2, La3]
         refine tk (i := 15) (oi := ⟨some 71, .load 32 (.tmp 3), 32, "ref.go:66", #[⟨14, .guard⟩], some (14, false)⟩) (v := undef) rfl (by kernel_rfl) (fun _ _ _ h => h) (Or.inr ⟨by rfl, rfl⟩) (by assumption) ?_
         try simp only [Act.put, La1, La2, La3]
         refine tk (i := 16) (oi := ⟨some 72, .call { callee := .value (.func 42), args := #[.tmp 71], argTypes := #[32] }, 3, "ref.go:66", #[⟨15, .data⟩, ⟨14, .chain⟩, ⟨14, .guard⟩], some (14, false)⟩) (v := undef) rfl (by kernel_rfl) (fun _ _ _ h => h) (Or.inr ⟨by rfl, rfl⟩) (by assumption) ?_
         try simp only [Act.put, La1, La2, La3]
         refine tk (i := 17) (oi := ⟨some 73, .load 32 (.tmp 6), 32, "ref.go:66", #[⟨14, .guard⟩], some (14, false)⟩) (v := undef) rfl (by kernel_rfl) (fun _ _ _ h => h) (Or.inr ⟨by rfl, rfl⟩) (by assumption) ?_
         try simp only [Act.put, La1, La2, La3]
         refine tk (i := 18) (oi := ⟨some 74, .call { callee := .value (.func 42), args := #[.tmp 73], argTypes := #[32] }, 3, "ref.go:66", #[⟨17, .data⟩, ⟨16, .chain⟩, ⟨14, .guard⟩], some (14, false)⟩) (v := undef) rfl (by kernel_rfl) (fun _ _ _ h => h) (Or.inr ⟨by rfl, rfl⟩) (by assumption) ?_
         try simp only [Act.put, La1, La2, La3]
         refine tk (i := 19) (oi := ⟨some 75, .binOp .gtr 3 (.tmp 72) (.tmp 74) 3, 4, "ref.go:66", #[⟨16, .data⟩, ⟨18, .data⟩, ⟨14, .guard⟩], some (14, false)⟩) (v := undef) rfl (by kernel_rfl) (fun _ _ _ h => h) (Or.inr ⟨by rfl, rfl⟩) (by assumption) ?_
         try simp only [Act.put, La1, La2, La3]
         refine tk (i := 20) (oi := ⟨some 76, .pick (.tmp 70) (.const (.bool true)) (.tmp 75), 4, "ref.go:66", #[⟨14, .data⟩, ⟨19, .data⟩, ⟨3, .guard⟩], some (3, true)⟩) (v := undef) rfl (by kernel_rfl) (fun _ _ _ h => h) (Or.inr ⟨by rfl, rfl⟩) (by assumption) ?_
         try simp only [Act.put, La1, La2, La3]
         refine tk (i := 21) (oi := ⟨some 77, .pick (.tmp 59) (.tmp 76) (.const (.bool false)), 4, "ref.go:66", #[⟨3, .data⟩, ⟨20, .data⟩], none⟩) (v := .bool false) rfl (by kernel_rfl) (fun _ _ _ h => h) (Or.inl ⟨by rfl, ?_⟩) (by assumption) ?_
         ·
          intro wx hSw
          go_simp
          try with_reducible rfl
         try simp only [Act.put, La1, La2, La3]
         refine tk (i := 22) (oi := ⟨some 78, .move (.tmp 77), 4, "ref.go:66", #[⟨21, .data⟩, ⟨18, .chain⟩], none⟩) (v := .bool false) rfl (by kernel_rfl) (fun _ _ _ h => h) (Or.inl ⟨by rfl, ?_⟩) (by assumption) ?_
         ·
          intro wx hSw
          go_simp
          try with_reducible rfl
         try simp only [Act.put, La1, La2, La3]
         refine tk (i := 23) (oi := ⟨some 79, .fieldAddr 32 (.tmp 3) 6, 0, "ref.go:66", #[⟨22, .guard⟩], some (22, false)⟩) (v := .pointer (some ⟨w.heap.size, 6, none⟩)) rfl (by kernel_rfl) (fun _ _ _ h => h) (Or.inl ⟨by rfl, ?_⟩) (by assumption) ?_
         ·
          intro wx hSw
          go_simp
          try with_reducible rfl
         try simp only [Act.put, La1, La2, La3]
         refine tk (i := 24) (oi := ⟨some 80, .load 4 (.tmp 79), 4, "ref.go:66", #[⟨23, .data⟩, ⟨22, .guard⟩], some (22, false)⟩) (v := .bool p.mo) rfl (by kernel_rfl) (fun _ _ _ h => h) (Or.inl ⟨by rfl, ?_⟩) (by assumption) ?_
         ·
          intro wx hSw
          try dsimp only at hSw
          have u6 := hp6 wx hSw
          have t6 := hx6 wx hSw
          go_simp
          try with_reducible rfl
         try simp only [Act.put, La1, La2, La3]
         refine tk (i := 25) (oi := ⟨some 81, .unOp .not 4 (.tmp 80), 4, "ref.go:66", #[⟨24, .data⟩, ⟨22, .guard⟩], some (22, false)⟩) (v := .bool true) rfl (by kernel_rfl) (fun _ _ _ h => h) (Or.inl ⟨by rfl, ?_⟩) (by assumption) ?_
         ·
          intro wx hSw
          go_simp
          try with_reducible rfl
         try simp only [Act.put, La1, La2, La3]
         refine tk (i := 26) (oi := ⟨some 82, .move (.tmp 81), 4, "ref.go:66", #[⟨25, .data⟩, ⟨22, .chain⟩, ⟨22, .guard⟩], some (22, false)⟩) (v := .bool true) rfl (by kernel_rfl) (fun _ _ _ h => h) (Or.inl ⟨by rfl, ?_⟩) (by assumption) ?_
         ·
          intro wx hSw
          go_simp
          try with_reducible rfl
         try simp only [Act.put, La1, La2, La3]
         refine tk (i := 27) (oi := ⟨some 83, .load 32 (.tmp 6), 32, "ref.go:66", #[⟨26, .guard⟩], some (26, true)⟩) (v := .agg #[.int .i64 x.f, .int .i64 x.t, .int .i64 x.tl, .int .i64 x.pr, .int .i64 x.id, .int .i64 x.fr, .bool x.mo, .bool x.dn, .string x.op, .string x.da]) rfl (by kernel_rfl) (fun _ _ _ h => h) (Or.inl ⟨by rfl, ?_⟩) (by assumption) ?_
         ·
          intro wx hSw
          try dsimp only at hSw
          have u0 := hp0 wx hSw
          have u1 := hp1 wx hSw
          have u2 := hp2 wx hSw
          have u3 := hp3 wx hSw
          have u4 := hp4 wx hSw
          have u5 := hp5 wx hSw
          have u6 := hp6 wx hSw
          have u7 := hp7 wx hSw
          have u8 := hp8 wx hSw
          have u9 := hp9 wx hSw
          have t0 := hx0 wx hSw
          have t1 := hx1 wx hSw
          have t2 := hx2 wx hSw
          have t3 := hx3 wx hSw
          have t4 := hx4 wx hSw
          have t5 := hx5 wx hSw
          have t6 := hx6 wx hSw
          have t7 := hx7 wx hSw
          have t8 := hx8 wx hSw
          have t9 := hx9 wx hSw
          go_simp
          try with_reducible rfl
         try simp only [Act.put, La1, La2, La3]
         refine tk (i := 29) (oi := ⟨some 85, .load 32 (.tmp 3), 32, "ref.go:66", #[⟨26, .guard⟩], some (26, true)⟩) (v := .agg #[.int .i64 p.f, .int .i64 p.t, .int .i64 p.tl, .int .i64 p.pr, .int .i64 p.id, .int .i64 p.fr, .bool p.mo, .bool p.dn, .string p.op, .string p.da]) rfl (by kernel_rfl) (fun _ _ _ h => h) (Or.inl ⟨by rfl, ?_⟩) (by assumption) ?_
         ·
          intro wx hSw
          try dsimp only at hSw
          have u0 := hp0 wx hSw
          have u1 := hp1 wx hSw
          have u2 := hp2 wx hSw
          have u3 := hp3 wx hSw
          have u4 := hp4 wx hSw
          have u5 := hp5 wx hSw
          have u6 := hp6 wx hSw
          have u7 := hp7 wx hSw
          have u8 := hp8 wx hSw
          have u9 := hp9 wx hSw
          have t0 := hx0 wx hSw
          have t1 := hx1 wx hSw
          have t2 := hx2 wx hSw
          have t3 := hx3 wx hSw
          have t4 := hx4 wx hSw
          have t5 := hx5 wx hSw
          have t6 := hx6 wx hSw
          have t7 := hx7 wx hSw
          have t8 := hx8 wx hSw
          have t9 := hx9 wx hSw
          go_simp
          try with_reducible rfl
         try simp only [Act.put, La1, La2, La3]
         refine wpAnyH_ready (rs := [28]) (by kernel_rfl) (by simp) ?_
         refine AllReadyH.cons (o := ⟨some 84, .call { callee := .value (.func 42), args := #[.tmp 83], argTypes := #[32] }, 3, "ref.go:66", #[⟨27, .data⟩, ⟨26, .chain⟩, ⟨26, .guard⟩], some (26, true)⟩) rfl (fun K hK => ?_) AllReadyH.nil
         go_simp
         go_at_call 42
         refine (rend_any x _ hxf).mono ?_
         rintro e wc5 ⟨rfl, hbc5⟩
         first
          | refine hK.out _ _ ?_ (fun hHeld => ?_)
          | (go_wp2_with fail; refine hK.out _ _ ?_ (fun hHeld => ?_))
         ·
          try dsimp only
          exact bt hHeld hbc5
         clear hK K
         try simp only [Act.put, La1, La2, La3]
         refine wpAnyH_ready (rs := [30]) (by kernel_rfl) (by simp) ?_
         refine AllReadyH.cons (o := ⟨some 86, .call { callee := .value (.func 42), args := #[.tmp 85], argTypes := #[32] }, 3, "ref.go:66", #[⟨29, .data⟩, ⟨28, .chain⟩, ⟨26, .guard⟩], some (26, true)⟩) rfl (fun K hK => ?_) AllReadyH.nil
         go_simp
         go_at_call 42
         refine (rend_any p _ hp).mono ?_
         rintro e wc6 ⟨rfl, hbc6⟩
         first
          | refine hK.out _ _ ?_ (fun hHeld => ?_)
          | (go_wp2_with fail; refine hK.out _ _ ?_ (fun hHeld => ?_))
         ·
          try dsimp only
          exact bt hHeld hbc6
         clear hK K
         try simp only [Act.put, La1, La2, La3]
         refine tk (i := 31) (oi := ⟨some 87, .binOp .gtr 3 (.tmp 84) (.tmp 86) 3, 4, "ref.go:66", #[⟨28, .data⟩, ⟨30, .data⟩, ⟨26, .guard⟩], some (26, true)⟩) (v := .bool false) rfl (by kernel_rfl) (fun _ _ _ h => h) (Or.inl ⟨by rfl, ?_⟩) (by assumption) ?_
         ·
          intro wx hSw
          go_simp
          try with_reducible rfl
         try simp only [Act.put, La1, La2, La3]
         refine tk (i := 32) (oi := ⟨some 88, .pick (.tmp 82) (.tmp 87) (.const (.bool false)), 4, "ref.go:66", #[⟨26, .data⟩, ⟨31, .data⟩, ⟨22, .guard⟩], some (22, false)⟩) (v := .bool false) rfl (by kernel_rfl) (fun _ _ _ h => h) (Or.inl ⟨by rfl, ?_⟩) (by assumption) ?_
         ·
          intro wx hSw
          go_simp
          try with_reducible rfl
         try simp only [Act.put, La1, La2, La3]
         refine tk (i := 33) (oi := ⟨some 89, .pick (.tmp 78) (.const (.bool true)) (.tmp 88), 4, "ref.go:66", #[⟨22, .data⟩, ⟨32, .data⟩], none⟩) (v := .bool false) rfl (by kernel_rfl) (fun _ _ _ h => h) (Or.inl ⟨by rfl, ?_⟩) (by assumption) ?_
         ·
          intro wx hSw
          go_simp
          try with_reducible rfl
         try simp only [Act.put, La1, La2, La3]
         refine wpAnyH_done (by kernel_rfl) ?_ _
         go_wp2
         go_meet
         case rel => exact ⟨by rw [HV.out], hHeld⟩
      | false =>
       obtain ⟨pm, hpm⟩ : ∃ b, p.mo = b := ⟨_, rfl⟩
       cases pm with
       | true =>
        by_cases hg : x.en < p.en
        ·
         have HV : Hid (rpaB x p = true) := by show _ = _; unfold rpaB; simp [hxm, hpm, hg]
         have hxb : (!x.mo) = true := by rw [hxm]; rfl
         have hpb : (!p.mo) = false := by rw [hpm]; rfl
         clear hxm hpm
         refine wp_region_held_drew (S := (fun W => Below w6.heap.size w6 W)) (by kernel_rfl) ?_ (fun hHeld => ?_)
         · first | exact (Below.refl _ _).drew | assumption
         refine tk (i := 0) (oi := ⟨some 56, .fieldAddr 32 (.tmp 6) 6, 0, "ref.go:66", #[], none⟩) (v := .pointer (some ⟨xb, 6, none⟩)) rfl (by kernel_rfl) (fun _ _ _ h => h) (Or.inl ⟨by rfl, ?_⟩) (by assumption) ?_
         ·
          intro wx hSw
          go_simp
          try with_reducible rfl
         try simp only [Act.put, La1, La2, La3]
         refine tk (i := 1) (oi := ⟨some 57, .load 4 (.tmp 56), 4, "ref.go:66", #[⟨0, .data⟩], none⟩) (v := .bool x.mo) rfl (by kernel_rfl) (fun _ _ _ h => h) (Or.inl ⟨by rfl, ?_⟩) (by assumption) ?_
         ·
          intro wx hSw
          try dsimp only at hSw
          have u6 := hp6 wx hSw
          have t6 := hx6 wx hSw
          go_simp
          try with_reducible rfl
         try simp only [Act.put, La1, La2, La3]
         refine tk (i := 2) (oi := ⟨some 58, .unOp .not 4 (.tmp 57), 4, "ref.go:66", #[⟨1, .data⟩], none⟩) (v := .bool true) rfl (by kernel_rfl) (fun _ _ _ h => h) (Or.inl ⟨by rfl, ?_⟩) (by assumption) ?_
         ·
          intro wx hSw
          go_simp
          try with_reducible rfl
         try simp only [Act.put, La1, La2, La3]
         refine tk (i := 3) (oi := ⟨some 59, .move (.tmp 58), 4, "ref.go:66", #[⟨2, .data⟩], none⟩) (v := .bool true) rfl (by kernel_rfl) (fun _ _ _ h => h) (Or.inl ⟨by rfl, ?_⟩) (by assumption) ?_
         ·
          intro wx hSw
          go_simp
          try with_reducible rfl
         try simp only [Act.put, La1, La2, La3]
         refine tk (i := 4) (oi := ⟨some 60, .fieldAddr 32 (.tmp 3) 6, 0, "ref.go:66", #[⟨3, .guard⟩], some (3, true)⟩) (v := .pointer (some ⟨w.heap.size, 6, none⟩)) rfl (by kernel_rfl) (fun _ _ _ h => h) (Or.inl ⟨by rfl, ?_⟩) (by assumption) ?_
         ·
          intro wx hSw
          go_simp
          try with_reducible rfl
         try simp only [Act.put, La1, La2, La3]
         refine tk (i := 5) (oi := ⟨some 61, .load 4 (.tmp 60), 4, "ref.go:66", #[⟨4, .data⟩, ⟨3, .guard⟩], some (3, true)⟩) (v := .bool p.mo) rfl (by kernel_rfl) (fun _ _ _ h => h) (Or.inl ⟨by rfl, ?_⟩) (by assumption) ?_
         ·
          intro wx hSw
          try dsimp only at hSw
          have u6 := hp6 wx hSw
          have t6 := hx6 wx hSw
          go_simp
          try with_reducible rfl
         try simp only [Act.put, La1, La2, La3]
         refine tk (i := 6) (oi := ⟨some 62, .unOp .not 4 (.tmp 61), 4, "ref.go:66", #[⟨5, .data⟩, ⟨3, .guard⟩], some (3, true)⟩) (v := .bool false) rfl (by kernel_rfl) (fun _ _ _ h => h) (Or.inl ⟨by rfl, ?_⟩) (by assumption) ?_
         ·
          intro wx hSw
          go_simp
          try with_reducible rfl
         try simp only [Act.put, La1, La2, La3]
         refine tk (i := 7) (oi := ⟨some 63, .move (.tmp 62), 4, "ref.go:66", #[⟨6, .data⟩, ⟨3, .chain⟩, ⟨3, .guard⟩], some (3, true)⟩) (v := .bool false) rfl (by kernel_rfl) (fun _ _ _ h => h) (Or.inl ⟨by rfl, ?_⟩) (by assumption) ?_
         ·
          intro wx hSw
          go_simp
          try with_reducible rfl
         try simp only [Act.put, La1, La2, La3]
         refine tk (i := 8) (oi := ⟨some 64, .load 32 (.tmp 3), 32, "ref.go:66", #[⟨7, .guard⟩], some (7, true)⟩) (v := undef) rfl (by kernel_rfl) (fun _ _ _ h => h) (Or.inr ⟨by rfl, rfl⟩) (by assumption) ?_
         try simp only [Act.put, La1, La2, La3]
         refine tk (i := 9) (oi := ⟨some 65, .call { callee := .value (.func 42), args := #[.tmp 64], argTypes := #[32] }, 3, "ref.go:66", #[⟨8, .data⟩, ⟨7, .chain⟩, ⟨7, .guard⟩], some (7, true)⟩) (v := undef) rfl (by kernel_rfl) (fun _ _ _ h => h) (Or.inr ⟨by rfl, rfl⟩) (by assumption) ?_
         try simp only [Act.put, La1, La2, La3]
         refine tk (i := 10) (oi := ⟨some 66, .load 32 (.tmp 6), 32, "ref.go:66", #[⟨7, .guard⟩], some (7, true)⟩) (v := undef) rfl (by kernel_rfl) (fun _ _ _ h => h) (Or.inr ⟨by rfl, rfl⟩) (by assumption) ?_
         try simp only [Act.put, La1, La2, La3]
         refine tk (i := 11) (oi := ⟨some 67, .call { callee := .value (.func 42), args := #[.tmp 66], argTypes := #[32] }, 3, "ref.go:66", #[⟨10, .data⟩, ⟨9, .chain⟩, ⟨7, .guard⟩], some (7, true)⟩) (v := undef) rfl (by kernel_rfl) (fun _ _ _ h => h) (Or.inr ⟨by rfl, rfl⟩) (by assumption) ?_
         try simp only [Act.put, La1, La2, La3]
         refine tk (i := 12) (oi := ⟨some 68, .binOp .neq 3 (.tmp 65) (.tmp 67) 3, 4, "ref.go:66", #[⟨9, .data⟩, ⟨11, .data⟩, ⟨7, .guard⟩], some (7, true)⟩) (v := undef) rfl (by kernel_rfl) (fun _ _ _ h => h) (Or.inr ⟨by rfl, rfl⟩) (by assumption) ?_
         try simp only [Act.put, La1, La2, La3]
         refine tk (i := 13) (oi := ⟨some 69, .pick (.tmp 63) (.tmp 68) (.const (.bool false)), 4, "ref.go:66", #[⟨7, .data⟩, ⟨12, .data⟩, ⟨3, .guard⟩], some (3, true)⟩) (v := .bool false) rfl (by kernel_rfl) (fun _ _ _ h => h) (Or.inl ⟨by rfl, ?_⟩) (by assumption) ?_
         ·
          intro wx hSw
          go_simp
          try with_reducible rfl
         try simp only [Act.put, La1, La2, La3]
         refine tk (i := 14) (oi := ⟨some 70, .move (.tmp 69), 4, "ref.go:66", #[⟨13, .data⟩, ⟨11, .chain⟩, ⟨3, .guard⟩], some (3, true)⟩) (v := .bool false) rfl (by kernel_rfl) (fun _ _ _ h => h) (Or.inl ⟨by rfl, ?_⟩) (by assumption) ?_
         ·
          intro wx hSw
          go_simp
          try with_reducible rfl
         try simp only [Act.put, La1, La2, La3]
         refine tk (i := 15) (oi := ⟨some 71, .load 32 (.tmp 3), 32, "ref.go:66", #[⟨14, .guard⟩], some (14, false)⟩) (v := .agg #[.int .i64 p.f, .int .i64 p.t, .int .i64 p.tl, .int .i64 p.pr, .int .i64 p.id, .int .i64 p.fr, .bool p.mo, .bool p.dn, .string p.op, .string p.da]) rfl (by kernel_rfl) (fun _ _ _ h => h) (Or.inl ⟨by rfl, ?_⟩) (by assumption) ?_
         ·
          intro wx hSw
          try dsimp only at hSw
          have u0 := hp0 wx hSw
          have u1 := hp1 wx hSw
          have u2 := hp2 wx hSw
          have u3 := hp3 wx hSw
          have u4 := hp4 wx hSw
          have u5 := hp5 wx hSw
          have u6 := hp6 wx hSw
          have u7 := hp7 wx hSw
          have u8 := hp8 wx hSw
          have u9 := hp9 wx hSw
          have t0 := hx0 wx hSw
          have t1 := hx1 wx hSw
          have t2 := hx2 wx hSw
          have t3 := hx3 wx hSw
          have t4 := hx4 wx hSw
          have t5 := hx5 wx hSw
          have t6 := hx6 wx hSw
          have t7 := hx7 wx hSw
          have t8 := hx8 wx hSw
          have t9 := hx9 wx hSw
          go_simp
          try with_reducible rfl
         try simp only [Act.put, La1, La2, La3]
         refine tk (i := 17) (oi := ⟨some 73, .load 32 (.tmp 6), 32, "ref.go:66", #[⟨14, .guard⟩], some (14, false)⟩) (v := .agg #[.int .i64 x.f, .int .i64 x.t, .int .i64 x.tl, .int .i64 x.pr, .int .i64 x.id, .int .i64 x.fr, .bool x.mo, .bool x.dn, .string x.op, .string x.da]) rfl (by kernel_rfl) (fun _ _ _ h => h) (Or.inl ⟨by rfl, ?_⟩) (by assumption) ?_
         ·
          intro wx hSw
          try dsimp only at hSw
          have u0 := hp0 wx hSw
          have u1 := hp1 wx hSw
          have u2 := hp2 wx hSw
          have u3 := hp3 wx hSw
          have u4 := hp4 wx hSw
          have u5 := hp5 wx hSw
          have u6 := hp6 wx hSw
          have u7 := hp7 wx hSw
          have u8 := hp8 wx hSw
          have u9 := hp9 wx hSw
          have t0 := hx0 wx hSw
          have t1 := hx1 wx hSw
          have t2 := hx2 wx hSw
          have t3 := hx3 wx hSw
          have t4 := hx4 wx hSw
          have t5 := hx5 wx hSw
          have t6 := hx6 wx hSw
          have t7 := hx7 wx hSw
          have t8 := hx8 wx hSw
          have t9 := hx9 wx hSw
          go_simp
          try with_reducible rfl
         try simp only [Act.put, La1, La2, La3]
         refine wpAnyH_ready (rs := [16]) (by kernel_rfl) (by simp) ?_
         refine AllReadyH.cons (o := ⟨some 72, .call { callee := .value (.func 42), args := #[.tmp 71], argTypes := #[32] }, 3, "ref.go:66", #[⟨15, .data⟩, ⟨14, .chain⟩, ⟨14, .guard⟩], some (14, false)⟩) rfl (fun K hK => ?_) AllReadyH.nil
         go_simp
         go_at_call 42
         refine (rend_any p _ hp).mono ?_
         rintro e wc3 ⟨rfl, hbc3⟩
         first
          | refine hK.out _ _ ?_ (fun hHeld => ?_)
          | (go_wp2_with fail; refine hK.out _ _ ?_ (fun hHeld => ?_))
         ·
          try dsimp only
          exact bt hHeld hbc3
         clear hK K
         try simp only [Act.put, La1, La2, La3]
         refine wpAnyH_ready (rs := [18]) (by kernel_rfl) (by simp) ?_
         refine AllReadyH.cons (o := ⟨some 74, .call { callee := .value (.func 42), args := #[.tmp 73], argTypes := #[32] }, 3, "ref.go:66", #[⟨17, .data⟩, ⟨16, .chain⟩, ⟨14, .guard⟩], some (14, false)⟩) rfl (fun K hK => ?_) AllReadyH.nil
         go_simp
         go_at_call 42
         refine (rend_any x _ hxf).mono ?_
         rintro e wc4 ⟨rfl, hbc4⟩
         first
          | refine hK.out _ _ ?_ (fun hHeld => ?_)
          | (go_wp2_with fail; refine hK.out _ _ ?_ (fun hHeld => ?_))
         ·
          try dsimp only
          exact bt hHeld hbc4
         clear hK K
         try simp only [Act.put, La1, La2, La3]
         refine tk (i := 19) (oi := ⟨some 75, .binOp .gtr 3 (.tmp 72) (.tmp 74) 3, 4, "ref.go:66", #[⟨16, .data⟩, ⟨18, .data⟩, ⟨14, .guard⟩], some (14, false)⟩) (v := .bool true) rfl (by kernel_rfl) (fun _ _ _ h => h) (Or.inl ⟨by rfl, ?_⟩) (by assumption) ?_
         ·
          intro wx hSw
          go_simp
          try with_reducible rfl
         try simp only [Act.put, La1, La2, La3]
         refine tk (i := 20) (oi := ⟨some 76, .pick (.tmp 70) (.const (.bool true)) (.tmp 75), 4, "ref.go:66", #[⟨14, .data⟩, ⟨19, .data⟩, ⟨3, .guard⟩], some (3, true)⟩) (v := .bool true) rfl (by kernel_rfl) (fun _ _ _ h => h) (Or.inl ⟨by rfl, ?_⟩) (by assumption) ?_
         ·
          intro wx hSw
          go_simp
          try with_reducible rfl
         try simp only [Act.put, La1, La2, La3]
         refine tk (i := 21) (oi := ⟨some 77, .pick (.tmp 59) (.tmp 76) (.const (.bool false)), 4, "ref.go:66", #[⟨3, .data⟩, ⟨20, .data⟩], none⟩) (v := .bool true) rfl (by kernel_rfl) (fun _ _ _ h => h) (Or.inl ⟨by rfl, ?_⟩) (by assumption) ?_
         ·
          intro wx hSw
          go_simp
          try with_reducible rfl
         try simp only [Act.put, La1, La2, La3]
         refine tk (i := 22) (oi := ⟨some 78, .move (.tmp 77), 4, "ref.go:66", #[⟨21, .data⟩, ⟨18, .chain⟩], none⟩) (v := .bool true) rfl (by kernel_rfl) (fun _ _ _ h => h) (Or.inl ⟨by rfl, ?_⟩) (by assumption) ?_
         ·
          intro wx hSw
          go_simp
          try with_reducible rfl
         try simp only [Act.put, La1, La2, La3]
         refine tk (i := 23) (oi := ⟨some 79, .fieldAddr 32 (.tmp 3) 6, 0, "ref.go:66", #[⟨22, .guard⟩], some (22, false)⟩) (v := undef) rfl (by kernel_rfl) (fun _ _ _ h => h) (Or.inr ⟨by rfl, rfl⟩) (by assumption) ?_
         try simp only [Act.put, La1, La2, La3]
         refine tk (i := 24) (oi := ⟨some 80, .load 4 (.tmp 79), 4, "ref.go:66", #[⟨23, .data⟩, ⟨22, .guard⟩], some (22, false)⟩) (v := undef) rfl (by kernel_rfl) (fun _ _ _ h => h) (Or.inr ⟨by rfl, rfl⟩) (by assumption) ?_
         try simp only [Act.put, La1, La2, La3]
         refine tk (i := 25) (oi := ⟨some 81, .unOp .not 4 (.tmp 80), 4, "ref.go:66", #[⟨24, .data⟩, ⟨22, .guard⟩], some (22, false)⟩) (v := undef) rfl (by kernel_rfl) (fun _ _ _ h => h) (Or.inr ⟨by rfl, rfl⟩) (by assumption) ?_
         try simp only [Act.put, La1, La2, La3]
         refine tk (i := 26) (oi := ⟨some 82, .move (.tmp 81), 4, "ref.go:66", #[⟨25, .data⟩, ⟨22, .chain⟩, ⟨22, .guard⟩], some (22, false)⟩) (v := undef) rfl (by kernel_rfl) (fun _ _ _ h => h) (Or.inr ⟨by rfl, rfl⟩) (by assumption) ?_
         try simp only [Act.put, La1, La2, La3]
         refine tk (i := 27) (oi := ⟨some 83, .load 32 (.tmp 6), 32, "ref.go:66", #[⟨26, .guard⟩], some (26, true)⟩) (v := undef) rfl (by kernel_rfl) (fun _ _ _ h => h) (Or.inr ⟨by rfl, rfl⟩) (by assumption) ?_
         try simp only [Act.put, La1, La2, La3]
         refine tk (i := 28) (oi := ⟨some 84, .call { callee := .value (.func 42), args := #[.tmp 83], argTypes := #[32] }, 3, "ref.go:66", #[⟨27, .data⟩, ⟨26, .chain⟩, ⟨26, .guard⟩], some (26, true)⟩) (v := undef) rfl (by kernel_rfl) (fun _ _ _ h => h) (Or.inr ⟨by rfl, rfl⟩) (by assumption) ?_
         try simp only [Act.put, La1, La2, La3]
         refine tk (i := 29) (oi := ⟨some 85, .load 32 (.tmp 3), 32, "ref.go:66", #[⟨26, .guard⟩], some (26, true)⟩) (v := undef) rfl (by kernel_rfl) (fun _ _ _ h => h) (Or.inr ⟨by rfl, rfl⟩) (by assumption) ?_
         try simp only [Act.put, La1, La2, La3]
         refine tk (i := 30) (oi := ⟨some 86, .call { callee := .value (.func 42), args := #[.tmp 85], argTypes := #[32] }, 3, "ref.go:66", #[⟨29, .data⟩, ⟨28, .chain⟩, ⟨26, .guard⟩], some (26, true)⟩) (v := undef) rfl (by kernel_rfl) (fun _ _ _ h => h) (Or.inr ⟨by rfl, rfl⟩) (by assumption) ?_
         try simp only [Act.put, La1, La2, La3]
         refine tk (i := 31) (oi := ⟨some 87, .binOp .gtr 3 (.tmp 84) (.tmp 86) 3, 4, "ref.go:66", #[⟨28, .data⟩, ⟨30, .data⟩, ⟨26, .guard⟩], some (26, true)⟩) (v := undef) rfl (by kernel_rfl) (fun _ _ _ h => h) (Or.inr ⟨by rfl, rfl⟩) (by assumption) ?_
         try simp only [Act.put, La1, La2, La3]
         refine tk (i := 32) (oi := ⟨some 88, .pick (.tmp 82) (.tmp 87) (.const (.bool false)), 4, "ref.go:66", #[⟨26, .data⟩, ⟨31, .data⟩, ⟨22, .guard⟩], some (22, false)⟩) (v := undef) rfl (by kernel_rfl) (fun _ _ _ h => h) (Or.inr ⟨by rfl, rfl⟩) (by assumption) ?_
         try simp only [Act.put, La1, La2, La3]
         refine tk (i := 33) (oi := ⟨some 89, .pick (.tmp 78) (.const (.bool true)) (.tmp 88), 4, "ref.go:66", #[⟨22, .data⟩, ⟨32, .data⟩], none⟩) (v := .bool true) rfl (by kernel_rfl) (fun _ _ _ h => h) (Or.inl ⟨by rfl, ?_⟩) (by assumption) ?_
         ·
          intro wx hSw
          go_simp
          try with_reducible rfl
         try simp only [Act.put, La1, La2, La3]
         refine wpAnyH_done (by kernel_rfl) ?_ _
         go_wp2
         go_meet
         case rel => exact ⟨by rw [HV.out], hHeld⟩
        ·
         have HV : Hid (rpaB x p = false) := by show _ = _; unfold rpaB; simp [hxm, hpm, hg]
         have hxb : (!x.mo) = true := by rw [hxm]; rfl
         have hpb : (!p.mo) = false := by rw [hpm]; rfl
         clear hxm hpm
         refine wp_region_held_drew (S := (fun W => Below w6.heap.size w6 W)) (by kernel_rfl) ?_ (fun hHeld => ?_)
         · first | exact (Below.refl _ _).drew | assumption
         refine tk (i := 0) (oi := ⟨some 56, .fieldAddr 32 (.tmp 6) 6, 0, "ref.go:66", #[], none⟩) (v := .pointer (some ⟨xb, 6, none⟩)) rfl (by kernel_rfl) (fun _ _ _ h => h) (Or.inl ⟨by rfl, ?_⟩) (by assumption) ?_
         ·
          intro wx hSw
          go_simp
          try with_reducible rfl
         try simp only [Act.put, La1, La2, La3]
         refine tk (i := 1) (oi := ⟨some 57, .load 4 (.tmp 56), 4, "ref.go:66", #[⟨0, .data⟩], none⟩) (v := .bool x.mo) rfl (by kernel_rfl) (fun _ _ _ h => h) (Or.inl ⟨by rfl, ?_⟩) (by assumption) ?_
         ·
          intro wx hSw
          try dsimp only at hSw
          have u6 := hp6 wx hSw
          have t6 := hx6 wx hSw
          go_simp
          try with_reducible rfl
         try simp only [Act.put, La1, La2, La3]
         refine tk (i := 2) (oi := ⟨some 58, .unOp .not 4 (.tmp 57), 4, "ref.go:66", #[⟨1, .data⟩], none⟩) (v := .bool true) rfl (by kernel_rfl) (fun _ _ _ h => h) (Or.inl ⟨by rfl, ?_⟩) (by assumption) ?_
         ·
          intro wx hSw
          go_simp
          try with_reducible rfl
         try simp only [Act.put, La1, La2, La3]
         refine tk (i := 3) (oi := ⟨some 59, .move (.tmp 58), 4, "ref.go:66", #[⟨2, .data⟩], none⟩) (v := .bool true) rfl (by kernel_rfl) (fun _ _ _ h => h) (Or.inl ⟨by rfl, ?_⟩) (by assumption) ?_
         ·
          intro wx hSw
          go_simp
          try with_reducible rfl
         try simp only [Act.put, La1, La2, La3]
         refine tk (i := 4) (oi := ⟨some 60, .fieldAddr 32 (.tmp 3) 6, 0, "ref.go:66", #[⟨3, .guard⟩], some (3, true)⟩) (v := .pointer (some ⟨w.heap.size, 6, none⟩)) rfl (by kernel_rfl) (fun _ _ _ h => h) (Or.inl ⟨by rfl, ?_⟩) (by assumption) ?_
         ·
          intro wx hSw
          go_simp
          try with_reducible rfl
         try simp only [Act.put, La1, La2, La3]
         refine tk (i := 5) (oi := ⟨some 61, .load 4 (.tmp 60), 4, "ref.go:66", #[⟨4, .data⟩, ⟨3, .guard⟩], some (3, true)⟩) (v := .bool p.mo) rfl (by kernel_rfl) (fun _ _ _ h => h) (Or.inl ⟨by rfl, ?_⟩) (by assumption) ?_
         ·
          intro wx hSw
          try dsimp only at hSw
          have u6 := hp6 wx hSw
          have t6 := hx6 wx hSw
          go_simp
          try with_reducible rfl
         try simp only [Act.put, La1, La2, La3]
         refine tk (i := 6) (oi := ⟨some 62, .unOp .not 4 (.tmp 61), 4, "ref.go:66", #[⟨5, .data⟩, ⟨3, .guard⟩], some (3, true)⟩) (v := .bool false) rfl (by kernel_rfl) (fun _ _ _ h => h) (Or.inl ⟨by rfl, ?_⟩) (by assumption) ?_
         ·
          intro wx hSw
          go_simp
          try with_reducible rfl
         try simp only [Act.put, La1, La2, La3]
         refine tk (i := 7) (oi := ⟨some 63, .move (.tmp 62), 4, "ref.go:66", #[⟨6, .data⟩, ⟨3, .chain⟩, ⟨3, .guard⟩], some (3, true)⟩) (v := .bool false) rfl (by kernel_rfl) (fun _ _ _ h => h) (Or.inl ⟨by rfl, ?_⟩) (by assumption) ?_
         ·
          intro wx hSw
          go_simp
          try with_reducible rfl
         try simp only [Act.put, La1, La2, La3]
         refine tk (i := 8) (oi := ⟨some 64, .load 32 (.tmp 3), 32, "ref.go:66", #[⟨7, .guard⟩], some (7, true)⟩) (v := undef) rfl (by kernel_rfl) (fun _ _ _ h => h) (Or.inr ⟨by rfl, rfl⟩) (by assumption) ?_
         try simp only [Act.put, La1, La2, La3]
         refine tk (i := 9) (oi := ⟨some 65, .call { callee := .value (.func 42), args := #[.tmp 64], argTypes := #[32] }, 3, "ref.go:66", #[⟨8, .data⟩, ⟨7, .chain⟩, ⟨7, .guard⟩], some (7, true)⟩) (v := undef) rfl (by kernel_rfl) (fun _ _ _ h => h) (Or.inr ⟨by rfl, rfl⟩) (by assumption) ?_
         try simp only [Act.put, La1, La2, La3]
         refine tk (i := 10) (oi := ⟨some 66, .load 32 (.tmp 6), 32, "ref.go:66", #[⟨7, .guard⟩], some (7, true)⟩) (v := undef) rfl (by kernel_rfl) (fun _ _ _ h => h) (Or.inr ⟨by rfl, rfl⟩) (by assumption) ?_
         try simp only [Act.put, La1, La2, La3]
         refine tk (i := 11) (oi := ⟨some 67, .call { callee := .value (.func 42), args := #[.tmp 66], argTypes := #[32] }, 3, "ref.go:66", #[⟨10, .data⟩, ⟨9, .chain⟩, ⟨7, .guard⟩], some (7, true)⟩) (v := undef) rfl (by kernel_rfl) (fun _ _ _ h => h) (Or.inr ⟨by rfl, rfl⟩) (by assumption) ?_
         try simp only [Act.put, La1, La2, La3]
         refine tk (i := 12) (oi := ⟨some 68, .binOp .neq 3 (.tmp 65) (.tmp 67) 3, 4, "ref.go:66", #[⟨9, .data⟩, ⟨11, .data⟩, ⟨7, .guard⟩], some (7, true)⟩) (v := undef) rfl (by kernel_rfl) (fun _ _ _ h => h) (Or.inr ⟨by rfl, rfl⟩) (by assumption) ?_
         try simp only [Act.put, La1, La2, La3]
         refine tk (i := 13) (oi := ⟨some 69, .pick (.tmp 63) (.tmp 68) (.const (.bool false)), 4, "ref.go:66", #[⟨7, .data⟩, ⟨12, .data⟩, ⟨3, .guard⟩], some (3, true)⟩) (v := .bool false) rfl (by kernel_rfl) (fun _ _ _ h => h) (Or.inl ⟨by rfl, ?_⟩) (by assumption) ?_
         ·
          intro wx hSw
          go_simp
          try with_reducible rfl
         try simp only [Act.put, La1, La2, La3]
         refine tk (i := 14) (oi := ⟨some 70, .move (.tmp 69), 4, "ref.go:66", #[⟨13, .data⟩, ⟨11, .chain⟩, ⟨3, .guard⟩], some (3, true)⟩) (v := .bool false) rfl (by kernel_rfl) (fun _ _ _ h => h) (Or.inl ⟨by rfl, ?_⟩) (by assumption) ?_
         ·
          intro wx hSw
          go_simp
          try with_reducible rfl
         try simp only [Act.put, La1, La2, La3]
         refine tk (i := 15) (oi := ⟨some 71, .load 32 (.tmp 3), 32, "ref.go:66", #[⟨14, .guard⟩], some (14, false)⟩) (v := .agg #[.int .i64 p.f, .int .i64 p.t, .int .i64 p.tl, .int .i64 p.pr, .int .i64 p.id, .int .i64 p.fr, .bool p.mo, .bool p.dn, .string p.op, .string p.da]) rfl (by kernel_rfl) (fun _ _ _ h => h) (Or.inl ⟨by rfl, ?_⟩) (by assumption) ?_
         ·
          intro wx hSw
          try dsimp only at hSw
          have u0 := hp0 wx hSw
          have u1 := hp1 wx hSw
          have u2 := hp2 wx hSw
          have u3 := hp3 wx hSw
          have u4 := hp4 wx hSw
          have u5 := hp5 wx hSw
          have u6 := hp6 wx hSw
          have u7 := hp7 wx hSw
          have u8 := hp8 wx hSw
          have u9 := hp9 wx hSw
          have t0 := hx0 wx hSw
          have t1 := hx1 wx hSw
          have t2 := hx2 wx hSw
          have t3 := hx3 wx hSw
          have t4 := hx4 wx hSw
          have t5 := hx5 wx hSw
          have t6 := hx6 wx hSw
          have t7 := hx7 wx hSw
          have t8 := hx8 wx hSw
          have t9 := hx9 wx hSw
          go_simp
          try with_reducible rfl
         try simp only [Act.put, La1, La2, La3]
         refine tk (i := 17) (oi := ⟨some 73, .load 32 (.tmp 6), 32, "ref.go:66", #[⟨14, .guard⟩], some (14, false)⟩) (v := .agg #[.int .i64 x.f, .int .i64 x.t, .int .i64 x.tl, .int .i64 x.pr, .int .i64 x.id, .int .i64 x.fr, .bool x.mo, .bool x.dn, .string x.op, .string x.da]) rfl (by kernel_rfl) (fun _ _ _ h => h) (Or.inl ⟨by rfl, ?_⟩) (by assumption) ?_
         ·
          intro wx hSw
          try dsimp only at hSw
          have u0 := hp0 wx hSw
          have u1 := hp1 wx hSw
          have u2 := hp2 wx hSw
          have u3 := hp3 wx hSw
          have u4 := hp4 wx hSw
          have u5 := hp5 wx hSw
          have u6 := hp6 wx hSw
          have u7 := hp7 wx hSw
          have u8 := hp8 wx hSw
          have u9 := hp9 wx hSw
          have t0 := hx0 wx hSw
          have t1 := hx1 wx hSw
          have t2 := hx2 wx hSw
          have t3 := hx3 wx hSw
          have t4 := hx4 wx hSw
          have t5 := hx5 wx hSw
          have t6 := hx6 wx hSw
          have t7 := hx7 wx hSw
          have t8 := hx8 wx hSw
          have t9 := hx9 wx hSw
          go_simp
          try with_reducible rfl
         try simp only [Act.put, La1, La2, La3]
         refine wpAnyH_ready (rs := [16]) (by kernel_rfl) (by simp) ?_
         refine AllReadyH.cons (o := ⟨some 72, .call { callee := .value (.func 42), args := #[.tmp 71], argTypes := #[32] }, 3, "ref.go:66", #[⟨15, .data⟩, ⟨14, .chain⟩, ⟨14, .guard⟩], some (14, false)⟩) rfl (fun K hK => ?_) AllReadyH.nil
         go_simp
         go_at_call 42
         refine (rend_any p _ hp).mono ?_
         rintro e wc3 ⟨rfl, hbc3⟩
         first
          | refine hK.out _ _ ?_ (fun hHeld => ?_)
          | (go_wp2_with fail; refine hK.out _ _ ?_ (fun hHeld => ?_))
         ·
          try dsimp only
          exact bt hHeld hbc3
         clear hK K
         try simp only [Act.put, La1, La2, La3]
         refine wpAnyH_ready (rs := [18]) (by kernel_rfl) (by simp) ?_
         refine AllReadyH.cons (o := ⟨some 74, .call { callee := .value (.func 42), args := #[.tmp 73], argTypes := #[32] }, 3, "ref.go:66", #[⟨17, .data⟩, ⟨16, .chain⟩, ⟨14, .guard⟩], some (14, false)⟩) rfl (fun K hK => ?_) AllReadyH.nil
         go_simp
         go_at_call 42
         refine (rend_any x _ hxf).mono ?_
         rintro e wc4 ⟨rfl, hbc4⟩
         first
          | refine hK.out _ _ ?_ (fun hHeld => ?_)
          | (go_wp2_with fail; refine hK.out _ _ ?_ (fun hHeld => ?_))
         ·
          try dsimp only
          exact bt hHeld hbc4
         clear hK K
         try simp only [Act.put, La1, La2, La3]
         refine tk (i := 19) (oi := ⟨some 75, .binOp .gtr 3 (.tmp 72) (.tmp 74) 3, 4, "ref.go:66", #[⟨16, .data⟩, ⟨18, .data⟩, ⟨14, .guard⟩], some (14, false)⟩) (v := .bool false) rfl (by kernel_rfl) (fun _ _ _ h => h) (Or.inl ⟨by rfl, ?_⟩) (by assumption) ?_
         ·
          intro wx hSw
          go_simp
          try with_reducible rfl
         try simp only [Act.put, La1, La2, La3]
         refine tk (i := 20) (oi := ⟨some 76, .pick (.tmp 70) (.const (.bool true)) (.tmp 75), 4, "ref.go:66", #[⟨14, .data⟩, ⟨19, .data⟩, ⟨3, .guard⟩], some (3, true)⟩) (v := .bool false) rfl (by kernel_rfl) (fun _ _ _ h => h) (Or.inl ⟨by rfl, ?_⟩) (by assumption) ?_
         ·
          intro wx hSw
          go_simp
          try with_reducible rfl
         try simp only [Act.put, La1, La2, La3]
         refine tk (i := 21) (oi := ⟨some 77, .pick (.tmp 59) (.tmp 76) (.const (.bool false)), 4, "ref.go:66", #[⟨3, .data⟩, ⟨20, .data⟩], none⟩) (v := .bool false) rfl (by kernel_rfl) (fun _ _ _ h => h) (Or.inl ⟨by rfl, ?_⟩) (by assumption) ?_
         ·
          intro wx hSw
          go_simp
          try with_reducible rfl
         try simp only [Act.put, La1, La2, La3]
         refine tk (i := 22) (oi := ⟨some 78, .move (.tmp 77), 4, "ref.go:66", #[⟨21, .data⟩, ⟨18, .chain⟩], none⟩) (v := .bool false) rfl (by kernel_rfl) (fun _ _ _ h => h) (Or.inl ⟨by rfl, ?_⟩) (by assumption) ?_
         ·
          intro wx hSw
          go_simp
          try with_reducible rfl
         try simp only [Act.put, La1, La2, La3]
         refine tk (i := 23) (oi := ⟨some 79, .fieldAddr 32 (.tmp 3) 6, 0, "ref.go:66", #[⟨22, .guard⟩], some (22, false)⟩) (v := .pointer (some ⟨w.heap.size, 6, none⟩)) rfl (by kernel_rfl) (fun _ _ _ h => h) (Or.inl ⟨by rfl, ?_⟩) (by assumption) ?_
         ·
          intro wx hSw
          go_simp
          try with_reducible rfl
         try simp only [Act.put, La1, La2, La3]
         refine tk (i := 24) (oi := ⟨some 80, .load 4 (.tmp 79), 4, "ref.go:66", #[⟨23, .data⟩, ⟨22, .guard⟩], some (22, false)⟩) (v := .bool p.mo) rfl (by kernel_rfl) (fun _ _ _ h => h) (Or.inl ⟨by rfl, ?_⟩) (by assumption) ?_
         ·
          intro wx hSw
          try dsimp only at hSw
          have u6 := hp6 wx hSw
          have t6 := hx6 wx hSw
          go_simp
          try with_reducible rfl
         try simp only [Act.put, La1, La2, La3]
         refine tk (i := 25) (oi := ⟨some 81, .unOp .not 4 (.tmp 80), 4, "ref.go:66", #[⟨24, .data⟩, ⟨22, .guard⟩], some (22, false)⟩) (v := .bool false) rfl (by kernel_rfl) (fun _ _ _ h => h) (Or.inl ⟨by rfl, ?_⟩) (by assumption) ?_
         ·
          intro wx hSw
          go_simp
          try with_reducible rfl
         try simp only [Act.put, La1, La2, La3]
         refine tk (i := 26) (oi := ⟨some 82, .move (.tmp 81), 4, "ref.go:66", #[⟨25, .data⟩, ⟨22, .chain⟩, ⟨22, .guard⟩], some (22, false)⟩) (v := .bool false) rfl (by kernel_rfl) (fun _ _ _ h => h) (Or.inl ⟨by rfl, ?_⟩) (by assumption) ?_
         ·
          intro wx hSw
          go_simp
          try with_reducible rfl
         try simp only [Act.put, La1, La2, La3]
         refine tk (i := 27) (oi := ⟨some 83, .load 32 (.tmp 6), 32, "ref.go:66", #[⟨26, .guard⟩], some (26, true)⟩) (v := undef) rfl (by kernel_rfl) (fun _ _ _ h => h) (Or.inr ⟨by rfl, rfl⟩) (by assumption) ?_
         try simp only [Act.put, La1, La2, La3]
         refine tk (i := 28) (oi := ⟨some 84, .call { callee := .value (.func 42), args := #[.tmp 83], argTypes := #[32] }, 3, "ref.go:66", #[⟨27, .data⟩, ⟨26, .chain⟩, ⟨26, .guard⟩], some (26, true)⟩) (v := undef) rfl (by kernel_rfl) (fun _ _ _ h => h) (Or.inr ⟨by rfl, rfl⟩) (by assumption) ?_
         try simp only [Act.put, La1, La2, La3]
         refine tk (i := 29) (oi := ⟨some 85, .load 32 (.tmp 3), 32, "ref.go:66", #[⟨26, .guard⟩], some (26, true)⟩) (v := undef) rfl (by kernel_rfl) (fun _ _ _ h => h) (Or.inr ⟨by rfl, rfl⟩) (by assumption) ?_
         try simp only [Act.put, La1, La2, La3]
         refine tk (i := 30) (oi := ⟨some 86, .call { callee := .value (.func 42), args := #[.tmp 85], argTypes := #[32] }, 3, "ref.go:66", #[⟨29, .data⟩, ⟨28, .chain⟩, ⟨26, .guard⟩], some (26, true)⟩) (v := undef) rfl (by kernel_rfl) (fun _ _ _ h => h) (Or.inr ⟨by rfl, rfl⟩) (by assumption) ?_
         try simp only [Act.put, La1, La2, La3]
         refine tk (i := 31) (oi := ⟨some 87, .binOp .gtr 3 (.tmp 84) (.tmp 86) 3, 4, "ref.go:66", #[⟨28, .data⟩, ⟨30, .data⟩, ⟨26, .guard⟩], some (26, true)⟩) (v := undef) rfl (by kernel_rfl) (fun _ _ _ h => h) (Or.inr ⟨by rfl, rfl⟩) (by assumption) ?_
         try simp only [Act.put, La1, La2, La3]
         refine tk (i := 32) (oi := ⟨some 88, .pick (.tmp 82) (.tmp 87) (.const (.bool false)), 4, "ref.go:66", #[⟨26, .data⟩, ⟨31, .data⟩, ⟨22, .guard⟩], some (22, false)⟩) (v := .bool false) rfl (by kernel_rfl) (fun _ _ _ h => h) (Or.inl ⟨by rfl, ?_⟩) (by assumption) ?_
         ·
          intro wx hSw
          go_simp
          try with_reducible rfl
         try simp only [Act.put, La1, La2, La3]
         refine tk (i := 33) (oi := ⟨some 89, .pick (.tmp 78) (.const (.bool true)) (.tmp 88), 4, "ref.go:66", #[⟨22, .data⟩, ⟨32, .data⟩], none⟩) (v := .bool false) rfl (by kernel_rfl) (fun _ _ _ h => h) (Or.inl ⟨by rfl, ?_⟩) (by assumption) ?_
         ·
          intro wx hSw
          go_simp
          try with_reducible rfl
         try simp only [Act.put, La1, La2, La3]
         refine wpAnyH_done (by kernel_rfl) ?_ _
         go_wp2
         go_meet
         case rel => exact ⟨by rw [HV.out], hHeld⟩
       | false =>
        by_cases hne : p.en = x.en
        ·
         have hneb : (p.en != x.en) = false := by simp [hne]
         have hgg : ¬ x.en < p.en := by omega
         have hll : ¬ p.en < x.en := by omega
         have HV : Hid (rpaB x p = false) := by show _ = _; unfold rpaB; simp [hxm, hpm, hne, hgg, hll]
         have hxb : (!x.mo) = true := by rw [hxm]; rfl
         have hpb : (!p.mo) = true := by rw [hpm]; rfl
         clear hxm hpm hne
         refine wp_region_held_drew (S := (fun W => Below w6.heap.size w6 W)) (by kernel_rfl) ?_ (fun hHeld => ?_)
         · first | exact (Below.refl _ _).drew | assumption
         refine tk (i := 0) (oi := ⟨some 56, .fieldAddr 32 (.tmp 6) 6, 0, "ref.go:66", #[], none⟩) (v := .pointer (some ⟨xb, 6, none⟩)) rfl (by kernel_rfl) (fun _ _ _ h => h) (Or.inl ⟨by rfl, ?_⟩) (by assumption) ?_
         ·
          intro wx hSw
          go_simp
          try with_reducible rfl
         try simp only [Act.put, La1, La2, La3]
         refine tk (i := 1) (oi := ⟨some 57, .load 4 (.tmp 56), 4, "ref.go:66", #[⟨0, .data⟩], none⟩) (v := .bool x.mo) rfl (by kernel_rfl) (fun _ _ _ h => h) (Or.inl ⟨by rfl, ?_⟩) (by assumption) ?_
         ·
          intro wx hSw
          try dsimp only at hSw
          have u6 := hp6 wx hSw
          have t6 := hx6 wx hSw
          go_simp
          try with_reducible rfl
         try simp only [Act.put, La1, La2, La3]
         refine tk (i := 2) (oi := ⟨some 58, .unOp .not 4 (.tmp 57), 4, "ref.go:66", #[⟨1, .data⟩], none⟩) (v := .bool true) rfl (by kernel_rfl) (fun _ _ _ h => h) (Or.inl ⟨by rfl, ?_⟩) (by assumption) ?_
         ·
          intro wx hSw
          go_simp
          try with_reducible rfl
         try simp only [Act.put, La1, La2, La3]
         refine tk (i := 3) (oi := ⟨some 59, .move (.tmp 58), 4, "ref.go:66", #[⟨2, .data⟩], none⟩) (v := .bool true) rfl (by kernel_rfl) (fun _ _ _ h => h) (Or.inl ⟨by rfl, ?_⟩) (by assumption) ?_
         ·
          intro wx hSw
          go_simp
          try with_reducible rfl
         try simp only [Act.put, La1, La2, La3]
         refine tk (i := 4) (oi := ⟨some 60, .fieldAddr 32 (.tmp 3) 6, 0, "ref.go:66", #[⟨3, .guard⟩], some (3, true)⟩) (v := .pointer (some ⟨w.heap.size, 6, none⟩)) rfl (by kernel_rfl) (fun _ _ _ h => h) (Or.inl ⟨by rfl, ?_⟩) (by assumption) ?_
         ·
          intro wx hSw
          go_simp
          try with_reducible rfl
         try simp only [Act.put, La1, La2, La3]
         refine tk (i := 5) (oi := ⟨some 61, .load 4 (.tmp 60), 4, "ref.go:66", #[⟨4, .data⟩, ⟨3, .guard⟩], some (3, true)⟩) (v := .bool p.mo) rfl (by kernel_rfl) (fun _ _ _ h => h) (Or.inl ⟨by rfl, ?_⟩) (by assumption) ?_
         ·
          intro wx hSw
          try dsimp only at hSw
          have u6 := hp6 wx hSw
          have t6 := hx6 wx hSw
          go_simp
          try with_reducible rfl
         try simp only [Act.put, La1, La2, La3]
         refine tk (i := 6) (oi := ⟨some 62, .unOp .not 4 (.tmp 61), 4, "ref.go:66", #[⟨5, .data⟩, ⟨3, .guard⟩], some (3, true)⟩) (v := .bool true) rfl (by kernel_rfl) (fun _ _ _ h => h) (Or.inl ⟨by rfl, ?_⟩) (by assumption) ?_
         ·
          intro wx hSw
          go_simp
          try with_reducible rfl
         try simp only [Act.put, La1, La2, La3]
         refine tk (i := 7) (oi := ⟨some 63, .move (.tmp 62), 4, "ref.go:66", #[⟨6, .data⟩, ⟨3, .chain⟩, ⟨3, .guard⟩], some (3, true)⟩) (v := .bool true) rfl (by kernel_rfl) (fun _ _ _ h => h) (Or.inl ⟨by rfl, ?_⟩) (by assumption) ?_
         ·
          intro wx hSw
          go_simp
          try with_reducible rfl
         try simp only [Act.put, La1, La2, La3]
         refine tk (i := 8) (oi := ⟨some 64, .load 32 (.tmp 3), 32, "ref.go:66", #[⟨7, .guard⟩], some (7, true)⟩) (v := .agg #[.int .i64 p.f, .int .i64 p.t, .int .i64 p.tl, .int .i64 p.pr, .int .i64 p.id, .int .i64 p.fr, .bool p.mo, .bool p.dn, .string p.op, .string p.da]) rfl (by kernel_rfl) (fun _ _ _ h => h) (Or.inl ⟨by rfl, ?_⟩) (by assumption) ?_
         ·
          intro wx hSw
          try dsimp only at hSw
          have u0 := hp0 wx hSw
          have u1 := hp1 wx hSw
          have u2 := hp2 wx hSw
          have u3 := hp3 wx hSw
          have u4 := hp4 wx hSw
          have u5 := hp5 wx hSw
          have u6 := hp6 wx hSw
          have u7 := hp7 wx hSw
          have u8 := hp8 wx hSw
          have u9 := hp9 wx hSw
          have t0 := hx0 wx hSw
          have t1 := hx1 wx hSw
          have t2 := hx2 wx hSw
          have t3 := hx3 wx hSw
          have t4 := hx4 wx hSw
          have t5 := hx5 wx hSw
          have t6 := hx6 wx hSw
          have t7 := hx7 wx hSw
          have t8 := hx8 wx hSw
          have t9 := hx9 wx hSw
          go_simp
          try with_reducible rfl
         try simp only [Act.put, La1, La2, La3]
         refine tk (i := 10) (oi := ⟨some 66, .load 32 (.tmp 6), 32, "ref.go:66", #[⟨7, .guard⟩], some (7, true)⟩) (v := .agg #[.int .i64 x.f, .int .i64 x.t, .int .i64 x.tl, .int .i64 x.pr, .int .i64 x.id, .int .i64 x.fr, .bool x.mo, .bool x.dn, .string x.op, .string x.da]) rfl (by kernel_rfl) (fun _ _ _ h => h) (Or.inl ⟨by rfl, ?_⟩) (by assumption) ?_
         ·
          intro wx hSw
          try dsimp only at hSw
          have u0 := hp0 wx hSw
          have u1 := hp1 wx hSw
          have u2 := hp2 wx hSw
          have u3 := hp3 wx hSw
          have u4 := hp4 wx hSw
          have u5 := hp5 wx hSw
          have u6 := hp6 wx hSw
          have u7 := hp7 wx hSw
          have u8 := hp8 wx hSw
          have u9 := hp9 wx hSw
          have t0 := hx0 wx hSw
          have t1 := hx1 wx hSw
          have t2 := hx2 wx hSw
          have t3 := hx3 wx hSw
          have t4 := hx4 wx hSw
          have t5 := hx5 wx hSw
          have t6 := hx6 wx hSw
          have t7 := hx7 wx hSw
          have t8 := hx8 wx hSw
          have t9 := hx9 wx hSw
          go_simp
          try with_reducible rfl
         try simp only [Act.put, La1, La2, La3]
         refine wpAnyH_ready (rs := [9]) (by kernel_rfl) (by simp) ?_
         refine AllReadyH.cons (o := ⟨some 65, .call { callee := .value (.func 42), args := #[.tmp 64], argTypes := #[32] }, 3, "ref.go:66", #[⟨8, .data⟩, ⟨7, .chain⟩, ⟨7, .guard⟩], some (7, true)⟩) rfl (fun K hK => ?_) AllReadyH.nil
         go_simp
         go_at_call 42
         refine (rend_any p _ hp).mono ?_
         rintro e wc1 ⟨rfl, hbc1⟩
         first
          | refine hK.out _ _ ?_ (fun hHeld => ?_)
          | (go_wp2_with fail; refine hK.out _ _ ?_ (fun hHeld => ?_))
         ·
          try dsimp only
          exact bt hHeld hbc1
         clear hK K
         try simp only [Act.put, La1, La2, La3]
         refine wpAnyH_ready (rs := [11]) (by kernel_rfl) (by simp) ?_
         refine AllReadyH.cons (o := ⟨some 67, .call { callee := .value (.func 42), args := #[.tmp 66], argTypes := #[32] }, 3, "ref.go:66", #[⟨10, .data⟩, ⟨9, .chain⟩, ⟨7, .guard⟩], some (7, true)⟩) rfl (fun K hK => ?_) AllReadyH.nil
         go_simp
         go_at_call 42
         refine (rend_any x _ hxf).mono ?_
         rintro e wc2 ⟨rfl, hbc2⟩
         first
          | refine hK.out _ _ ?_ (fun hHeld => ?_)
          | (go_wp2_with fail; refine hK.out _ _ ?_ (fun hHeld => ?_))
         ·
          try dsimp only
          exact bt hHeld hbc2
         clear hK K
         try simp only [Act.put, La1, La2, La3]
         refine tk (i := 12) (oi := ⟨some 68, .binOp .neq 3 (.tmp 65) (.tmp 67) 3, 4, "ref.go:66", #[⟨9, .data⟩, ⟨11, .data⟩, ⟨7, .guard⟩], some (7, true)⟩) (v := .bool false) rfl (by kernel_rfl) (fun _ _ _ h => h) (Or.inl ⟨by rfl, ?_⟩) (by assumption) ?_
         ·
          intro wx hSw
          go_simp
          try with_reducible rfl
         try simp only [Act.put, La1, La2, La3]
         refine tk (i := 13) (oi := ⟨some 69, .pick (.tmp 63) (.tmp 68) (.const (.bool false)), 4, "ref.go:66", #[⟨7, .data⟩, ⟨12, .data⟩, ⟨3, .guard⟩], some (3, true)⟩) (v := .bool false) rfl (by kernel_rfl) (fun _ _ _ h => h) (Or.inl ⟨by rfl, ?_⟩) (by assumption) ?_
         ·
          intro wx hSw
          go_simp
          try with_reducible rfl
         try simp only [Act.put, La1, La2, La3]
         refine tk (i := 14) (oi := ⟨some 70, .move (.tmp 69), 4, "ref.go:66", #[⟨13, .data⟩, ⟨11, .chain⟩, ⟨3, .guard⟩], some (3, true)⟩) (v := .bool false) rfl (by kernel_rfl) (fun _ _ _ h => h) (Or.inl ⟨by rfl, ?_⟩) (by assumption) ?_
         ·
          intro wx hSw
          go_simp
          try with_reducible rfl
         try simp only [Act.put, La1, La2, La3]
         refine tk (i := 15) (oi := ⟨some 71, .load 32 (.tmp 3), 32, "ref.go:66", #[⟨14, .guard⟩], some (14, false)⟩) (v := .agg #[.int .i64 p.f, .int .i64 p.t, .int .i64 p.tl, .int .i64 p.pr, .int .i64 p.id, .int .i64 p.fr, .bool p.mo, .bool p.dn, .string p.op, .string p.da]) rfl (by kernel_rfl) (fun _ _ _ h => h) (Or.inl ⟨by rfl, ?_⟩) (by assumption) ?_
         ·
          intro wx hSw
          try dsimp only at hSw
          have u0 := hp0 wx hSw
          have u1 := hp1 wx hSw
          have u2 := hp2 wx hSw
          have u3 := hp3 wx hSw
          have u4 := hp4 wx hSw
          have u5 := hp5 wx hSw
          have u6 := hp6 wx hSw
          have u7 := hp7 wx hSw
          have u8 := hp8 wx hSw
          have u9 := hp9 wx hSw
          have t0 := hx0 wx hSw
          have t1 := hx1 wx hSw
          have t2 := hx2 wx hSw
          have t3 := hx3 wx hSw
          have t4 := hx4 wx hSw
          have t5 := hx5 wx hSw
          have t6 := hx6 wx hSw
          have t7 := hx7 wx hSw
          have t8 := hx8 wx hSw
          have t9 := hx9 wx hSw
          go_simp
          try with_reducible rfl
         try simp only [Act.put, La1, La2, La3]
         refine tk (i := 17) (oi := ⟨some 73, .load 32 (.tmp 6), 32, "ref.go:66", #[⟨14, .guard⟩], some (14, false)⟩) (v := .agg #[.int .i64 x.f, .int .i64 x.t, .int .i64 x.tl, .int .i64 x.pr, .int .i64 x.id, .int .i64 x.fr, .bool x.mo, .bool x.dn, .string x.op, .string x.da]) rfl (by kernel_rfl) (fun _ _ _ h => h) (Or.inl ⟨by rfl, ?_⟩) (by assumption) ?_
         ·
          intro wx hSw
          try dsimp only at hSw
          have u0 := hp0 wx hSw
          have u1 := hp1 wx hSw
          have u2 := hp2 wx hSw
          have u3 := hp3 wx hSw
          have u4 := hp4 wx hSw
          have u5 := hp5 wx hSw
          have u6 := hp6 wx hSw
          have u7 := hp7 wx hSw
          have u8 := hp8 wx hSw
          have u9 := hp9 wx hSw
          have t0 := hx0 wx hSw
          have t1 := hx1 wx hSw
          have t2 := hx2 wx hSw
          have t3 := hx3 wx hSw
          have t4 := hx4 wx hSw
          have t5 := hx5 wx hSw
          have t6 := hx6 wx hSw
          have t7 := hx7 wx hSw
          have t8 := hx8 wx hSw
          have t9 := hx9 wx hSw
          go_simp
          try with_reducible rfl
         try simp only [Act.put, La1, La2, La3]
         refine wpAnyH_ready (rs := [16]) (by kernel_rfl) (by simp) ?_
         refine AllReadyH.cons (o := ⟨some 72, .call { callee := .value (.func 42), args := #[.tmp 71], argTypes := #[32] }, 3, "ref.go:66", #[⟨15, .data⟩, ⟨14, .chain⟩, ⟨14, .guard⟩], some (14, false)⟩) rfl (fun K hK => ?_) AllReadyH.nil
         go_simp
         go_at_call 42
         refine (rend_any p _ hp).mono ?_
         rintro e wc3 ⟨rfl, hbc3⟩
         first
          | refine hK.out _ _ ?_ (fun hHeld => ?_)
          | (go_wp2_with fail; refine hK.out _ _ ?_ (fun hHeld => ?_))
         ·
          try dsimp only
          exact bt hHeld hbc3
         clear hK K
         try simp only [Act.put, La1, La2, La3]
         refine wpAnyH_ready (rs := [18]) (by kernel_rfl) (by simp) ?_
         refine AllReadyH.cons (o := ⟨some 74, .call { callee := .value (.func 42), args := #[.tmp 73], argTypes := #[32] }, 3, "ref.go:66", #[⟨17, .data⟩, ⟨16, .chain⟩, ⟨14, .guard⟩], some (14, false)⟩) rfl (fun K hK => ?_) AllReadyH.nil
         go_simp
         go_at_call 42
         refine (rend_any x _ hxf).mono ?_
         rintro e wc4 ⟨rfl, hbc4⟩
         first
          | refine hK.out _ _ ?_ (fun hHeld => ?_)
          | (go_wp2_with fail; refine hK.out _ _ ?_ (fun hHeld => ?_))
         ·
          try dsimp only
          exact bt hHeld hbc4
         clear hK K
         try simp only [Act.put, La1, La2, La3]
         refine tk (i := 19) (oi := ⟨some 75, .binOp .gtr 3 (.tmp 72) (.tmp 74) 3, 4, "ref.go:66", #[⟨16, .data⟩, ⟨18, .data⟩, ⟨14, .guard⟩], some (14, false)⟩) (v := .bool false) rfl (by kernel_rfl) (fun _ _ _ h => h) (Or.inl ⟨by rfl, ?_⟩) (by assumption) ?_
         ·
          intro wx hSw
          go_simp
          try with_reducible rfl
         try simp only [Act.put, La1, La2, La3]
         refine tk (i := 20) (oi := ⟨some 76, .pick (.tmp 70) (.const (.bool true)) (.tmp 75), 4, "ref.go:66", #[⟨14, .data⟩, ⟨19, .data⟩, ⟨3, .guard⟩], some (3, true)⟩) (v := .bool false) rfl (by kernel_rfl) (fun _ _ _ h => h) (Or.inl ⟨by rfl, ?_⟩) (by assumption) ?_
         ·
          intro wx hSw
          go_simp
          try with_reducible rfl
         try simp only [Act.put, La1, La2, La3]
         refine tk (i := 21) (oi := ⟨some 77, .pick (.tmp 59) (.tmp 76) (.const (.bool false)), 4, "ref.go:66", #[⟨3, .data⟩, ⟨20, .data⟩], none⟩) (v := .bool false) rfl (by kernel_rfl) (fun _ _ _ h => h) (Or.inl ⟨by rfl, ?_⟩) (by assumption) ?_
         ·
          intro wx hSw
          go_simp
          try with_reducible rfl
         try simp only [Act.put, La1, La2, La3]
         refine tk (i := 22) (oi := ⟨some 78, .move (.tmp 77), 4, "ref.go:66", #[⟨21, .data⟩, ⟨18, .chain⟩], none⟩) (v := .bool false) rfl (by kernel_rfl) (fun _ _ _ h => h) (Or.inl ⟨by rfl, ?_⟩) (by assumption) ?_
         ·
          intro wx hSw
          go_simp
          try with_reducible rfl
         try simp only [Act.put, La1, La2, La3]
         refine tk (i := 23) (oi := ⟨some 79, .fieldAddr 32 (.tmp 3) 6, 0, "ref.go:66", #[⟨22, .guard⟩], some (22, false)⟩) (v := .pointer (some ⟨w.heap.size, 6, none⟩)) rfl (by kernel_rfl) (fun _ _ _ h => h) (Or.inl ⟨by rfl, ?_⟩) (by assumption) ?_
         ·
          intro wx hSw
          go_simp
          try with_reducible rfl
         try simp only [Act.put, La1, La2, La3]
         refine tk (i := 24) (oi := ⟨some 80, .load 4 (.tmp 79), 4, "ref.go:66", #[⟨23, .data⟩, ⟨22, .guard⟩], some (22, false)⟩) (v := .bool p.mo) rfl (by kernel_rfl) (fun _ _ _ h => h) (Or.inl ⟨by rfl, ?_⟩) (by assumption) ?_
         ·
          intro wx hSw
          try dsimp only at hSw
          have u6 := hp6 wx hSw
          have t6 := hx6 wx hSw
          go_simp
          try with_reducible rfl
         try simp only [Act.put, La1, La2, La3]
         refine tk (i := 25) (oi := ⟨some 81, .unOp .not 4 (.tmp 80), 4, "ref.go:66", #[⟨24, .data⟩, ⟨22, .guard⟩], some (22, false)⟩) (v := .bool true) rfl (by kernel_rfl) (fun _ _ _ h => h) (Or.inl ⟨by rfl, ?_⟩) (by assumption) ?_
         ·
          intro wx hSw
          go_simp
          try with_reducible rfl
         try simp only [Act.put, La1, La2, La3]
         refine tk (i := 26) (oi := ⟨some 82, .move (.tmp 81), 4, "ref.go:66", #[⟨25, .data⟩, ⟨22, .chain⟩, ⟨22, .guard⟩], some (22, false)⟩) (v := .bool true) rfl (by kernel_rfl) (fun _ _ _ h => h) (Or.inl ⟨by rfl, ?_⟩) (by assumption) ?_
         ·
          intro wx hSw
          go_simp
          try with_reducible rfl
         try simp only [Act.put, La1, La2, La3]
         refine tk (i := 27) (oi := ⟨some 83, .load 32 (.tmp 6), 32, "ref.go:66", #[⟨26, .guard⟩], some (26, true)⟩) (v := .agg #[.int .i64 x.f, .int .i64 x.t, .int .i64 x.tl, .int .i64 x.pr, .int .i64 x.id, .int .i64 x.fr, .bool x.mo, .bool x.dn, .string x.op, .string x.da]) rfl (by kernel_rfl) (fun _ _ _ h => h) (Or.inl ⟨by rfl, ?_⟩) (by assumption) ?_
         ·
          intro wx hSw
          try dsimp only at hSw
          have u0 := hp0 wx hSw
          have u1 := hp1 wx hSw
          have u2 := hp2 wx hSw
          have u3 := hp3 wx hSw
          have u4 := hp4 wx hSw
          have u5 := hp5 wx hSw
          have u6 := hp6 wx hSw
          have u7 := hp7 wx hSw
          have u8 := hp8 wx hSw
          have u9 := hp9 wx hSw
          have t0 := hx0 wx hSw
          have t1 := hx1 wx hSw
          have t2 := hx2 wx hSw
          have t3 := hx3 wx hSw
          have t4 := hx4 wx hSw
          have t5 := hx5 wx hSw
          have t6 := hx6 wx hSw
          have t7 := hx7 wx hSw
          have t8 := hx8 wx hSw
          have t9 := hx9 wx hSw
          go_simp
          try with_reducible rfl
         try simp only [Act.put, La1, La2, La3]
         refine tk (i := 29) (oi := ⟨some 85, .load 32 (.tmp 3), 32, "ref.go:66", #[⟨26, .guard⟩], some (26, true)⟩) (v := .agg #[.int .i64 p.f, .int .i64 p.t, .int .i64 p.tl, .int .i64 p.pr, .int .i64 p.id, .int .i64 p.fr, .bool p.mo, .bool p.dn, .string p.op, .string p.da]) rfl (by kernel_rfl) (fun _ _ _ h => h) (Or.inl ⟨by rfl, ?_⟩) (by assumption) ?_
         ·
          intro wx hSw
          try dsimp only at hSw
          have u0 := hp0 wx hSw
          have u1 := hp1 wx hSw
          have u2 := hp2 wx hSw
          have u3 := hp3 wx hSw
          have u4 := hp4 wx hSw
          have u5 := hp5 wx hSw
          have u6 := hp6 wx hSw
          have u7 := hp7 wx hSw
          have u8 := hp8 wx hSw
          have u9 := hp9 wx hSw
          have t0 := hx0 wx hSw
          have t1 := hx1 wx hSw
          have t2 := hx2 wx hSw
          have t3 := hx3 wx hSw
          have t4 := hx4 wx hSw
          have t5 := hx5 wx hSw
          have t6 := hx6 wx hSw
          have t7 := hx7 wx hSw
          have t8 := hx8 wx hSw
          have t9 := hx9 wx hSw
          go_simp
          try with_reducible rfl
         try simp only [Act.put, La1, La2, La3]
         refine wpAnyH_ready (rs := [28]) (by kernel_rfl) (by simp) ?_
         refine AllReadyH.cons (o := ⟨some 84, .call { callee := .value (.func 42), args := #[.tmp 83], argTypes := #[32] }, 3, "ref.go:66", #[⟨27, .data⟩, ⟨26, .chain⟩, ⟨26, .guard⟩], some (26, true)⟩) rfl (fun K hK => ?_) AllReadyH.nil
         go_simp
         go_at_call 42
         refine (rend_any x _ hxf).mono ?_
         rintro e wc5 ⟨rfl, hbc5⟩
         first
          | refine hK.out _ _ ?_ (fun hHeld => ?_)
          | (go_wp2_with fail; refine hK.out _ _ ?_ (fun hHeld => ?_))
         ·
          try dsimp only
          exact bt hHeld hbc5
         clear hK K
         try simp only [Act.put, La1, La2, La3]
         refine wpAnyH_ready (rs := [30]) (by kernel_rfl) (by simp) ?_
         refine AllReadyH.cons (o := ⟨some 86, .call { callee := .value (.func 42), args := #[.tmp 85], argTypes := #[32] }, 3, "ref.go:66", #[⟨29, .data⟩, ⟨28, .chain⟩, ⟨26, .guard⟩], some (26, true)⟩) rfl (fun K hK => ?_) AllReadyH.nil
         go_simp
         go_at_call 42
         refine (rend_any p _ hp).mono ?_
         rintro e wc6 ⟨rfl, hbc6⟩
         first
          | refine hK.out _ _ ?_ (fun hHeld => ?_)
          | (go_wp2_with fail; refine hK.out _ _ ?_ (fun hHeld => ?_))
         ·
          try dsimp only
          exact bt hHeld hbc6
         clear hK K
         try simp only [Act.put, La1, La2, La3]
         refine tk (i := 31) (oi := ⟨some 87, .binOp .gtr 3 (.tmp 84) (.tmp 86) 3, 4, "ref.go:66", #[⟨28, .data⟩, ⟨30, .data⟩, ⟨26, .guard⟩], some (26, true)⟩) (v := .bool false) rfl (by kernel_rfl) (fun _ _ _ h => h) (Or.inl ⟨by rfl, ?_⟩) (by assumption) ?_
         ·
          intro wx hSw
          go_simp
          try with_reducible rfl
         try simp only [Act.put, La1, La2, La3]
         refine tk (i := 32) (oi := ⟨some 88, .pick (.tmp 82) (.tmp 87) (.const (.bool false)), 4, "ref.go:66", #[⟨26, .data⟩, ⟨31, .data⟩, ⟨22, .guard⟩], some (22, false)⟩) (v := .bool false) rfl (by kernel_rfl) (fun _ _ _ h => h) (Or.inl ⟨by rfl, ?_⟩) (by assumption) ?_
         ·
          intro wx hSw
          go_simp
          try with_reducible rfl
         try simp only [Act.put, La1, La2, La3]
         refine tk (i := 33) (oi := ⟨some 89, .pick (.tmp 78) (.const (.bool true)) (.tmp 88), 4, "ref.go:66", #[⟨22, .data⟩, ⟨32, .data⟩], none⟩) (v := .bool false) rfl (by kernel_rfl) (fun _ _ _ h => h) (Or.inl ⟨by rfl, ?_⟩) (by assumption) ?_
         ·
          intro wx hSw
          go_simp
          try with_reducible rfl
         try simp only [Act.put, La1, La2, La3]
         refine wpAnyH_done (by kernel_rfl) ?_ _
         go_wp2
         go_meet
         case rel => exact ⟨by rw [HV.out], hHeld⟩
        ·
         have hneb : (p.en != x.en) = true := by simp [hne]
         have HV : Hid (rpaB x p = true) := by show _ = _; unfold rpaB; simp [hxm, hpm, hne]
         have hxb : (!x.mo) = true := by rw [hxm]; rfl
         have hpb : (!p.mo) = true := by rw [hpm]; rfl
         clear hxm hpm hne
         refine wp_region_held_drew (S := (fun W => Below w6.heap.size w6 W)) (by kernel_rfl) ?_ (fun hHeld => ?_)
         · first | exact (Below.refl _ _).drew | assumption
         refine tk (i := 0) (oi := ⟨some 56, .fieldAddr 32 (.tmp 6) 6, 0, "ref.go:66", #[], none⟩) (v := .pointer (some ⟨xb, 6, none⟩)) rfl (by kernel_rfl) (fun _ _ _ h => h) (Or.inl ⟨by rfl, ?_⟩) (by assumption) ?_
         ·
          intro wx hSw
          go_simp
          try with_reducible rfl
         try simp only [Act.put, La1, La2, La3]
         refine tk (i := 1) (oi := ⟨some 57, .load 4 (.tmp 56), 4, "ref.go:66", #[⟨0, .data⟩], none⟩) (v := .bool x.mo) rfl (by kernel_rfl) (fun _ _ _ h => h) (Or.inl ⟨by rfl, ?_⟩) (by assumption) ?_
         ·
          intro wx hSw
          try dsimp only at hSw
          have u6 := hp6 wx hSw
          have t6 := hx6 wx hSw
          go_simp
          try with_reducible rfl
         try simp only [Act.put, La1, La2, La3]
         refine tk (i := 2) (oi := ⟨some 58, .unOp .not 4 (.tmp 57), 4, "ref.go:66", #[⟨1, .data⟩], none⟩) (v := .bool true) rfl (by kernel_rfl) (fun _ _ _ h => h) (Or.inl ⟨by rfl, ?_⟩) (by assumption) ?_
         ·
          intro wx hSw
          go_simp
          try with_reducible rfl
         try simp only [Act.put, La1, La2, La3]
         refine tk (i := 3) (oi := ⟨some 59, .move (.tmp 58), 4, "ref.go:66", #[⟨2, .data⟩], none⟩) (v := .bool true) rfl (by kernel_rfl) (fun _ _ _ h => h) (Or.inl ⟨by rfl, ?_⟩) (by assumption) ?_
         ·
          intro wx hSw
          go_simp
          try with_reducible rfl
         try simp only [Act.put, La1, La2, La3]
         refine tk (i := 4) (oi := ⟨some 60, .fieldAddr 32 (.tmp 3) 6, 0, "ref.go:66", #[⟨3, .guard⟩], some (3, true)⟩) (v := .pointer (some ⟨w.heap.size, 6, none⟩)) rfl (by kernel_rfl) (fun _ _ _ h => h) (Or.inl ⟨by rfl, ?_⟩) (by assumption) ?_
         ·
          intro wx hSw
          go_simp
          try with_reducible rfl
         try simp only [Act.put, La1, La2, La3]
         refine tk (i := 5) (oi := ⟨some 61, .load 4 (.tmp 60), 4, "ref.go:66", #[⟨4, .data⟩, ⟨3, .guard⟩], some (3, true)⟩) (v := .bool p.mo) rfl (by kernel_rfl) (fun _ _ _ h => h) (Or.inl ⟨by rfl, ?_⟩) (by assumption) ?_
         ·
          intro wx hSw
          try dsimp only at hSw
          have u6 := hp6 wx hSw
          have t6 := hx6 wx hSw
          go_simp
          try with_reducible rfl
         try simp only [Act.put, La1, La2, La3]
         refine tk (i := 6) (oi := ⟨some 62, .unOp .not 4 (.tmp 61), 4, "ref.go:66", #[⟨5, .data⟩, ⟨3, .guard⟩], some (3, true)⟩) (v := .bool true) rfl (by kernel_rfl) (fun _ _ _ h => h) (Or.inl ⟨by rfl, ?_⟩) (by assumption) ?_
         ·
          intro wx hSw
          go_simp
          try with_reducible rfl
         try simp only [Act.put, La1, La2, La3]
         refine tk (i := 7) (oi := ⟨some 63, .move (.tmp 62), 4, "ref.go:66", #[⟨6, .data⟩, ⟨3, .chain⟩, ⟨3, .guard⟩], some (3, true)⟩) (v := .bool true) rfl (by kernel_rfl) (fun _ _ _ h => h) (Or.inl ⟨by rfl, ?_⟩) (by assumption) ?_
         ·
          intro wx hSw
          go_simp
          try with_reducible rfl
         try simp only [Act.put, La1, La2, La3]
         refine tk (i := 8) (oi := ⟨some 64, .load 32 (.tmp 3), 32, "ref.go:66", #[⟨7, .guard⟩], some (7, true)⟩) (v := .agg #[.int .i64 p.f, .int .i64 p.t, .int .i64 p.tl, .int .i64 p.pr, .int .i64 p.id, .int .i64 p.fr, .bool p.mo, .bool p.dn, .string p.op, .string p.da]) rfl (by kernel_rfl) (fun _ _ _ h => h) (Or.inl ⟨by rfl, ?_⟩) (by assumption) ?_
         ·
          intro wx hSw
          try dsimp only at hSw
          have u0 := hp0 wx hSw
          have u1 := hp1 wx hSw
          have u2 := hp2 wx hSw
          have u3 := hp3 wx hSw
          have u4 := hp4 wx hSw
          have u5 := hp5 wx hSw
          have u6 := hp6 wx hSw
          have u7 := hp7 wx hSw
          have u8 := hp8 wx hSw
          have u9 := hp9 wx hSw
          have t0 := hx0 wx hSw
          have t1 := hx1 wx hSw
          have t2 := hx2 wx hSw
          have t3 := hx3 wx hSw
          have t4 := hx4 wx hSw
          have t5 := hx5 wx hSw
          have t6 := hx6 wx hSw
          have t7 := hx7 wx hSw
          have t8 := hx8 wx hSw
          have t9 := hx9 wx hSw
          go_simp
          try with_reducible rfl
         try simp only [Act.put, La1, La2, La3]
         refine tk (i := 10) (oi := ⟨some 66, .load 32 (.tmp 6), 32, "ref.go:66", #[⟨7, .guard⟩], some (7, true)⟩) (v := .agg #[.int .i64 x.f, .int .i64 x.t, .int .i64 x.tl, .int .i64 x.pr, .int .i64 x.id, .int .i64 x.fr, .bool x.mo, .bool x.dn, .string x.op, .string x.da]) rfl (by kernel_rfl) (fun _ _ _ h => h) (Or.inl ⟨by rfl, ?_⟩) (by assumption) ?_
         ·
          intro wx hSw
          try dsimp only at hSw
          have u0 := hp0 wx hSw
          have u1 := hp1 wx hSw
          have u2 := hp2 wx hSw
          have u3 := hp3 wx hSw
          have u4 := hp4 wx hSw
          have u5 := hp5 wx hSw
          have u6 := hp6 wx hSw
          have u7 := hp7 wx hSw
          have u8 := hp8 wx hSw
          have u9 := hp9 wx hSw
          have t0 := hx0 wx hSw
          have t1 := hx1 wx hSw
          have t2 := hx2 wx hSw
          have t3 := hx3 wx hSw
          have t4 := hx4 wx hSw
          have t5 := hx5 wx hSw
          have t6 := hx6 wx hSw
          have t7 := hx7 wx hSw
          have t8 := hx8 wx hSw
          have t9 := hx9 wx hSw
          go_simp
          try with_reducible rfl
         try simp only [Act.put, La1, La2, La3]
         refine wpAnyH_ready (rs := [9]) (by kernel_rfl) (by simp) ?_
         refine AllReadyH.cons (o := ⟨some 65, .call { callee := .value (.func 42), args := #[.tmp 64], argTypes := #[32] }, 3, "ref.go:66", #[⟨8, .data⟩, ⟨7, .chain⟩, ⟨7, .guard⟩], some (7, true)⟩) rfl (fun K hK => ?_) AllReadyH.nil
         go_simp
         go_at_call 42
         refine (rend_any p _ hp).mono ?_
         rintro e wc1 ⟨rfl, hbc1⟩
         first
          | refine hK.out _ _ ?_ (fun hHeld => ?_)
          | (go_wp2_with fail; refine hK.out _ _ ?_ (fun hHeld => ?_))
         ·
          try dsimp only
          exact bt hHeld hbc1
         clear hK K
         try simp only [Act.put, La1, La2, La3]
         refine wpAnyH_ready (rs := [11]) (by kernel_rfl) (by simp) ?_
         refine AllReadyH.cons (o := ⟨some 67, .call { callee := .value (.func 42), args := #[.tmp 66], argTypes := #[32] }, 3, "ref.go:66", #[⟨10, .data⟩, ⟨9, .chain⟩, ⟨7, .guard⟩], some (7, true)⟩) rfl (fun K hK => ?_) AllReadyH.nil
         go_simp
         go_at_call 42
         refine (rend_any x _ hxf).mono ?_
         rintro e wc2 ⟨rfl, hbc2⟩
         first
          | refine hK.out _ _ ?_ (fun hHeld => ?_)
          | (go_wp2_with fail; refine hK.out _ _ ?_ (fun hHeld => ?_))
         ·
          try dsimp only
          exact bt hHeld hbc2
         clear hK K
         try simp only [Act.put, La1, La2, La3]
         refine tk (i := 12) (oi := ⟨some 68, .binOp .neq 3 (.tmp 65) (.tmp 67) 3, 4, "ref.go:66", #[⟨9, .data⟩, ⟨11, .data⟩, ⟨7, .guard⟩], some (7, true)⟩) (v := .bool true) rfl (by kernel_rfl) (fun _ _ _ h => h) (Or.inl ⟨by rfl, ?_⟩) (by assumption) ?_
         ·
          intro wx hSw
          go_simp
          try with_reducible rfl
         try simp only [Act.put, La1, La2, La3]
         refine tk (i := 13) (oi := ⟨some 69, .pick (.tmp 63) (.tmp 68) (.const (.bool false)), 4, "ref.go:66", #[⟨7, .data⟩, ⟨12, .data⟩, ⟨3, .guard⟩], some (3, true)⟩) (v := .bool true) rfl (by kernel_rfl) (fun _ _ _ h => h) (Or.inl ⟨by rfl, ?_⟩) (by assumption) ?_
         ·
          intro wx hSw
          go_simp
          try with_reducible rfl
         try simp only [Act.put, La1, La2, La3]
         refine tk (i := 14) (oi := ⟨some 70, .move (.tmp 69), 4, "ref.go:66", #[⟨13, .data⟩, ⟨11, .chain⟩, ⟨3, .guard⟩], some (3, true)⟩) (v := .bool true) rfl (by kernel_rfl) (fun _ _ _ h => h) (Or.inl ⟨by rfl, ?_⟩) (by assumption) ?_
         ·
          intro wx hSw
          go_simp
          try with_reducible rfl
         try simp only [Act.put, La1, La2, La3]
         refine tk (i := 15) (oi := ⟨some 71, .load 32 (.tmp 3), 32, "ref.go:66", #[⟨14, .guard⟩], some (14, false)⟩) (v := undef) rfl (by kernel_rfl) (fun _ _ _ h => h) (Or.inr ⟨by rfl, rfl⟩) (by assumption) ?_
         try simp only [Act.put, La1, La2, La3]
         refine tk (i := 16) (oi := ⟨some 72, .call { callee := .value (.func 42), args := #[.tmp 71], argTypes := #[32] }, 3, "ref.go:66", #[⟨15, .data⟩, ⟨14, .chain⟩, ⟨14, .guard⟩], some (14, false)⟩) (v := undef) rfl (by kernel_rfl) (fun _ _ _ h => h) (Or.inr ⟨by rfl, rfl⟩) (by assumption) ?_
         try simp only [Act.put, La1, La2, La3]
         refine tk (i := 17) (oi := ⟨some 73, .load 32 (.tmp 6), 32, "ref.go:66", #[⟨14, .guard⟩], some (14, false)⟩) (v := undef) rfl (by kernel_rfl) (fun _ _ _ h => h) (Or.inr ⟨by rfl, rfl⟩) (by assumption) ?_
         try simp only [Act.put, La1, La2, La3]
         refine tk (i := 18) (oi := ⟨some 74, .call { callee := .value (.func 42), args := #[.tmp 73], argTypes := #[32] }, 3, "ref.go:66", #[⟨17, .data⟩, ⟨16, .chain⟩, ⟨14, .guard⟩], some (14, false)⟩) (v := undef) rfl (by kernel_rfl) (fun _ _ _ h => h) (Or.inr ⟨by rfl, rfl⟩) (by assumption) ?_
         try simp only [Act.put, La1, La2, La3]
         refine tk (i := 19) (oi := ⟨some 75, .binOp .gtr 3 (.tmp 72) (.tmp 74) 3, 4, "ref.go:66", #[⟨16, .data⟩, ⟨18, .data⟩, ⟨14, .guard⟩], some (14, false)⟩) (v := undef) rfl (by kernel_rfl) (fun _ _ _ h => h) (Or.inr ⟨by rfl, rfl⟩) (by assumption) ?_
         try simp only [Act.put, La1, La2, La3]
         refine tk (i := 20) (oi := ⟨some 76, .pick (.tmp 70) (.const (.bool true)) (.tmp 75), 4, "ref.go:66", #[⟨14, .data⟩, ⟨19, .data⟩, ⟨3, .guard⟩], some (3, true)⟩) (v := .bool true) rfl (by kernel_rfl) (fun _ _ _ h => h) (Or.inl ⟨by rfl, ?_⟩) (by assumption) ?_
         ·
          intro wx hSw
          go_simp
          try with_reducible rfl
         try simp only [Act.put, La1, La2, La3]
         refine tk (i := 21) (oi := ⟨some 77, .pick (.tmp 59) (.tmp 76) (.const (.bool false)), 4, "ref.go:66", #[⟨3, .data⟩, ⟨20, .data⟩], none⟩) (v := .bool true) rfl (by kernel_rfl) (fun _ _ _ h => h) (Or.inl ⟨by rfl, ?_⟩) (by assumption) ?_
         ·
          intro wx hSw
          go_simp
          try with_reducible rfl
         try simp only [Act.put, La1, La2, La3]
         refine tk (i := 22) (oi := ⟨some 78, .move (.tmp 77), 4, "ref.go:66", #[⟨21, .data⟩, ⟨18, .chain⟩], none⟩) (v := .bool true) rfl (by kernel_rfl) (fun _ _ _ h => h) (Or.inl ⟨by rfl, ?_⟩) (by assumption) ?_
         ·
          intro wx hSw
          go_simp
          try with_reducible rfl
         try simp only [Act.put, La1, La2, La3]
         refine tk (i := 23) (oi := ⟨some 79, .fieldAddr 32 (.tmp 3) 6, 0, "ref.go:66", #[⟨22, .guard⟩], some (22, false)⟩) (v := undef) rfl (by kernel_rfl) (fun _ _ _ h => h) (Or.inr ⟨by rfl, rfl⟩) (by assumption) ?_
         try simp only [Act.put, La1, La2, La3]
         refine tk (i := 24) (oi := ⟨some 80, .load 4 (.tmp 79), 4, "ref.go:66", #[⟨23, .data⟩, ⟨22, .guard⟩], some (22, false)⟩) (v := undef) rfl (by kernel_rfl) (fun _ _ _ h => h) (Or.inr ⟨by rfl, rfl⟩) (by assumption) ?_
         try simp only [Act.put, La1, La2, La3]
         refine tk (i := 25) (oi := ⟨some 81, .unOp .not 4 (.tmp 80), 4, "ref.go:66", #[⟨24, .data⟩, ⟨22, .guard⟩], some (22, false)⟩) (v := undef) rfl (by kernel_rfl) (fun _ _ _ h => h) (Or.inr ⟨by rfl, rfl⟩) (by assumption) ?_
         try simp only [Act.put, La1, La2, La3]
         refine tk (i := 26) (oi := ⟨some 82, .move (.tmp 81), 4, "ref.go:66", #[⟨25, .data⟩, ⟨22, .chain⟩, ⟨22, .guard⟩], some (22, false)⟩) (v := undef) rfl (by kernel_rfl) (fun _ _ _ h => h) (Or.inr ⟨by rfl, rfl⟩) (by assumption) ?_
         try simp only [Act.put, La1, La2, La3]
         refine tk (i := 27) (oi := ⟨some 83, .load 32 (.tmp 6), 32, "ref.go:66", #[⟨26, .guard⟩], some (26, true)⟩) (v := undef) rfl (by kernel_rfl) (fun _ _ _ h => h) (Or.inr ⟨by rfl, rfl⟩) (by assumption) ?_
         try simp only [Act.put, La1, La2, La3]
         refine tk (i := 28) (oi := ⟨some 84, .call { callee := .value (.func 42), args := #[.tmp 83], argTypes := #[32] }, 3, "ref.go:66", #[⟨27, .data⟩, ⟨26, .chain⟩, ⟨26, .guard⟩], some (26, true)⟩) (v := undef) rfl (by kernel_rfl) (fun _ _ _ h => h) (Or.inr ⟨by rfl, rfl⟩) (by assumption) ?_
         try simp only [Act.put, La1, La2, La3]
         refine tk (i := 29) (oi := ⟨some 85, .load 32 (.tmp 3), 32, "ref.go:66", #[⟨26, .guard⟩], some (26, true)⟩) (v := undef) rfl (by kernel_rfl) (fun _ _ _ h => h) (Or.inr ⟨by rfl, rfl⟩) (by assumption) ?_
         try simp only [Act.put, La1, La2, La3]
         refine tk (i := 30) (oi := ⟨some 86, .call { callee := .value (.func 42), args := #[.tmp 85], argTypes := #[32] }, 3, "ref.go:66", #[⟨29, .data⟩, ⟨28, .chain⟩, ⟨26, .guard⟩], some (26, true)⟩) (v := undef) rfl (by kernel_rfl) (fun _ _ _ h => h) (Or.inr ⟨by rfl, rfl⟩) (by assumption) ?_
         try simp only [Act.put, La1, La2, La3]
         refine tk (i := 31) (oi := ⟨some 87, .binOp .gtr 3 (.tmp 84) (.tmp 86) 3, 4, "ref.go:66", #[⟨28, .data⟩, ⟨30, .data⟩, ⟨26, .guard⟩], some (26, true)⟩) (v := undef) rfl (by kernel_rfl) (fun _ _ _ h => h) (Or.inr ⟨by rfl, rfl⟩) (by assumption) ?_
         try simp only [Act.put, La1, La2, La3]
         refine tk (i := 32) (oi := ⟨some 88, .pick (.tmp 82) (.tmp 87) (.const (.bool false)), 4, "ref.go:66", #[⟨26, .data⟩, ⟨31, .data⟩, ⟨22, .guard⟩], some (22, false)⟩) (v := undef) rfl (by kernel_rfl) (fun _ _ _ h => h) (Or.inr ⟨by rfl, rfl⟩) (by assumption) ?_
         try simp only [Act.put, La1, La2, La3]
         refine tk (i := 33) (oi := ⟨some 89, .pick (.tmp 78) (.const (.bool true)) (.tmp 88), 4, "ref.go:66", #[⟨22, .data⟩, ⟨32, .data⟩], none⟩) (v := .bool true) rfl (by kernel_rfl) (fun _ _ _ h => h) (Or.inl ⟨by rfl, ?_⟩) (by assumption) ?_
         ·
          intro wx hSw
          go_simp
          try with_reducible rfl
         try simp only [Act.put, La1, La2, La3]
         refine wpAnyH_done (by kernel_rfl) ?_ _
         go_wp2
         go_meet
         case rel => exact ⟨by rw [HV.out], hHeld⟩
     case rest =>
      obtain ⟨rfl, hbc⟩ := hcut
      have hb7 := bt hb6 hbc
      clear hX6 hP6 hb6 hbc
      cases hpa : rpaB x p with
      | true =>
       have HF0 : Hid (res = false) := HBAD.out (by unfold rfitB; rw [hpa]; simp)
       clear hpa
       go_wp2
       go_ret
       exact ⟨by rw [HF0.out]; rfl, bt hb4 hb7⟩
      | false =>
       have HN : Hid (rfitB x p = true) := by show _ = _; unfold rfitB; rw [HOV.out, hpa]; rfl
       clear hpa
       go_wp2
       go_roundw
       case rel => exact ⟨k + 1, by omega, by first | rfl | simp, HST.out HN.out, hb7⟩
       case measure => simp [intOf]; omega
  ·
   have hk1 : ¬ (k : Int) < (ps.length : Int) := by omega
   have hkk : k = ps.length := by omega
   have HF1 : Hid (res = true) := by
    rw [hkk, List.take_length] at hno
    show _ = _
    rw [← HRES.out, HALL.out, List.all_eq_true]
    exact hno
   clear hno hkk
   go_wp2
   go_ret
   exact ⟨by rw [HF1.out]; rfl, bt hb4 hb⟩
end Go.Proofs.Ytcjhniehbafhpaa
