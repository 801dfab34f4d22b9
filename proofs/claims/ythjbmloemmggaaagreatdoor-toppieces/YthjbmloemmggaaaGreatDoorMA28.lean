/- the texts KLd, in part, merged by program -/
import Derived.Test.YthjbmloemmggaaaGreatDoorProg
import Derived.Test.YthjbmloemmggaaaGreatDoorRows
import Derived.WalkKit
import Derived.WalkSpells
import Derived.Deep.RegionHeld3
import Derived.Deep.QuietTactic
import Derived.BigQuiet
import Derived.RegionTactic
import Derived.Below
import Derived.Laws.Tables
import Derived.Great.BuildSlice
import Derived.Deep.RegionWith
import Derived.Maps.RangeWalk
import Derived.Maps.OwnSet
import Derived.Maps.Ext
import Derived.WalkSmall
import Derived.Deep.Cut
import Derived.Deep.CutRange
import Derived.Deep.MidRow
import Derived.OwnWalk
import Derived.Maps.Keyed
import Derived.DeepKeys4
import Derived.Laws.CopyRow
import Derived.Shelf.Spec.SlicesInsert
import Derived.Lib.AppendZerosOnto
import Derived.Maps.AppendAt
import Derived.Lib.Overlaps
import Derived.Shelf.Strings.BuilderK
import Derived.Laws.OwnMore
import Derived.Laws.AppendOwnNone
import Derived.Lib.SliceRun
import Derived.Laws.AppendOwn
import Derived.Deep.LoopGhost
import Derived.Lib.Repeat
import Derived.Laws.StructEq
import Derived.BigRegion
import Derived.Deep.Light
import Derived.Carry
import Derived.LoopN
import Derived.LaidEql
import Derived.Stop.Asserts
import Derived.RowKitTokens
import Derived.Recover
import Derived.RangeFuncBox
import Derived.OwnWalkIn
import Derived.TacticsInMore
import Derived.LoopNIn
import Derived.LoopIn
import Derived.Shelf.RegionOpen
import Derived.OrdersIn
import Derived.RangeFuncCalls
import Derived.RangeFuncNested
import Derived.RangeFuncLeaves
import Derived.Shelf.Abstract
import Derived.Test.YthjbmloemmggaaaGreatDoorMA01
import Derived.Test.YthjbmloemmggaaaGreatDoorMA02
import Derived.Test.YthjbmloemmggaaaGreatDoorMA03
import Derived.Test.YthjbmloemmggaaaGreatDoorMA04
import Derived.Test.YthjbmloemmggaaaGreatDoorMA05
import Derived.Test.YthjbmloemmggaaaGreatDoorMA06
import Derived.Test.YthjbmloemmggaaaGreatDoorMA07
import Derived.Test.YthjbmloemmggaaaGreatDoorMA08
import Derived.Test.YthjbmloemmggaaaGreatDoorMA09
import Derived.Test.YthjbmloemmggaaaGreatDoorMA10
import Derived.Test.YthjbmloemmggaaaGreatDoorMA11
import Derived.Test.YthjbmloemmggaaaGreatDoorMA12
import Derived.Test.YthjbmloemmggaaaGreatDoorMA13
import Derived.Test.YthjbmloemmggaaaGreatDoorMA14
import Derived.Test.YthjbmloemmggaaaGreatDoorMA15
import Derived.Test.YthjbmloemmggaaaGreatDoorMA16
import Derived.Test.YthjbmloemmggaaaGreatDoorMA17
import Derived.Test.YthjbmloemmggaaaGreatDoorMA18
import Derived.Test.YthjbmloemmggaaaGreatDoorMA19
import Derived.Test.YthjbmloemmggaaaGreatDoorMA20
import Derived.Test.YthjbmloemmggaaaGreatDoorMA21
import Derived.Test.YthjbmloemmggaaaGreatDoorMA22
import Derived.Test.YthjbmloemmggaaaGreatDoorMA23
import Derived.Test.YthjbmloemmggaaaGreatDoorMA24
import Derived.Test.YthjbmloemmggaaaGreatDoorMA25
import Derived.Test.YthjbmloemmggaaaGreatDoorMA27
namespace Go.Proofs.YthjbmloemmggaaaGreatDoor.Ip
open Go.RowKit Go.Maps Go.Lib
set_option maxRecDepth 100000
set_option linter.unusedVariables false
set_option linter.unusedSimpArgs false

def Arg (w : World) (a : Option Addr) (zs : List Int) : Prop := zs = [] ∨ ∃ x, a = some x ∧ ∀ i, i < zs.length → w.cell? (x.add i) = some (.int .i64 (zs.getD i 0))
theorem turn_of {S : Nat → Prop} {w w' : World} (h : Eth.Arp.Turn S w w') : Turn S w w' := ⟨h.os, h.tape, h.output, h.size, h.block⟩
theorem ints_row {w : World} {base : Nat} {v : Value} (h : Eth.Arp.Ints w base v [1]) : ∃ a c, v = .slice a 1 c ∧ Eth.Row w a [1] := by
  rcases h.2 with ⟨-, h0⟩ | ⟨g, cap, cur, rfl, hg, -⟩
  · cases h0
  · refine ⟨_, cap, rfl, Or.inr ⟨g, 0, rfl, fun j hj => ?_⟩⟩
    obtain rfl : j = 0 := by simpa using hj
    have h' : Eth.Arp.Ints w base (.slice (some ⟨g, 0, none⟩) 1 cap) [1] := h
    have := World.ownsRow.cells h' (g := g) rfl 0 (.int .i64 1) rfl
    simpa [Addr.add] using this
theorem at_rng (g : Nat → Pk) {k N : Nat} (h : k ≤ N) : ((List.range (N + 1)).map g)[k]? = some (g k) := by
  rw [List.getElem?_map, List.getElem?_range (by omega)]
  rfl
def K1 (w7 W : World) (B1 M1 : Nat) (g : Nat → Pk) (j : Nat) (v : Value) : Prop := (∃ la l, ((la = 0 ∧ l = L1) ∨ (la = 1 ∧ l = L2)) ∧ BJ W B1 M1 la l) ∧ RowS W w7.heap.size v ((List.range j).map (fun k => fS (g k))) ∧ Turn (fun k => k = M1 ∨ k = B1) w7 W
set_option maxHeartbeats 16000000 in
theorem pieces_walk (f t tl pr id fr : Int) (mo dn : Bool) (op da : ByteArray) (most : Int) (a : Option Addr) (cap : Nat) (zs : List Int) (w : World) (hG : OrE w) (hop : op.size ≤ 140737488351232) (hda : da.size ≤ 140737488351232) (hi : Arg w a zs) (hz : zs.length * 8 ≤ 140737488351232) :
    Calls Tryz.prog 3 #[.agg #[.int .i64 f, .int .i64 t, .int .i64 tl, .int .i64 pr, .int .i64 id, .int .i64 fr, .bool mo, .bool dn, .string op, .string da], .int .i64 most, .slice a zs.length cap] w fun e w' => e = .returned (.bool true) ∧ Below w.heap.size w w' := by
  have HA : Hid (Arg w a zs) := hi
  have HG : Hid (OrE w) := hG
  clear hi hG
  have ho : op.size ≤ 1125899906842624 := by omega
  have hd : da.size ≤ 1125899906842624 := by omega
  have hA := At.box w #[.int .i64 f, .int .i64 t, .int .i64 tl, .int .i64 pr, .int .i64 id, .int .i64 fr, .bool mo, .bool dn, .string op, .string da] 23
  have hl := bel1 w (.cells #[.int .i64 f, .int .i64 t, .int .i64 tl, .int .i64 pr, .int .i64 id, .int .i64 fr, .bool mo, .bool dn, .string op, .string da] 23)
  go_enter Tryz.func3, Tryz.ntmps3
  go_upto_region 1 with fail
  obtain ⟨PBX, hPB⟩ : ∃ x, x = w.heap.size := ⟨_, rfl⟩
  have hPBb : w.heap.size ≤ PBX := by omega
  rw [← hPB] at hA ⊢
  generalize w.alloc (.cells #[.int .i64 f, .int .i64 t, .int .i64 tl, .int .i64 pr, .int .i64 id, .int .i64 fr, .bool mo, .bool dn, .string op, .string da] 23) = W0 at *
  clear hPB
  go_wp2_with fail
  refine (gathers_any W0).mono ?_
  rintro e w1 ⟨rfl, l1⟩
  replace hA := hA.later l1
  replace hl := bt hl l1
  clear l1
  have hP1 := hA.1
  obtain ⟨c7, f7⟩ := hA.2 7 _ rfl
  obtain ⟨c5, f5⟩ := hA.2 5 _ rfl
  obtain ⟨c6, f6⟩ := hA.2 6 _ rfl
  have hA2 : At (((w1.setCell ⟨PBX, 7, none⟩ (.bool false)).setCell ⟨PBX, 5, none⟩ (.int .i64 0)).setCell ⟨PBX, 6, none⟩ (.bool false)) PBX #[.int .i64 f, .int .i64 t, .int .i64 tl, .int .i64 pr, .int .i64 id, .int .i64 0, .bool false, .bool false, .string op, .string da] := ((hA.set 7 (.bool false)).set 5 (.int .i64 0)).set 6 (.bool false)
  have ht2 := ((turn_set w1 PBX 7 (.bool false)).trans (turn_set _ PBX 5 (.int .i64 0))).trans (turn_set _ PBX 6 (.bool false))
  have hb2 : Below w.heap.size w (((w1.setCell ⟨PBX, 7, none⟩ (.bool false)).setCell ⟨PBX, 5, none⟩ (.int .i64 0)).setCell ⟨PBX, 6, none⟩ (.bool false)) := hl.trans (below_turn ht2 hPBb hl.size)
  clear hA ht2
  go_upto_region 4 with fail
  generalize ((w1.setCell ⟨PBX, 7, none⟩ (.bool false)).setCell ⟨PBX, 5, none⟩ (.int .i64 0)).setCell ⟨PBX, 6, none⟩ (.bool false) = w2 at *
  clear c5 c6 c7 f7 f5 f6 hl
  obtain ⟨c, ps, hC, hpl, -⟩ := cuts_good f t tl pr id 0 false false op da (28 + (op.size : Int) + 8 * (most % 20))
  have hm0 : 0 ≤ most % 20 := Int.emod_nonneg _ (by decide)
  have hm1 : most % 20 < 20 := Int.emod_lt_of_pos _ (by decide)
  have hw1 : IntKind.i64.wrap (28 + (op.size : Int)) = 28 + (op.size : Int) := by rw [IntKind.wrap_i64]; omega
  have hw2 : IntKind.i64.wrap (8 * (most % 20)) = 8 * (most % 20) := by rw [IntKind.wrap_i64]; omega
  have hw3 : IntKind.i64.wrap (28 + (op.size : Int) + 8 * (most % 20)) = (28 + (op.size : Int) + 8 * (most % 20)) := by rw [IntKind.wrap_i64]; omega
  have hc0 : ∀ W, Below w2.heap.size w2 W → W.cell? ⟨PBX, 0, none⟩ = some (.int .i64 f) := fun W hW => later hW (hA2.2 0 _ rfl).1
  have hc1 : ∀ W, Below w2.heap.size w2 W → W.cell? ⟨PBX, 1, none⟩ = some (.int .i64 t) := fun W hW => later hW (hA2.2 1 _ rfl).1
  have hc2 : ∀ W, Below w2.heap.size w2 W → W.cell? ⟨PBX, 2, none⟩ = some (.int .i64 tl) := fun W hW => later hW (hA2.2 2 _ rfl).1
  have hc3 : ∀ W, Below w2.heap.size w2 W → W.cell? ⟨PBX, 3, none⟩ = some (.int .i64 pr) := fun W hW => later hW (hA2.2 3 _ rfl).1
  have hc4 : ∀ W, Below w2.heap.size w2 W → W.cell? ⟨PBX, 4, none⟩ = some (.int .i64 id) := fun W hW => later hW (hA2.2 4 _ rfl).1
  have hc5 : ∀ W, Below w2.heap.size w2 W → W.cell? ⟨PBX, 5, none⟩ = some (.int .i64 0) := fun W hW => later hW (hA2.2 5 _ rfl).1
  have hc6 : ∀ W, Below w2.heap.size w2 W → W.cell? ⟨PBX, 6, none⟩ = some (.bool false) := fun W hW => later hW (hA2.2 6 _ rfl).1
  have hc7 : ∀ W, Below w2.heap.size w2 W → W.cell? ⟨PBX, 7, none⟩ = some (.bool false) := fun W hW => later hW (hA2.2 7 _ rfl).1
  have hc8 : ∀ W, Below w2.heap.size w2 W → W.cell? ⟨PBX, 8, none⟩ = some (.string op) := fun W hW => later hW (hA2.2 8 _ rfl).1
  have hc9 : ∀ W, Below w2.heap.size w2 W → W.cell? ⟨PBX, 9, none⟩ = some (.string da) := fun W hW => later hW (hA2.2 9 _ rfl).1
  refine wp_region_held_drew (S := (fun W => Below w2.heap.size w2 W)) (by kernel_rfl) ?_ (fun hHeld => ?_)
  · first | exact (Below.refl _ _).drew | assumption
  refine wpAnyH_take (i := 0) (oi := ({ dst := some 36, op := Go.Op.load 23 (Go.Operand.tmp 3), type := 23, pos := "top12.go:29", after := #[], guard := none } : Go.Oper)) (v := .agg #[.int .i64 f, .int .i64 t, .int .i64 tl, .int .i64 pr, .int .i64 id, .int .i64 0, .bool false, .bool false, .string op, .string da]) rfl (by kernel_rfl) (by kernel_rfl) (by kernel_rfl) (fun _ _ _ h => h) (Or.inl ⟨by rfl, ?_⟩) (by assumption) ?_
  · intro wx hSw
    try dsimp only at hSw
    have u0 := hc0 wx hSw
    have u1 := hc1 wx hSw
    have u2 := hc2 wx hSw
    have u3 := hc3 wx hSw
    have u4 := hc4 wx hSw
    have u5 := hc5 wx hSw
    have u6 := hc6 wx hSw
    have u7 := hc7 wx hSw
    have u8 := hc8 wx hSw
    have u9 := hc9 wx hSw
    go_simp
    try with_reducible rfl
  try simp only [Act.put, List.setIfInBounds_toArray, List.set_cons_zero, List.set_cons_succ]
  refine wpAnyH_take (i := 1) (oi := ({ dst := some 37, op := Go.Op.fieldAddr 23 (Go.Operand.tmp 3) 8, type := 0, pos := "top12.go:29", after := #[], guard := none } : Go.Oper)) (v := .pointer (some ⟨PBX, 8, none⟩)) rfl (by kernel_rfl) (by kernel_rfl) (by kernel_rfl) (fun _ _ _ h => h) (Or.inl ⟨by rfl, ?_⟩) (by assumption) ?_
  · intro wx hSw
    try dsimp only at hSw
    have u0 := hc0 wx hSw
    have u1 := hc1 wx hSw
    have u2 := hc2 wx hSw
    have u3 := hc3 wx hSw
    have u4 := hc4 wx hSw
    have u5 := hc5 wx hSw
    have u6 := hc6 wx hSw
    have u7 := hc7 wx hSw
    have u8 := hc8 wx hSw
    have u9 := hc9 wx hSw
    go_simp
    try with_reducible rfl
  try simp only [Act.put, List.setIfInBounds_toArray, List.set_cons_zero, List.set_cons_succ]
  refine wpAnyH_take (i := 2) (oi := ({ dst := some 38, op := Go.Op.load 9 (Go.Operand.tmp 37), type := 9, pos := "top12.go:29", after := #[{ on := 1, ground := Go.Ground.data }], guard := none } : Go.Oper)) (v := .string op) rfl (by kernel_rfl) (by kernel_rfl) (by kernel_rfl) (fun _ _ _ h => h) (Or.inl ⟨by rfl, ?_⟩) (by assumption) ?_
  · intro wx hSw
    try dsimp only at hSw
    have u0 := hc0 wx hSw
    have u1 := hc1 wx hSw
    have u2 := hc2 wx hSw
    have u3 := hc3 wx hSw
    have u4 := hc4 wx hSw
    have u5 := hc5 wx hSw
    have u6 := hc6 wx hSw
    have u7 := hc7 wx hSw
    have u8 := hc8 wx hSw
    have u9 := hc9 wx hSw
    go_simp
    try with_reducible rfl
  try simp only [Act.put, List.setIfInBounds_toArray, List.set_cons_zero, List.set_cons_succ]
  refine wpAnyH_take (i := 3) (oi := ({ dst := some 39, op := Go.Op.call { callee := Go.Callee.builtin Go.Builtin.len, args := #[Go.Operand.tmp 38], argTypes := #[9] }, type := 3, pos := "top12.go:29", after := #[{ on := 2, ground := Go.Ground.data }], guard := none } : Go.Oper)) (v := .int .i64 (op.size : Int)) rfl (by kernel_rfl) (by kernel_rfl) (by kernel_rfl) (fun _ _ _ h => h) (Or.inl ⟨by rfl, ?_⟩) (by assumption) ?_
  · intro wx hSw
    try dsimp only at hSw
    have u0 := hc0 wx hSw
    have u1 := hc1 wx hSw
    have u2 := hc2 wx hSw
    have u3 := hc3 wx hSw
    have u4 := hc4 wx hSw
    have u5 := hc5 wx hSw
    have u6 := hc6 wx hSw
    have u7 := hc7 wx hSw
    have u8 := hc8 wx hSw
    have u9 := hc9 wx hSw
    go_simp
    try with_reducible rfl
  try simp only [Act.put, List.setIfInBounds_toArray, List.set_cons_zero, List.set_cons_succ]
  refine wpAnyH_take (i := 4) (oi := ({ dst := some 40, op := Go.Op.binOp Go.BinOp.add 3 (Go.Operand.const (Go.Value.int Go.IntKind.i64 28)) (Go.Operand.tmp 39) 3, type := 3, pos := "top12.go:29", after := #[{ on := 3, ground := Go.Ground.data }], guard := none } : Go.Oper)) (v := .int .i64 (28 + (op.size : Int))) rfl (by kernel_rfl) (by kernel_rfl) (by kernel_rfl) (fun _ _ _ h => h) (Or.inl ⟨by rfl, ?_⟩) (by assumption) ?_
  · intro wx hSw
    try dsimp only at hSw
    have u0 := hc0 wx hSw
    have u1 := hc1 wx hSw
    have u2 := hc2 wx hSw
    have u3 := hc3 wx hSw
    have u4 := hc4 wx hSw
    have u5 := hc5 wx hSw
    have u6 := hc6 wx hSw
    have u7 := hc7 wx hSw
    have u8 := hc8 wx hSw
    have u9 := hc9 wx hSw
    go_simp
    try with_reducible rfl
  try simp only [Act.put, List.setIfInBounds_toArray, List.set_cons_zero, List.set_cons_succ]
  refine wpAnyH_take (i := 5) (oi := ({ dst := some 41, op := Go.Op.move (Go.Operand.tmp 1), type := 3, pos := "top12.go:29", after := #[], guard := none } : Go.Oper)) (v := .int .i64 most) rfl (by kernel_rfl) (by kernel_rfl) (by kernel_rfl) (fun _ _ _ h => h) (Or.inl ⟨by rfl, ?_⟩) (by assumption) ?_
  · intro wx hSw
    try dsimp only at hSw
    have u0 := hc0 wx hSw
    have u1 := hc1 wx hSw
    have u2 := hc2 wx hSw
    have u3 := hc3 wx hSw
    have u4 := hc4 wx hSw
    have u5 := hc5 wx hSw
    have u6 := hc6 wx hSw
    have u7 := hc7 wx hSw
    have u8 := hc8 wx hSw
    have u9 := hc9 wx hSw
    go_simp
    try with_reducible rfl
  try simp only [Act.put, List.setIfInBounds_toArray, List.set_cons_zero, List.set_cons_succ]
  refine wpAnyH_ready (rs := [6]) (by kernel_rfl) (by simp) ?_
  refine AllReadyH.cons (o := ({ dst := some 42, op := Go.Op.call { callee := Go.Callee.value (Go.Operand.func 6), args := #[Go.Operand.tmp 41, Go.Operand.const (Go.Value.int Go.IntKind.i64 20)], argTypes := #[3, 3] }, type := 3, pos := "top12.go:29", after := #[{ on := 5, ground := Go.Ground.data }], guard := none } : Go.Oper)) rfl (fun K hK => ?_) AllReadyH.nil
  go_simp
  go_at_call 6
  refine (among_any most 20 _ (by decide) (by decide)).mono ?_
  rintro e w3 ⟨rfl, rfl⟩
  first
    | refine hK.out _ _ ?_ (fun hHeld => ?_)
    | (go_wp2_with fail; refine hK.out _ _ ?_ (fun hHeld => ?_))
  · try dsimp only
    exact hHeld
  clear hK K
  try simp only [Act.put, List.setIfInBounds_toArray, List.set_cons_zero, List.set_cons_succ]
  refine wpAnyH_take (i := 7) (oi := ({ dst := some 43, op := Go.Op.binOp Go.BinOp.mul 3 (Go.Operand.const (Go.Value.int Go.IntKind.i64 8)) (Go.Operand.tmp 42) 3, type := 3, pos := "top12.go:29", after := #[{ on := 6, ground := Go.Ground.data }], guard := none } : Go.Oper)) (v := .int .i64 (8 * (most % 20))) rfl (by kernel_rfl) (by kernel_rfl) (by kernel_rfl) (fun _ _ _ h => h) (Or.inl ⟨by rfl, ?_⟩) (by assumption) ?_
  · intro wx hSw
    try dsimp only at hSw
    have u0 := hc0 wx hSw
    have u1 := hc1 wx hSw
    have u2 := hc2 wx hSw
    have u3 := hc3 wx hSw
    have u4 := hc4 wx hSw
    have u5 := hc5 wx hSw
    have u6 := hc6 wx hSw
    have u7 := hc7 wx hSw
    have u8 := hc8 wx hSw
    have u9 := hc9 wx hSw
    go_simp
    try with_reducible rfl
  try simp only [Act.put, List.setIfInBounds_toArray, List.set_cons_zero, List.set_cons_succ]
  refine wpAnyH_take (i := 8) (oi := ({ dst := some 44, op := Go.Op.binOp Go.BinOp.add 3 (Go.Operand.tmp 40) (Go.Operand.tmp 43) 3, type := 3, pos := "top12.go:29", after := #[{ on := 4, ground := Go.Ground.data }, { on := 7, ground := Go.Ground.data }], guard := none } : Go.Oper)) (v := .int .i64 (28 + (op.size : Int) + 8 * (most % 20))) rfl (by kernel_rfl) (by kernel_rfl) (by kernel_rfl) (fun _ _ _ h => h) (Or.inl ⟨by rfl, ?_⟩) (by assumption) ?_
  · intro wx hSw
    try dsimp only at hSw
    have u0 := hc0 wx hSw
    have u1 := hc1 wx hSw
    have u2 := hc2 wx hSw
    have u3 := hc3 wx hSw
    have u4 := hc4 wx hSw
    have u5 := hc5 wx hSw
    have u6 := hc6 wx hSw
    have u7 := hc7 wx hSw
    have u8 := hc8 wx hSw
    have u9 := hc9 wx hSw
    go_simp
    try with_reducible rfl
  try simp only [Act.put, List.setIfInBounds_toArray, List.set_cons_zero, List.set_cons_succ]
  refine wpAnyH_ready (rs := [9]) (by kernel_rfl) (by simp) ?_
  refine AllReadyH.cons (o := ({ dst := some 45, op := Go.Op.call { callee := Go.Callee.value (Go.Operand.func 5), args := #[Go.Operand.tmp 36, Go.Operand.tmp 44], argTypes := #[23, 3] }, type := 28, pos := "top12.go:29", after := #[{ on := 0, ground := Go.Ground.data }, { on := 8, ground := Go.Ground.data }, { on := 6, ground := Go.Ground.chain }], guard := none } : Go.Oper)) rfl (fun K hK => ?_) AllReadyH.nil
  go_simp
  go_at_call 5
  refine (pieces_any f t tl pr id 0 false false op da (28 + (op.size : Int) + 8 * (most % 20)) c ps _ ho hd hC).mono ?_
  rintro e w4 ⟨v, rfl, l4, hown⟩
  first
    | refine hK.out _ _ ?_ (fun hHeld => ?_)
    | (go_wp2_with fail; refine hK.out _ _ ?_ (fun hHeld => ?_))
  · try dsimp only
    exact bt hHeld l4
  clear hK K
  try simp only [Act.put, List.setIfInBounds_toArray, List.set_cons_zero, List.set_cons_succ]
  refine wpAnyH_take (i := 10) (oi := ({ dst := some 35, op := Go.Op.move (Go.Operand.tmp 45), type := 28, pos := "top12.go:29", after := #[{ on := 9, ground := Go.Ground.data }], guard := none } : Go.Oper)) (v := .tuple #[v, .int .i64 c]) rfl (by kernel_rfl) (by kernel_rfl) (by kernel_rfl) (fun _ _ _ h => h) (Or.inl ⟨by rfl, ?_⟩) (by assumption) ?_
  · intro wx hSw
    try dsimp only at hSw
    have u0 := hc0 wx hSw
    have u1 := hc1 wx hSw
    have u2 := hc2 wx hSw
    have u3 := hc3 wx hSw
    have u4 := hc4 wx hSw
    have u5 := hc5 wx hSw
    have u6 := hc6 wx hSw
    have u7 := hc7 wx hSw
    have u8 := hc8 wx hSw
    have u9 := hc9 wx hSw
    go_simp
    try with_reducible rfl
  try simp only [Act.put, List.setIfInBounds_toArray, List.set_cons_zero, List.set_cons_succ]
  refine wpAnyH_take (i := 11) (oi := ({ dst := some 46, op := Go.Op.extract (Go.Operand.tmp 35) 0, type := 26, pos := "top12.go:29", after := #[{ on := 10, ground := Go.Ground.data }], guard := none } : Go.Oper)) (v := v) rfl (by kernel_rfl) (by kernel_rfl) (by kernel_rfl) (fun _ _ _ h => h) (Or.inl ⟨by rfl, ?_⟩) (by assumption) ?_
  · intro wx hSw
    try dsimp only at hSw
    have u0 := hc0 wx hSw
    have u1 := hc1 wx hSw
    have u2 := hc2 wx hSw
    have u3 := hc3 wx hSw
    have u4 := hc4 wx hSw
    have u5 := hc5 wx hSw
    have u6 := hc6 wx hSw
    have u7 := hc7 wx hSw
    have u8 := hc8 wx hSw
    have u9 := hc9 wx hSw
    go_simp
    try with_reducible rfl
  try simp only [Act.put, List.setIfInBounds_toArray, List.set_cons_zero, List.set_cons_succ]
  refine wpAnyH_take (i := 12) (oi := ({ dst := some 47, op := Go.Op.extract (Go.Operand.tmp 35) 1, type := 27, pos := "top12.go:29", after := #[{ on := 10, ground := Go.Ground.data }, { on := 13, ground := Go.Ground.gcOnly Go.Departure.lateStores }], guard := none } : Go.Oper)) (v := .int .i64 c) rfl (by kernel_rfl) (by kernel_rfl) (by kernel_rfl) (fun _ _ _ h => h) (Or.inl ⟨by rfl, ?_⟩) (by assumption) ?_
  · intro wx hSw
    try dsimp only at hSw
    have u0 := hc0 wx hSw
    have u1 := hc1 wx hSw
    have u2 := hc2 wx hSw
    have u3 := hc3 wx hSw
    have u4 := hc4 wx hSw
    have u5 := hc5 wx hSw
    have u6 := hc6 wx hSw
    have u7 := hc7 wx hSw
    have u8 := hc8 wx hSw
    have u9 := hc9 wx hSw
    go_simp
    try with_reducible rfl
  try simp only [Act.put, List.setIfInBounds_toArray, List.set_cons_zero, List.set_cons_succ]
  refine wpAnyH_take (i := 13) (oi := ({ dst := some 7, op := Go.Op.assign (Go.Operand.tmp 46), type := 26, pos := "top12.go:29", after := #[{ on := 11, ground := Go.Ground.data }, { on := 9, ground := Go.Ground.chain }, { on := 0, ground := Go.Ground.phase }, { on := 1, ground := Go.Ground.phase }, { on := 2, ground := Go.Ground.phase }, { on := 3, ground := Go.Ground.phase }, { on := 4, ground := Go.Ground.phase }, { on := 5, ground := Go.Ground.phase }, { on := 6, ground := Go.Ground.phase }, { on := 7, ground := Go.Ground.phase }, { on := 8, ground := Go.Ground.phase }, { on := 9, ground := Go.Ground.phase }, { on := 10, ground := Go.Ground.phase }, { on := 11, ground := Go.Ground.phase }, { on := 12, ground := Go.Ground.textOnly Go.Departure.lateStores }], guard := none } : Go.Oper)) (v := v) rfl (by kernel_rfl) (by kernel_rfl) (by kernel_rfl) (fun _ _ _ h => h) (Or.inl ⟨by rfl, ?_⟩) (by assumption) ?_
  · intro wx hSw
    try dsimp only at hSw
    have u0 := hc0 wx hSw
    have u1 := hc1 wx hSw
    have u2 := hc2 wx hSw
    have u3 := hc3 wx hSw
    have u4 := hc4 wx hSw
    have u5 := hc5 wx hSw
    have u6 := hc6 wx hSw
    have u7 := hc7 wx hSw
    have u8 := hc8 wx hSw
    have u9 := hc9 wx hSw
    go_simp
    try with_reducible rfl
  try simp only [Act.put, List.setIfInBounds_toArray, List.set_cons_zero, List.set_cons_succ]
  refine wpAnyH_take (i := 14) (oi := ({ dst := some 8, op := Go.Op.assign (Go.Operand.tmp 47), type := 27, pos := "top12.go:29", after := #[{ on := 12, ground := Go.Ground.data }, { on := 13, ground := Go.Ground.chain }, { on := 0, ground := Go.Ground.phase }, { on := 1, ground := Go.Ground.phase }, { on := 2, ground := Go.Ground.phase }, { on := 3, ground := Go.Ground.phase }, { on := 4, ground := Go.Ground.phase }, { on := 5, ground := Go.Ground.phase }, { on := 6, ground := Go.Ground.phase }, { on := 7, ground := Go.Ground.phase }, { on := 8, ground := Go.Ground.phase }, { on := 9, ground := Go.Ground.phase }, { on := 10, ground := Go.Ground.phase }, { on := 11, ground := Go.Ground.phase }, { on := 12, ground := Go.Ground.phase }, { on := 13, ground := Go.Ground.phase }], guard := none } : Go.Oper)) (v := .int .i64 c) rfl (by kernel_rfl) (by kernel_rfl) (by kernel_rfl) (fun _ _ _ h => h) (Or.inl ⟨by rfl, ?_⟩) (by assumption) ?_
  · intro wx hSw
    try dsimp only at hSw
    have u0 := hc0 wx hSw
    have u1 := hc1 wx hSw
    have u2 := hc2 wx hSw
    have u3 := hc3 wx hSw
    have u4 := hc4 wx hSw
    have u5 := hc5 wx hSw
    have u6 := hc6 wx hSw
    have u7 := hc7 wx hSw
    have u8 := hc8 wx hSw
    have u9 := hc9 wx hSw
    go_simp
    try with_reducible rfl
  try simp only [Act.put, List.setIfInBounds_toArray, List.set_cons_zero, List.set_cons_succ]
  refine wpAnyH_done (by kernel_rfl) ?_ _
  have hr4 : RW w4 w2.heap.size v ps := own_mono hown (Nat.le_refl _)
  have hA4 := hA2.later hHeld
  have hb4 := bt hb2 hHeld
  have hs24 := hHeld.size
  have hb4s := hb4.size
  have hps2 := hA2.1
  obtain ⟨va, vc, rfl⟩ := hr4.shape
  clear hc0 hc1 hc2 hc3 hc4 hc5 hc6 hc7 hc8 hc9 hA2 hb2 hown l4 hHeld
  have c9 := (hA4.2 9 _ rfl).1
  by_cases hce : c = 0
  rotate_left
  · have hce' : (c != 0) = true := by simp [hce]
    clear hA4 hr4 hC
    go_wp2
    go_ret
    exact ⟨by simp [hce], hb4⟩
  subst hce
  by_cases h1 : (400 : Int) < (da.size : Int)
  · clear hr4 hC
    go_wp2
    go_ret
    exact ⟨by simp, hb4⟩
  by_cases h40 : (40 : Int) < (ps.length : Int)
  · clear hr4 hC
    go_wp2
    go_ret
    exact ⟨by simp [h40], hb4⟩
  obtain ⟨g, N, HTX, rfl⟩ := cuts_tx hC (by omega)
  have hN : N < 40 := by simp at h40; omega
  have hlen : ((List.range (N + 1)).map g).length = N + 1 := by simp
  rw [hlen] at hr4 h40
  rw [hlen]
  clear hC hpl
  go_wp2_with fail
  refine (Eth.Arp.new_t 3 1000 9 w4 (by decide)).mono ?_
  rintro e w5 ⟨B1, M1, rfl, hB1, hM1, hBat, hLrn, l5⟩
  have hBJ : BJ w5 B1 M1 0 [] := ⟨hBat, hLrn⟩
  clear hBat hLrn
  go_wp2_with fail
  refine (new_t 4 1000 w5 (by decide) (by decide) (by decide) (by decide)).mono ?_
  rintro e w6 ⟨rfl, hBo, hGo, l6⟩
  have hB1s : B1 < w5.heap.size := hBJ.at5.1
  have hM1s : M1 < w5.heap.size := hBJ.lrn.1.lt
  have hBos := hBo.1
  have hBJ6 := hBJ.later l6
  have hA6 := (hA4.later l5).later l6
  have hr6 := (hr4.later l5).later l6
  have hb6 := bt (bt hb4 l5) l6
  have hs45 := l5.size
  have hs56 := l6.size
  have hrl := hr4.lt
  have hrg4 := hr4.ge
  clear hBJ hA4 hr4 hb4 l5 l6 c9 h1
  obtain ⟨M2, hM2⟩ : ∃ x, x = w5.heap.size := ⟨_, rfl⟩
  obtain ⟨B2, hB2⟩ : ∃ x, x = w5.heap.size + 1 := ⟨_, rfl⟩
  rw [← hB2, ← hM2] at hBo
  rw [← hM2] at hGo
  rw [← hB2]
  go_wp2_with fail
  refine (tp_first hBJ6).mono ?_
  rintro e w7 ⟨v7, rfl, hBJ7, ht7⟩
  have ht7' := turn_of ht7
  have hs67 := ht7'.size
  have hA7 := hA6.turn ht7' (by show ¬ (_ ∨ _); omega)
  have hr7 := hr6.turn ht7' (fun k hk => by have := hrl k hk; show ¬ (_ ∨ _); omega)
  have hBo7 := hBo.turn ht7' (by show ¬ (_ ∨ _); omega)
  have hGo7 := hGo.turn ht7' (by show ¬ (_ ∨ _); omega)
  have hb7 : Below w.heap.size w w7 := hb6.trans (ht7'.below hb6.size (fun k hk e => by have := hb6.size; omega))
  clear hBJ6 hA6 hr6 hBo hGo hb6 ht7 ht7'
  have HK7 : Hid (K1 w7 w7 B1 M1 g 0 (.slice none 0 0)) := ⟨⟨0, L1, Or.inl ⟨rfl, rfl⟩, hBJ7⟩, RowS.nil _ _, Turn.refl _⟩
  clear hBJ7
  obtain ⟨gb, cc, cur, hv, hge, hcur, -⟩ := hr7.real (fun e => by have := congrArg List.length e; simp at this)
  injection hv with e1 e2 e3
  subst e1 e3
  clear e2 hcur
  have hgb : gb < w4.heap.size := hrl gb (by simp [Value.ownBlock])
  have HTXH : Hid (TX (⟨f, t, tl, pr, id, 0, false, false, op, da⟩ : Pk) g N) := HTX
  clear HTX
  have hN1 : ((N + 1 : Nat) : Int) = (N : Int) + 1 := by omega
  go_wp2_with fail
  try go_frame
  go_loopw [12, 88] (fun s12 s88 W => ∃ j : Nat, j ≤ N + 1 ∧ s88 = .int .i64 (j : Int) ∧ Hid (K1 w7 W B1 M1 g j s12)) (fun _ s88 _ => N + 1 - (RowKit.intOf s88).toNat)
  case atStart => exact ⟨0, Nat.zero_le _, rfl, HK7⟩
  case round =>
    clear HK7
    obtain ⟨j, hj, rfl, HK⟩ := hrel
    by_cases hjN : j < N + 1
    · have z1 : (j : Int) < (N : Int) + 1 := by omega
      have hjk : j ≤ N := by omega
      obtain ⟨⟨la, l, hll, hBJ⟩, hRS, hfr⟩ := HK.out
      have hmay := HTXH.out.may j hjk
      have hds := HTXH.out.ds j hjk
      have hs7 := hfr.size
      have hrW := hr7.turn hfr (fun k hk => by simp [Value.ownBlock] at hk; show ¬ (_ ∨ _); omega)
      have hrg : wr.rangeAt gb (j * 10) [.int .i64 (g j).f, .int .i64 (g j).t, .int .i64 (g j).tl, .int .i64 (g j).pr, .int .i64 (g j).id, .int .i64 (g j).fr, .bool (g j).mo, .bool (g j).dn, .string (g j).op, .string (g j).da] := fun q u hu => hrW.cells (i := j) (p := g j) (at_rng g hjk) q u hu
      have hone : (#[.int .i64 (g j).f, .int .i64 (g j).t, .int .i64 (g j).tl, .int .i64 (g j).pr, .int .i64 (g j).id, .int .i64 (g j).fr, .bool (g j).mo, .bool (g j).dn, .string (g j).op, .string (g j).da] : Array Value).all (·.oneCell') = true := by simp [Value.oneCell']
      have hj0 : (0 : Int) ≤ (j : Int) := by omega
      clear HK hrW
      go_upto_region 16 with (first
        | (refine wpList_load_mid rfl 23 _ rfl gb (j * 10) (by first | rfl | simp) _ _ hrg Tryz.underlying23 rfl (by kernel_rfl) ?_)
        | (refine wpList_store_at rfl 23 _ _ rfl _ wr.heap.size #[.int .i64 0, .int .i64 0, .int .i64 0, .int .i64 0, .int .i64 0, .int .i64 0, .bool false, .bool false, .string ⟨#[]⟩, .string ⟨#[]⟩] #[.int .i64 (g j).f, .int .i64 (g j).t, .int .i64 (g j).tl, .int .i64 (g j).pr, .int .i64 (g j).id, .int .i64 (g j).fr, .bool (g j).mo, .bool (g j).dn, .string (g j).op, .string (g j).da] rfl rfl (At.box wr #[.int .i64 0, .int .i64 0, .int .i64 0, .int .i64 0, .int .i64 0, .int .i64 0, .bool false, .bool false, .string ⟨#[]⟩, .string ⟨#[]⟩] 23) rfl (by kernel_rfl) hone ?_; intro w8 hQ8 ht8)
        | go_in)
      have q8 : Below wr.heap.size wr w8 := (bel1 wr (.cells #[.int .i64 0, .int .i64 0, .int .i64 0, .int .i64 0, .int .i64 0, .int .i64 0, .bool false, .bool false, .string ⟨#[]⟩, .string ⟨#[]⟩] 23)).trans (below_turn ht8 (Nat.le_refl _) (bel1 wr _).size)
      have hBJ8 := hBJ.later q8
      have hRS8 := hRS.later q8
      have hfr8 := hfr.later q8
      have hs78 := q8.size
      clear hBJ hRS hfr hrg ht8 q8
      go_wp2_with (first
        | (refine wpList_load_at rfl 23 _ rfl _ wr.heap.size #[.int .i64 (g j).f, .int .i64 (g j).t, .int .i64 (g j).tl, .int .i64 (g j).pr, .int .i64 (g j).id, .int .i64 (g j).fr, .bool (g j).mo, .bool (g j).dn, .string (g j).op, .string (g j).da] _ rfl hQ8 Tryz.underlying23 (by kernel_rfl) ?_)
        | fail)
      refine (tp_enc hmay w8).mono ?_
      rintro e w9 ⟨rfl, l9⟩
      have hBJ9 := hBJ8.later l9
      have hRS9 := hRS8.later l9
      have hfr9 := hfr8.later l9
      have hs89 := l9.size
      clear hBJ8 hRS8 hfr8 l9 hQ8
      obtain ⟨is_, his⟩ : ∃ x, x = iS (g j) := ⟨_, rfl⟩
      have HIS : Hid (is_ = iS (g j)) := his
      rw [← his]
      clear his
      have hone4 : (#[.int .i64 3, .int .i64 2, .int .i64 2048, .string is_] : Array Value).all (·.oneCell') = true := by simp [Value.oneCell']
      go_upto_region 18 with (first
        | (refine wpList_store_at rfl 40 _ _ rfl _ w9.heap.size #[.int .i64 0, .int .i64 0, .int .i64 0, .string ⟨#[]⟩] #[.int .i64 3, .int .i64 2, .int .i64 2048, .string is_] rfl rfl (At.box w9 #[.int .i64 0, .int .i64 0, .int .i64 0, .string ⟨#[]⟩] 40) rfl (by kernel_rfl) hone4 ?_; intro w10 hQ10 ht10)
        | go_in)
      have q10 : Below w9.heap.size w9 w10 := (bel1 w9 (.cells #[.int .i64 0, .int .i64 0, .int .i64 0, .string ⟨#[]⟩] 40)).trans (below_turn ht10 (Nat.le_refl _) (bel1 w9 _).size)
      have hBJ10 := hBJ9.later q10
      have hRS10 := hRS9.later q10
      have hfr10 := hfr9.later q10
      have hs910 := q10.size
      have hQl := hQ10.1
      clear hBJ9 hRS9 hfr9 ht10 q10
      have htk := tp_take hll hBJ10 hmay hds
      rw [← HIS.out] at htk
      go_wp2_with (first
        | (refine wpList_load_at rfl 40 _ rfl _ w9.heap.size #[.int .i64 3, .int .i64 2, .int .i64 2048, .string is_] _ rfl hQ10 Tryz.underlying40 (by kernel_rfl) ?_)
        | fail)
      refine htk.mono ?_
      rintro e w11 ⟨v11, rfl, hI11, hBJ11, ht11'⟩
      have ht11 := turn_of ht11'
      have hQ11 := hQ10.turn ht11 (by show ¬ (_ ∨ _); omega)
      have hRS11 := hRS10.turn ht11 (fun k hk => by have := (hRS10.ge k hk).1; show ¬ (_ ∨ _); omega)
      have hfr11 := hfr10.trans ht11
      have hs1011 := ht11.size
      obtain ⟨a11, c11, rfl, hR11⟩ := ints_row hI11
      clear hBJ10 hRS10 hfr10 htk ht11' ht11 hI11 hQ10
      have htf := tp_fr hmay hds w11
      rw [← HIS.out] at htf
      go_wp2_with (first
        | (refine wpList_load_at rfl 40 _ rfl _ w9.heap.size #[.int .i64 3, .int .i64 2, .int .i64 2048, .string is_] _ rfl hQ11 Tryz.underlying40 (by kernel_rfl) ?_)
        | fail)
      refine htf.mono ?_
      rintro e w12 ⟨rfl, l12⟩
      have hBJ12 := hBJ11.later l12
      have hRS12 := hRS11.later l12
      have hfr12 := hfr11.later l12
      have hR12 := hR11.later l12
      have hs1112 := l12.size
      clear hBJ11 hRS11 hfr11 hR11 htf l12 hQ11
      obtain ⟨fs_, hfs⟩ : ∃ x, x = fS (g j) := ⟨_, rfl⟩
      have HFS : Hid (fs_ = fS (g j)) := hfs
      rw [← hfs]
      clear hfs
      have q13 := bel1 w12 (.cells #[.int .i64 1] 3)
      have hR13 : Eth.Row (w12.alloc (.cells #[.int .i64 1] 3)) (some ⟨w12.heap.size, 0, none⟩) [1] := Or.inr ⟨_, 0, rfl, fun j hj => by
        obtain rfl : j = 0 := by simpa using hj
        exact ((At.box w12 #[.int .i64 1] 3).2 0 _ rfl).1⟩
      have hsame := Eth.same_any a11 c11 (some ⟨w12.heap.size, 0, none⟩) 1 [1] (w12.alloc (.cells #[.int .i64 1] 3)) (by decide) (hR12.later q13) hR13
      go_wp2_with fail
      refine hsame.mono ?_
      rintro e w14 ⟨rfl, l14⟩
      have q14 := bt q13 l14
      have hBJ14 := hBJ12.later q14
      have hRS14 := hRS12.later q14
      have hfr14 := hfr12.later q14
      have hs1214 := q14.size
      clear hBJ12 hRS12 hfr12 hR12 hR13 hsame q13 l14 q14
      have hlen5 : ((List.range j).map (fun k => fS (g k))).length < 100000 := by simp; omega
      have hb714 : w7.heap.size ≤ w14.heap.size := by omega
      go_wp2_with (first
        | (at_builtin; refine wpList_appendS rfl _ _ rfl w7.heap.size u12 ((List.range j).map (fun k => fS (g k))) fs_ rfl hRS14 rfl hb714 hlen5 ?_; intro v15 w15 hRS15 ht15 hv15)
        | go_in)
      have hBJ15 : BJ w15 B1 M1 1 L2 := ⟨Eth.Arp.At.turn hBJ14.at5 ⟨ht15.os, ht15.tape, ht15.output, ht15.size, ht15.block⟩ (fun e => by have := (hRS14.ge _ e).1; omega), hBJ14.lrn.turn ⟨ht15.os, ht15.tape, ht15.output, ht15.size, ht15.block⟩ (fun e => by have := (hRS14.ge _ e).1; omega)⟩
      have hfr15 : Turn (fun k => k = M1 ∨ k = B1) w7 w15 := hfr14.step ht15 (fun k e => Or.inr (hRS14.ge k e).1)
      have HK15 : Hid (K1 w7 w15 B1 M1 g (j + 1) v15) := by
        refine ⟨⟨1, L2, Or.inr ⟨rfl, rfl⟩, hBJ15⟩, ?_, hfr15⟩
        rw [List.range_succ, List.map_append, List.map_cons, List.map_nil, ← HFS.out]
        exact hRS15
      clear hBJ14 hRS14 hfr14 ht15 hv15 hBJ15 hfr15 hRS15
      go_roundw
      case rel => exact ⟨j + 1, by omega, by first | rfl | simp, HK15⟩
      case measure => first | omega | (simp only [RowKit.intOf]; omega) | (simp [RowKit.intOf]; omega)
    · have z1 : ¬ (j : Int) < (N : Int) + 1 := by omega
      obtain rfl : j = N + 1 := by omega
      obtain ⟨⟨la0, l0, -, hBJ⟩, hRS, hfr⟩ := HK.out
      have hs7 := hfr.size
      have hA8 := hA7.turn hfr (by show ¬ (_ ∨ _); omega)
      have hBo8 := hBo7.turn hfr (by show ¬ (_ ∨ _); omega)
      have hGo8 := hGo7.turn hfr (by show ¬ (_ ∨ _); omega)
      have hb8 : Below w.heap.size w wr := hb7.trans (hfr.below hb7.size (fun k hk e => by have := hb4s; omega))
      have hBX8 : BX wr wr.heap.size B2 M2 4 1000 0 0 [] := ⟨hBo8, hGo8, (fun x hx => by cases hx), List.Pairwise.nil, by omega, by omega, Nat.le_refl _, by omega⟩
      obtain ⟨w8, hw8⟩ : ∃ x, x = wr := ⟨_, rfl⟩
      have HK2 : Hid (K2 w8.heap.size PBX B2 M2 w7.heap.size w (⟨f, t, tl, pr, id, 0, false, false, op, da⟩ : Pk) #[.int .i64 f, .int .i64 t, .int .i64 tl, .int .i64 pr, .int .i64 id, .int .i64 0, .bool false, .bool false, .string op, .string da] g N w8 0 u12) := by
        rw [hw8]
        refine ⟨hA8, hb8, Nat.le_refl _, List.range (N + 1), 0, 0, [], hRS, fun k hk e => ?_, by simp, by simp, Int.le_refl _, by simp, Or.inr ⟨by simp, [], ⟨List.pairwise_lt_range, List.Pairwise.nil, (fun x => by simp; omega), (fun x hx => by cases hx)⟩, hBX8, Or.inl ⟨rfl, rfl⟩⟩⟩
        have h5 := (hRS.ge k hk).1
        rcases e with e | e | ⟨x, hx, -⟩
        · omega
        · omega
        · cases hx
      have hB2R : B2 < w8.heap.size ∧ M2 < w8.heap.size ∧ PBX < w8.heap.size ∧ w7.heap.size ≤ w8.heap.size ∧ w.heap.size ≤ B2 ∧ w.heap.size ≤ M2 ∧ PBX ≠ B2 ∧ PBX ≠ M2 := by rw [hw8]; have := hb4s; omega
      subst hw8
      clear HK hBJ hRS hfr hA8 hBo8 hGo8 hb8 hBX8 hA7 hr7 hBo7 hGo7 hb7
      go_wp2_with fail
      try go_frame
      go_loopw [12, 22] (fun s12 s22 W => ∃ i : Nat, i ≤ N + 1 ∧ s22 = .int .i64 (i : Int) ∧ Hid (K2 w8.heap.size PBX B2 M2 w7.heap.size w (⟨f, t, tl, pr, id, 0, false, false, op, da⟩ : Pk) #[.int .i64 f, .int .i64 t, .int .i64 tl, .int .i64 pr, .int .i64 id, .int .i64 0, .bool false, .bool false, .string op, .string da] g N W i s12)) (fun _ s22 _ => N + 2 - (RowKit.intOf s22).toNat)
      case atStart => exact ⟨0, Nat.zero_le _, rfl, HK2⟩
      case round =>
        -- @1
        clear HK2
        obtain ⟨i, hi, rfl, HK2⟩ := hrel
        obtain ⟨hAW, hbW, hRW, D, la, tu, l, hRS, hFL, hiD, hla, ht0, ht1, hcase⟩ := HK2.out
        clear HK2
        rcases hcase with ⟨rfl, hO, rfl⟩ | ⟨hD, S, hDS, hO⟩
        · obtain ⟨va, vc0, hv⟩ := hRS.shape0
          rw [List.map_nil, List.length_nil] at hv
          subst hv
          have hle := len_any hO.1
          rw [hB2] at hle
          clear hAW hRS hFL hO
          go_wp2_with fail
          refine hle.mono ?_
          rintro e w9 ⟨rfl, hw9⟩
          subst hw9
          go_wp2
          go_ret
          exact ⟨by first | rfl | simp, hbW⟩
        -- @2
        obtain ⟨gw, cw, hv, hcl, hgw, hcell⟩ := hRS.open (by simpa using hD)
        rw [List.length_map] at hv hcl
        subst hv
        have hDpos : 0 < D.length := List.length_pos_iff.2 hD
        have hDi : (0 : Int) < (D.length : Int) := by omega
        have hgwl : gw < wr.heap.size := (hRS.ge gw rfl).2
        go_upto_if 139 with fail
        go_cut [23] from 131 to 200 (fun s23 W => ∃ k : Nat, k < D.length ∧ s23 = .int .i64 (k : Int) ∧ W = wr)
        case first =>
          by_cases hord : i < zs.length
          · obtain ⟨x, rfl, hxc⟩ : ∃ x, a = some x ∧ ∀ i, i < zs.length → w.cell? (x.add i) = some (.int .i64 (zs.getD i 0)) := by
              rcases HA.out with h | h
              · rw [h] at hord; simp at hord
              · exact h
            have hg := later hbW (hxc i hord)
            have ho1 : (i : Int) < (zs.length : Int) := by omega
            have ho0 : (0 : Int) ≤ (i : Int) := by omega
            clear hxc
            generalize zs.getD i 0 = z at *
            have hz0 : 0 ≤ z % (D.length : Int) := Int.emod_nonneg _ (by omega)
            have hz1 : z % (D.length : Int) < (D.length : Int) := Int.emod_lt_of_pos _ (by omega)
            obtain ⟨k, hkz⟩ : ∃ k : Nat, z % (D.length : Int) = (k : Int) := ⟨(z % (D.length : Int)).toNat, by omega⟩
            have hamo := among_any z (D.length : Int) wr (by omega) (by omega)
            rw [hkz] at hamo
            have hkD : k < D.length := by omega
            clear hz0 hz1 hkz
            go_wp2_with fail
            refine hamo.mono ?_
            rintro e w9 ⟨rfl, hw9⟩
            subst hw9
            go_wp2
            go_meet
            case rel => exact ⟨k, hkD, rfl, rfl⟩
          · have ho1 : ¬ (i : Int) < (zs.length : Int) := by omega
            go_wp2
            go_meet
            case rel => exact ⟨0, hDpos, rfl, rfl⟩
        case rest =>
        obtain ⟨k, hk, rfl, hwc⟩ := hcut
        subst hwc
        obtain ⟨wr, hwc⟩ : ∃ x, x = wc := ⟨wc, rfl⟩
        subst hwc
        -- @3
        obtain ⟨d, hd⟩ : ∃ d, D[k]? = some d := ⟨_, List.getElem?_eq_getElem hk⟩
        have hdm := (hDS.iff d).1 (List.mem_of_getElem? hd)
        have hmay := HTXH.out.may d hdm.1
        have hds := HTXH.out.ds d hdm.1
        obtain ⟨r, hpar, hpk⟩ := tp_parse hmay hds
        have y := hcell k (fS (g d)) (by rw [List.getElem?_map, hd]; rfl)
        obtain ⟨st, hst⟩ : ∃ x, x = fS (g d) := ⟨_, rfl⟩
        rw [← hst] at hpar y
        have hk1 : (k : Int) < (D.length : Int) := by omega
        have hk0 : (0 : Int) ≤ (k : Int) := by omega
        have HCELL : Hid (∀ (j : Nat) (s : ByteArray), (D.map (fun k => fS (g k)))[j]? = some s → wr.cell? ⟨gw, j, none⟩ = some (.string s)) := hcell
        have HD : Hid (D[k]? = some d) := hd
        have HDS : Hid (DS N D S) := hDS
        clear hst hcell hd hDS
        go_upto_region 30 with fail
        go_cut [24, 25] from 131 to 200 (fun s24 s25 W => ∃ (b : Nat) (zv : Array Value) (q : Pk), s24 = .pointer (some ⟨b, 0, none⟩) ∧ Hid (At W b zv) ∧ Hid (∀ i u, q.L[i]? = some u → zv[10 + i]? = some u) ∧ Below wr.heap.size wr W ∧ ((N = 0 ∧ ∃ pe, s25 = .iface 103 (.pointer (some ⟨pe, 0, none⟩))) ∨ (s25 = .nilIface ∧ q = g d)))
        case first =>
          cases r with
          | error qq =>
            have hN0 : N = 0 := by
              apply Classical.byContradiction
              intro h
              obtain ⟨z, hz⟩ := hpk.2.2 (HTXH.out.part (by omega) d hdm.1)
              cases hz
            have HN0 : Hid (N = 0) := hN0
            clear hN0
            have hcon := hpar wr (HG.out.later hbW)
            go_wp2_with fail
            refine hcon.mono ?_
            rintro e w9 ⟨pe, rfl, -, -, l9⟩
            -- @E
            have hone41 : PZ.all (·.oneCell') = true := PZ_one
            clear hcon hpar hpk y
            go_wp2_with (first
              | (refine wpList_store_at rfl 56 _ _ rfl _ w9.heap.size PZ PZ rfl rfl (At.box w9 PZ 56) rfl (by kernel_rfl) hone41 ?_; intro w10 hQ10 ht10)
              | go_in)
            go_meet
            case rel => exact ⟨_, PZ, ⟨0, 0, 0, 0, 0, 0, false, false, ⟨#[]⟩, ⟨#[]⟩⟩, rfl, hQ10, pd_mid Pd.zero (.slice none 0 0) _ rfl, l9.trans ((bel1 w9 (.cells PZ 56)).mono l9.size |>.trans (below_turn ht10 l9.size (Nat.le_trans l9.size (bel1 w9 _).size))), Or.inl ⟨HN0.out, pe, rfl⟩⟩
          | ok z =>
            have hzk : z.pk = toT (g d) := hpk.2.1 z rfl
            have hcon := hpar wr (HG.out.later hbW)
            go_wp2_with fail
            refine hcon.mono ?_
            rintro e w9 ⟨zv, rfl, hRg, l9⟩
            -- @K
            have hzo : zv.oneCell' = true := by obtain ⟨a9, c9, rfl, -⟩ := hRg; rfl
            have hone41 : (z.v zv).all (·.oneCell') = true := Pd.one z hzo
            clear hcon hpar hpk y hRg
            go_wp2_with (first
              | (refine wpList_store_at rfl 56 _ _ rfl _ w9.heap.size PZ (z.v zv) rfl rfl (At.box w9 PZ 56) rfl (by kernel_rfl) hone41 ?_; intro w10 hQ10 ht10)
              | go_in)
            go_meet
            case rel => exact ⟨_, z.v zv, g d, rfl, hQ10, pd_mid z zv (g d) hzk, l9.trans ((bel1 w9 (.cells PZ 56)).mono l9.size |>.trans (below_turn ht10 l9.size (Nat.le_trans l9.size (bel1 w9 _).size))), Or.inr ⟨rfl, rfl⟩⟩
        case rest =>
        -- @5
        obtain ⟨b24, zv, q, rfl, HZ, HQ, l10, hq⟩ := hcut
        obtain ⟨wq, hwq⟩ : ∃ x, x = wc := ⟨wc, rfl⟩
        subst hwq
        have hOq := hO.later l10
        have hAq := hAW.later l10
        have hbq := bt hbW l10
        have hRq := Nat.le_trans hRW l10.size
        have hsq := l10.size
        have hcq : ∀ W, Below wq.heap.size wq W → ∀ (j : Nat) (s : ByteArray), (D.map (fun k => fS (g k)))[j]? = some s → W.cell? ⟨gw, j, none⟩ = some (.string s) := fun W hW j s hs => later hW (later l10 (HCELL.out j s hs))
        have hsa := slice_to (g := gw) (c := cw) (Nat.le_of_lt hk) hcl
        have hD40 : D.length ≤ 41 := by omega
        have hwk : IntKind.i64.wrap ((k : Int) + 1) = (k : Int) + 1 := by rw [IntKind.wrap_i64]; omega
        have hsb : ∀ W, (Instr.slice 41 (.slice (some ⟨gw, 0, none⟩) D.length cw) (some (.int .i64 ((k : Int) + 1))) none none).run Tryz.prog W = .ok (.slice (if cw = k + 1 then some ⟨gw, 0, none⟩ else some ⟨gw, k + 1, none⟩) (D.length - (k + 1)) (cw - (k + 1))) W := fun W => by
          rw [show ((k : Int) + 1) = ((k + 1 : Nat) : Int) by omega]
          exact slice_from hk hcl W
        have hRDa : ∀ W, Below wq.heap.size wq W → RD W (.slice (some ⟨gw, 0, none⟩) k cw) ((D.take k).map (fun k => fS (g k))) := fun W hW => ⟨gw, 0, cw, by rw [List.length_map, List.length_take, Nat.min_eq_left (Nat.le_of_lt hk)], by rw [List.length_map, List.length_take]; omega, fun j s hs => by
          rw [Nat.zero_add]
          refine hcq W hW j s ?_
          rw [List.map_take, List.getElem?_take] at hs
          split at hs
          · exact hs
          · cases hs⟩
        have hRDb : ∀ W, Below wq.heap.size wq W → RD W (.slice (if cw = k + 1 then some ⟨gw, 0, none⟩ else some ⟨gw, k + 1, none⟩) (D.length - (k + 1)) (cw - (k + 1))) ((D.drop (k + 1)).map (fun k => fS (g k))) := fun W hW => by
          have hll : ((D.drop (k + 1)).map (fun k => fS (g k))).length = D.length - (k + 1) := by rw [List.length_map, List.length_drop]
          by_cases hck : cw = k + 1
          · refine ⟨gw, 0, cw - (k + 1), by rw [if_pos hck, hll], by omega, fun j s hs => ?_⟩
            have := (List.getElem?_eq_some_iff.1 hs).1
            omega
          · refine ⟨gw, k + 1, cw - (k + 1), by rw [if_neg hck, hll], by omega, fun j s hs => ?_⟩
            refine hcq W hW (k + 1 + j) s ?_
            rw [List.map_drop, List.getElem?_drop] at hs
            exact hs
        obtain ⟨vB, hvB⟩ : ∃ x : Value, x = .slice (if cw = k + 1 then some ⟨gw, 0, none⟩ else some ⟨gw, k + 1, none⟩) (D.length - (k + 1)) (cw - (k + 1)) := ⟨_, rfl⟩
        rw [← hvB] at hsb hRDb
        clear hvB
        have hlenA : ([] : List ByteArray).length + ((D.take k).map (fun k => fS (g k))).length ≤ 100000 := by rw [List.length_map, List.length_take]; simp; omega
        have hlenB : (([] : List ByteArray) ++ (D.take k).map (fun k => fS (g k))).length + ((D.drop (k + 1)).map (fun k => fS (g k))).length ≤ 100000 := by rw [List.nil_append, List.length_map, List.length_map, List.length_take, List.length_drop]; omega
        have HHO : Hid (OneL wq w8.heap.size B2 M2 4 1000 la tu (mk (⟨f, t, tl, pr, id, 0, false, false, op, da⟩ : Pk)) (S.map g) l) := hOq
        have HHA : Hid (At wq PBX #[.int .i64 f, .int .i64 t, .int .i64 tl, .int .i64 pr, .int .i64 id, .int .i64 0, .bool false, .bool false, .string op, .string da]) := hAq
        have HHZ : Hid (At wq b24 zv) := HZ.out
        clear hO hAW hbW l10 hcq HZ hRS hOq hAq hRW
        go_upto_region 31 with fail
        refine wp_region_held_drew (S := (fun W => Below wq.heap.size wq W)) (by kernel_rfl) ?_ (fun hHeld => ?_)
        · first | exact (Below.refl _ _).drew | assumption
        refine wpAnyH_take (i := 1) (oi := ({ dst := some 156, op := Go.Op.move (Go.Operand.tmp 12), type := 41, pos := "top12.go:56", after := #[], guard := none } : Go.Oper)) (v := .slice (some ⟨gw, 0, none⟩) D.length cw) rfl (by kernel_rfl) (by kernel_rfl) (by kernel_rfl) (fun _ _ _ h => h) (Or.inl ⟨by rfl, ?_⟩) (by assumption) ?_
        · intro wx hSw
          try dsimp only at hSw
          have u1 := hsa wx
          have u2 := hsb wx
          go_simp
          try with_reducible rfl
        try simp only [Act.put, List.setIfInBounds_toArray, List.set_cons_zero, List.set_cons_succ]
        refine wpAnyH_take (i := 2) (oi := ({ dst := some 157, op := Go.Op.move (Go.Operand.tmp 23), type := 3, pos := "top12.go:56", after := #[], guard := none } : Go.Oper)) (v := .int .i64 (k : Int)) rfl (by kernel_rfl) (by kernel_rfl) (by kernel_rfl) (fun _ _ _ h => h) (Or.inl ⟨by rfl, ?_⟩) (by assumption) ?_
        · intro wx hSw
          try dsimp only at hSw
          have u1 := hsa wx
          have u2 := hsb wx
          go_simp
          try with_reducible rfl
        try simp only [Act.put, List.setIfInBounds_toArray, List.set_cons_zero, List.set_cons_succ]
        refine wpAnyH_take (i := 3) (oi := ({ dst := some 158, op := Go.Op.slice 41 (Go.Operand.tmp 156) none (some (Go.Operand.tmp 157)) none, type := 41, pos := "top12.go:56", after := #[{ on := 1, ground := Go.Ground.data }, { on := 2, ground := Go.Ground.data }], guard := none } : Go.Oper)) (v := .slice (some ⟨gw, 0, none⟩) k cw) rfl (by kernel_rfl) (by kernel_rfl) (by kernel_rfl) (fun _ _ _ h => h) (Or.inl ⟨by rfl, ?_⟩) (by assumption) ?_
        · intro wx hSw
          try dsimp only at hSw
          have u1 := hsa wx
          have u2 := hsb wx
          go_simp
          try with_reducible rfl
        try simp only [Act.put, List.setIfInBounds_toArray, List.set_cons_zero, List.set_cons_succ]
        refine wpAnyH_take (i := 5) (oi := ({ dst := some 160, op := Go.Op.move (Go.Operand.tmp 12), type := 41, pos := "top12.go:56", after := #[], guard := none } : Go.Oper)) (v := .slice (some ⟨gw, 0, none⟩) D.length cw) rfl (by kernel_rfl) (by kernel_rfl) (by kernel_rfl) (fun _ _ _ h => h) (Or.inl ⟨by rfl, ?_⟩) (by assumption) ?_
        · intro wx hSw
          try dsimp only at hSw
          have u1 := hsa wx
          have u2 := hsb wx
          go_simp
          try with_reducible rfl
        try simp only [Act.put, List.setIfInBounds_toArray, List.set_cons_zero, List.set_cons_succ]
        refine wpAnyH_take (i := 6) (oi := ({ dst := some 161, op := Go.Op.move (Go.Operand.tmp 23), type := 3, pos := "top12.go:56", after := #[], guard := none } : Go.Oper)) (v := .int .i64 (k : Int)) rfl (by kernel_rfl) (by kernel_rfl) (by kernel_rfl) (fun _ _ _ h => h) (Or.inl ⟨by rfl, ?_⟩) (by assumption) ?_
        · intro wx hSw
          try dsimp only at hSw
          have u1 := hsa wx
          have u2 := hsb wx
          go_simp
          try with_reducible rfl
        try simp only [Act.put, List.setIfInBounds_toArray, List.set_cons_zero, List.set_cons_succ]
        refine wpAnyH_take (i := 7) (oi := ({ dst := some 162, op := Go.Op.binOp Go.BinOp.add 3 (Go.Operand.tmp 161) (Go.Operand.const (Go.Value.int Go.IntKind.i64 1)) 3, type := 3, pos := "top12.go:56", after := #[{ on := 6, ground := Go.Ground.data }], guard := none } : Go.Oper)) (v := .int .i64 ((k : Int) + 1)) rfl (by kernel_rfl) (by kernel_rfl) (by kernel_rfl) (fun _ _ _ h => h) (Or.inl ⟨by rfl, ?_⟩) (by assumption) ?_
        · intro wx hSw
          try dsimp only at hSw
          have u1 := hsa wx
          have u2 := hsb wx
          go_simp
          try with_reducible rfl
        try simp only [Act.put, List.setIfInBounds_toArray, List.set_cons_zero, List.set_cons_succ]
        refine wpAnyH_take (i := 8) (oi := ({ dst := some 163, op := Go.Op.slice 41 (Go.Operand.tmp 160) (some (Go.Operand.tmp 162)) none none, type := 41, pos := "top12.go:56", after := #[{ on := 5, ground := Go.Ground.data }, { on := 7, ground := Go.Ground.data }], guard := none } : Go.Oper)) (v := vB) rfl (by kernel_rfl) (by kernel_rfl) (by kernel_rfl) (fun _ _ _ h => h) (Or.inl ⟨by rfl, ?_⟩) (by assumption) ?_
        · intro wx hSw
          try dsimp only at hSw
          have u1 := hsa wx
          have u2 := hsb wx
          go_simp
          try with_reducible rfl
        try simp only [Act.put, List.setIfInBounds_toArray, List.set_cons_zero, List.set_cons_succ]
        refine wpAnyH_ready (rs := [0]) (by kernel_rfl) (by simp) ?_
        refine AllReadyH.cons (o := ({ dst := some 155, op := Go.Op.buildSlice 41 0 #[], type := 41, pos := "top12.go:56", after := #[], guard := none } : Go.Oper)) rfl (fun K hK => ?_) AllReadyH.nil
        refine step_b0S wq.heap.size hHeld.size (by rfl) (by rfl) ?_
        intro v0 wl hown0 hX0
        refine hK.out _ _ (bt hHeld hX0) (fun hHeld => ?_)
        clear hK K
        try simp only [Act.put, List.setIfInBounds_toArray, List.set_cons_zero, List.set_cons_succ]
        refine wpAnyH_ready (rs := [4]) (by kernel_rfl) (by simp) ?_
        refine AllReadyH.cons (o := ({ dst := some 159, op := Go.Op.call { callee := Go.Callee.builtin Go.Builtin.append, args := #[Go.Operand.tmp 155, Go.Operand.tmp 158], argTypes := #[41, 41] }, type := 41, pos := "top12.go:56", after := #[{ on := 0, ground := Go.Ground.data }, { on := 3, ground := Go.Ground.data }], guard := none } : Go.Oper)) rfl (fun K hK => ?_) AllReadyH.nil
        refine step_clS (by rfl) _ _ (by rfl) (by rfl) (by rfl) hown0 (hRDa _ hHeld) hlenA hHeld.size ?_
        intro v1 wl hown1 hX1
        refine hK.out _ _ (hHeld.trans hX1) (fun hHeld => ?_)
        clear hK K
        try simp only [Act.put, List.setIfInBounds_toArray, List.set_cons_zero, List.set_cons_succ]
        refine wpAnyH_ready (rs := [9]) (by kernel_rfl) (by simp) ?_
        refine AllReadyH.cons (o := ({ dst := some 164, op := Go.Op.call { callee := Go.Callee.builtin Go.Builtin.append, args := #[Go.Operand.tmp 159, Go.Operand.tmp 163], argTypes := #[41, 41] }, type := 41, pos := "top12.go:56", after := #[{ on := 4, ground := Go.Ground.data }, { on := 8, ground := Go.Ground.data }, { on := 4, ground := Go.Ground.chain }], guard := none } : Go.Oper)) rfl (fun K hK => ?_) AllReadyH.nil
        refine step_clS (by rfl) _ _ (by rfl) (by rfl) (by rfl) hown1 (hRDb _ hHeld) hlenB hHeld.size ?_
        intro v2 wl hown2 hX2
        refine hK.out _ _ (hHeld.trans hX2) (fun hHeld => ?_)
        clear hK K
        try simp only [Act.put, List.setIfInBounds_toArray, List.set_cons_zero, List.set_cons_succ]
        refine wpAnyH_take (i := 10) (oi := ({ dst := some 12, op := Go.Op.assign (Go.Operand.tmp 164), type := 41, pos := "top12.go:56", after := #[{ on := 9, ground := Go.Ground.data }, { on := 9, ground := Go.Ground.chain }, { on := 0, ground := Go.Ground.phase }, { on := 1, ground := Go.Ground.phase }, { on := 2, ground := Go.Ground.phase }, { on := 3, ground := Go.Ground.phase }, { on := 4, ground := Go.Ground.phase }, { on := 5, ground := Go.Ground.phase }, { on := 6, ground := Go.Ground.phase }, { on := 7, ground := Go.Ground.phase }, { on := 8, ground := Go.Ground.phase }, { on := 9, ground := Go.Ground.phase }], guard := none } : Go.Oper)) (v := v2) rfl (by kernel_rfl) (by kernel_rfl) (by kernel_rfl) (fun _ _ _ h => h) (Or.inl ⟨by rfl, ?_⟩) (by assumption) ?_
        · intro wx hSw
          try dsimp only at hSw
          have u1 := hsa wx
          have u2 := hsb wx
          go_simp
          try with_reducible rfl
        try simp only [Act.put, List.setIfInBounds_toArray, List.set_cons_zero, List.set_cons_succ]
        refine wpAnyH_done (by kernel_rfl) ?_ _
        -- @6
        obtain ⟨D', hD'⟩ : ∃ x, x = D.take k ++ D.drop (k + 1) := ⟨_, rfl⟩
        have hRS2 : RowS wl wq.heap.size v2 (D'.map (fun k => fS (g k))) := by
          rw [hD', List.map_append]
          rw [List.nil_append] at hown2
          exact hown2
        have hDl : D'.length + 1 = D.length := by rw [hD', List.length_append, List.length_take, List.length_drop]; omega
        have HDD : Hid (D' = D.take k ++ D.drop (k + 1)) := hD'
        have hOl := HHO.out.later hHeld
        have hAl := HHA.out.later hHeld
        have hZl := HHZ.out.later hHeld
        have hbl := bt hbq hHeld
        have hsl := hHeld.size
        have hFL2 : ∀ kk, v2.ownBlock = some kk → ¬ FL B2 M2 l kk := fun kk hkk e => by
          have h5 := (hRS2.ge kk hkk).1
          rcases e with e | e | ⟨x, hx, e⟩
          · omega
          · omega
          · have := (HHO.out.1.ok x hx).row.lt kk e; omega
        have hRSm := hRS2.mono (base' := w7.heap.size) (by omega)
        obtain ⟨v2a, v2c, hv2⟩ := hRS2.shape0
        rw [List.length_map] at hv2
        subst hv2
        have hrg10 : wl.rangeAt b24 10 [.int .i64 q.f, .int .i64 q.t, .int .i64 q.tl, .int .i64 q.pr, .int .i64 q.id, .int .i64 q.fr, .bool q.mo, .bool q.dn, .string q.op, .string q.da] := at_mid hZl _ HQ.out
        have honeq : (#[.int .i64 q.f, .int .i64 q.t, .int .i64 q.tl, .int .i64 q.pr, .int .i64 q.id, .int .i64 q.fr, .bool q.mo, .bool q.dn, .string q.op, .string q.da] : Array Value).all (·.oneCell') = true := by simp [Value.oneCell']
        clear hsa hsb hRDa hRDb hlenA hlenB HHO HHA HHZ hHeld hown2 hRS2 hFL hbq hD' hZl
        go_upto_region 33 with (first
          | (refine wpList_load_mid rfl 23 _ rfl b24 10 (by first | rfl | simp) _ _ hrg10 Tryz.underlying23 rfl (by kernel_rfl) ?_)
          | (refine wpList_store_at rfl 23 _ _ rfl _ wl.heap.size #[.int .i64 0, .int .i64 0, .int .i64 0, .int .i64 0, .int .i64 0, .int .i64 0, .bool false, .bool false, .string ⟨#[]⟩, .string ⟨#[]⟩] #[.int .i64 q.f, .int .i64 q.t, .int .i64 q.tl, .int .i64 q.pr, .int .i64 q.id, .int .i64 q.fr, .bool q.mo, .bool q.dn, .string q.op, .string q.da] rfl rfl (At.box wl #[.int .i64 0, .int .i64 0, .int .i64 0, .int .i64 0, .int .i64 0, .int .i64 0, .bool false, .bool false, .string ⟨#[]⟩, .string ⟨#[]⟩] 23) rfl (by kernel_rfl) honeq ?_; intro w13 hQ13 ht13)
          | go_in)
        have q13 : Below wl.heap.size wl w13 := (bel1 wl (.cells #[.int .i64 0, .int .i64 0, .int .i64 0, .int .i64 0, .int .i64 0, .int .i64 0, .bool false, .bool false, .string ⟨#[]⟩, .string ⟨#[]⟩] 23)).trans (below_turn ht13 (Nat.le_refl _) (bel1 wl _).size)
        have hO13 := hOl.later q13
        have hA13 := hAl.later q13
        have hRS13 := hRSm.later q13
        have hb13 := bt hbl q13
        have hs13 := q13.size
        have hQl := hQ13.1
        clear hOl hAl hRSm hbl hrg10 ht13 q13 HQ
        rcases hq with ⟨hN0, pe, rfl⟩ | ⟨rfl, rfl⟩
        · have hNz : ¬ (1 : Int) < (N : Int) + 1 := by omega
          clear hN0 hQ13 hA13
          go_wp2
          go_ret
          exact ⟨by first | rfl | simp, hb13⟩
        -- @7
        have hPB2 : PBX ≠ B2 ∧ PBX ≠ M2 := ⟨hB2R.2.2.2.2.2.2.1, hB2R.2.2.2.2.2.2.2⟩
        have hnF : ¬ FL B2 M2 l PBX := fun e => by
          rcases e with e | e | ⟨x, hx, e⟩
          · exact hPB2.1 e
          · exact hPB2.2 e
          · have := (hO13.1.ok x hx).row.ge PBX e; omega
        by_cases hDe : D' = []
        · have hall : ∀ x, x ≤ N → x ≠ d → x ∈ S := fun x hx hne => by
            apply Classical.byContradiction
            intro hn
            have h1 := (cut_mem HDS.out.dp HD.out x).2 ⟨(HDS.out.iff x).2 ⟨hx, hn⟩, hne⟩
            rw [← HDD.out, hDe] at h1
            cases h1
          have hcon := HTXH.out.last hdm.1 hdm.2 hall HDS.out.sp HDS.out.sN (HDS.out.slen hN) hO13 (i : Int) hla (by omega)
          subst hDe
          rw [show ([] : List Nat).length = 0 from rfl]
          go_wp2_with (first
            | (refine wpList_load_at rfl 23 _ rfl _ wl.heap.size #[.int .i64 (g d).f, .int .i64 (g d).t, .int .i64 (g d).tl, .int .i64 (g d).pr, .int .i64 (g d).id, .int .i64 (g d).fr, .bool (g d).mo, .bool (g d).dn, .string (g d).op, .string (g d).da] _ rfl hQ13 Tryz.underlying23 (by kernel_rfl) ?_)
            | fail)
          rw [hB2] at hcon
          refine hcon.mono ?_
          rintro e w14 ⟨rfl, hO14, ht14⟩
          rw [← hB2] at hO14 ht14
          have hA14 := hA13.turn ht14 hnF
          have hRS14 := hRS13.turn ht14 hFL2
          have hb14 : Below w.heap.size w w14 := hb13.trans (ht14.below hb13.size (fun kk hkk e => by
            rcases e with e | e | ⟨x, hx, e⟩
            · omega
            · omega
            · have := (hO13.1.ok x hx).row.ge kk e; have := hB2R; have := hb4s; omega))
          have hs14 := ht14.size
          have honep : (#[.int .i64 f, .int .i64 t, .int .i64 tl, .int .i64 pr, .int .i64 id, .int .i64 0, .bool false, .bool false, .string op, .string da] : Array Value).all (·.oneCell') = true := by simp [Value.oneCell']
          clear hcon hQ13 hA13 hRS13 hb13 hO13 ht14
          go_upto_region 38 with (first
            | (refine wpList_store_at rfl 23 _ _ rfl _ w14.heap.size #[.int .i64 0, .int .i64 0, .int .i64 0, .int .i64 0, .int .i64 0, .int .i64 0, .bool false, .bool false, .string ⟨#[]⟩, .string ⟨#[]⟩] #[.int .i64 f, .int .i64 t, .int .i64 tl, .int .i64 pr, .int .i64 id, .int .i64 0, .bool false, .bool false, .string op, .string da] rfl rfl (At.box w14 #[.int .i64 0, .int .i64 0, .int .i64 0, .int .i64 0, .int .i64 0, .int .i64 0, .bool false, .bool false, .string ⟨#[]⟩, .string ⟨#[]⟩] 23) rfl (by kernel_rfl) honep ?_; intro w15 hQ15 ht15)
            | go_in)
          have q15 : Below w14.heap.size w14 w15 := (bel1 w14 (.cells #[.int .i64 0, .int .i64 0, .int .i64 0, .int .i64 0, .int .i64 0, .int .i64 0, .bool false, .bool false, .string ⟨#[]⟩, .string ⟨#[]⟩] 23)).trans (below_turn ht15 (Nat.le_refl _) (bel1 w14 _).size)
          have hA15 := hA14.later q15
          have hs15 := q15.size
          have HK3 : Hid (K2 w8.heap.size PBX B2 M2 w7.heap.size w (⟨f, t, tl, pr, id, 0, false, false, op, da⟩ : Pk) #[.int .i64 f, .int .i64 t, .int .i64 tl, .int .i64 pr, .int .i64 id, .int .i64 0, .bool false, .bool false, .string op, .string da] g N w15 (i + 1) (.slice v2a 0 v2c)) := by
            refine ⟨hA15, bt hb14 q15, by omega, [], (i : Int), tu, [], hRS14.later q15, fun kk hkk e => ?_, by simp at hDl ⊢; omega, by omega, ht0, by omega, Or.inl ⟨rfl, hO14.later q15, rfl⟩⟩
            rcases e with e | e | ⟨x, hx, -⟩
            · exact hFL2 kk hkk (Or.inl e)
            · exact hFL2 kk hkk (Or.inr (Or.inl e))
            · cases hx
          obtain ⟨⟨a0, a1, a2, a3, a4, a5, a6, a7, a8, a9⟩, -, -⟩ := hQ15.ten
          obtain ⟨⟨b0, b1, b2, b3, b4, b5, b6, b7, b8, b9⟩, -, -⟩ := hA15.ten
          clear hA14 hRS14 hb14 hO14 ht15 q15 hQ15 hA15 hFL2 hnF
          go_wp2
          go_roundw
          case rel => exact ⟨i + 1, by omega, by first | rfl | simp, HK3⟩
          case measure => first | omega | (simp only [RowKit.intOf]; omega) | (simp [RowKit.intOf]; omega)
        · -- @8
          obtain ⟨x, hxD⟩ := List.exists_mem_of_ne_nil _ hDe
          rw [HDD.out] at hxD
          have hx := (cut_mem HDS.out.dp HD.out x).1 hxD
          have hxS := (HDS.out.iff x).1 hx.1
          have hcon := HTXH.out.more hdm.1 hdm.2 hxS.1 hx.2 hxS.2 HDS.out.sp HDS.out.sN (HDS.out.slen hN) hO13 ht0 (by omega) (i : Int) hla (by omega)
          have hDp : 0 < D'.length := List.length_pos_iff.2 hDe
          have hDz : ((D'.length : Int) == 0) = false := by rw [beq_eq_false_iff_ne]; omega
          have hDn : ¬ (D'.length : Int) = 0 := by omega
          have HDE : Hid (D' ≠ []) := hDe
          clear hxD hx hxS hDe
          go_wp2_with (first
            | (refine wpList_load_at rfl 23 _ rfl _ wl.heap.size #[.int .i64 (g d).f, .int .i64 (g d).t, .int .i64 (g d).tl, .int .i64 (g d).pr, .int .i64 (g d).id, .int .i64 (g d).fr, .bool (g d).mo, .bool (g d).dn, .string (g d).op, .string (g d).da] _ rfl hQ13 Tryz.underlying23 (by kernel_rfl) ?_)
            | fail)
          rw [hB2] at hcon
          refine hcon.mono ?_
          rintro e w14 ⟨rfl, ⟨T, tu', l', hTp, hTm, htu, hO14, hloc⟩, ht14⟩
          rw [← hB2] at hO14 ht14
          have hA14 := hA13.turn ht14 hnF
          have hRS14 := hRS13.turn ht14 hFL2
          have hb14 : Below w.heap.size w w14 := hb13.trans (ht14.below hb13.size (fun kk hkk e => by
            rcases e with e | e | ⟨x, hx, e⟩
            · omega
            · omega
            · have := (hO13.1.ok x hx).row.ge kk e; have := hB2R; have := hb4s; omega))
          have hs14 := ht14.size
          have hFL3 : ∀ kk, (Value.slice v2a D'.length v2c).ownBlock = some kk → ¬ FL B2 M2 l' kk := fun kk hkk e => by
            have h5 := (hRS13.ge kk hkk).2
            rcases e with e | e | ⟨y, hy, e⟩
            · exact hFL2 kk hkk (Or.inl e)
            · exact hFL2 kk hkk (Or.inr (Or.inl e))
            · rcases hloc y hy kk e with ⟨x, hx, h⟩ | h
              · exact hFL2 kk hkk (Or.inr (Or.inr ⟨x, hx, h⟩))
              · omega
          have hDS2 := HDS.out.put HD.out hTp hTm
          rw [← HDD.out] at hDS2
          have hone0 : (#[.int .i64 0, .int .i64 0, .int .i64 0, .int .i64 0, .int .i64 0, .int .i64 0, .bool false, .bool false, .string ⟨#[]⟩, .string ⟨#[]⟩] : Array Value).all (·.oneCell') = true := by simp [Value.oneCell']
          clear hcon hQ13 hA13 hRS13 hb13 hO13 ht14 hTm hloc
          go_upto_region 38 with (first
            | (refine wpList_store_at rfl 23 _ _ rfl _ w14.heap.size #[.int .i64 0, .int .i64 0, .int .i64 0, .int .i64 0, .int .i64 0, .int .i64 0, .bool false, .bool false, .string ⟨#[]⟩, .string ⟨#[]⟩] #[.int .i64 0, .int .i64 0, .int .i64 0, .int .i64 0, .int .i64 0, .int .i64 0, .bool false, .bool false, .string ⟨#[]⟩, .string ⟨#[]⟩] rfl rfl (At.box w14 #[.int .i64 0, .int .i64 0, .int .i64 0, .int .i64 0, .int .i64 0, .int .i64 0, .bool false, .bool false, .string ⟨#[]⟩, .string ⟨#[]⟩] 23) rfl (by kernel_rfl) hone0 ?_; intro w15 hQ15 ht15)
            | go_in)
          have q15 : Below w14.heap.size w14 w15 := (bel1 w14 (.cells #[.int .i64 0, .int .i64 0, .int .i64 0, .int .i64 0, .int .i64 0, .int .i64 0, .bool false, .bool false, .string ⟨#[]⟩, .string ⟨#[]⟩] 23)).trans (below_turn ht15 (Nat.le_refl _) (bel1 w14 _).size)
          have hs15 := q15.size
          have HK3 : Hid (K2 w8.heap.size PBX B2 M2 w7.heap.size w (⟨f, t, tl, pr, id, 0, false, false, op, da⟩ : Pk) #[.int .i64 f, .int .i64 t, .int .i64 tl, .int .i64 pr, .int .i64 id, .int .i64 0, .bool false, .bool false, .string op, .string da] g N w15 (i + 1) (.slice v2a D'.length v2c)) :=
            ⟨hA14.later q15, bt hb14 q15, by omega, D', (i : Int), tu', l', hRS14.later q15, hFL3, by omega, by omega, by omega, by omega, Or.inr ⟨HDE.out, T, hDS2, hO14.later q15⟩⟩
          clear hA14 hRS14 hb14 hO14 ht15 q15 hQ15 hFL2 hFL3 hnF hDS2 hTp
          go_wp2
          go_roundw
          case rel => exact ⟨i + 1, by omega, by first | rfl | simp, HK3⟩
          case measure => first | omega | (simp only [RowKit.intOf]; omega) | (simp [RowKit.intOf]; omega)
end Go.Proofs.YthjbmloemmggaaaGreatDoor.Ip
