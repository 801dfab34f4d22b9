/- Boxes, what turns; a valve in plain numbers; its bound; New, amount, number, reaches, Window, State. -/
import Derived.Test.YtkkinnbmlghniaaMore
import Derived.WalkKit
import Derived.WalkSpells
import Derived.Below
import Derived.WalkSmall
import Derived.Deep.Cut
import Derived.Deep.CutRange
import Derived.Deep.MidRow
import Derived.Deep.QuietTactic
import Derived.BigQuiet
import Derived.Deep.RegionWith
import Derived.OwnWalk
import Derived.Lib.MinMax
import Derived.Deep.RegionHeld3
import Derived.Laws.EntriesVeiled
namespace Go.Proofs.Ytkkinnbmlghniaa
open Go.RowKit
set_option maxRecDepth 100000
set_option linter.unusedVariables false
set_option linter.unusedSimpArgs false

theorem bt {a b c : World} (h : Below a.heap.size a b) (k : Below b.heap.size b c) : Below a.heap.size a c := h.trans (k.mono h.size)
theorem bel1 (w : World) (o : Obj) : Below w.heap.size w (w.alloc o) := (Below.refl _ _).alloc (Nat.le_refl _) o
theorem later {w x : World} {a : Addr} {v : Value} (hb : Below w.heap.size w x) (h : w.cell? a = some v) : x.cell? a = some v := (hb.cell (World.block_lt_of_cell? _ _ h)).trans h
/-- A boxed struct: its cells, none of them frozen. -/
def At (W : World) (b : Nat) (vs : Array Value) : Prop := b < W.heap.size ∧ ∀ i v, vs[i]? = some v → W.cell? ⟨b, i, none⟩ = some v ∧ W.frozen? ⟨b, i, none⟩ = false
theorem At.box (w : World) (vs : Array Value) (t : TypeId) : At (w.alloc (.cells vs t)) w.heap.size vs := by
  refine ⟨by simp, fun i v h => ⟨?_, ?_⟩⟩
  · simp [World.cell?_alloc_new, h]
  · rw [frozen?_alloc_cells]; simp [World.frozen?]
theorem At.later {W x : World} {b : Nat} {vs : Array Value} (h : At W b vs) (hb : Below W.heap.size W x) : At x b vs :=
  ⟨Nat.lt_of_lt_of_le h.1 hb.size, fun i v hi => ⟨Ytkkinnbmlghniaa.later hb (h.2 i v hi).1, (hb.frozen (p := ⟨b, i, none⟩) h.1).trans (h.2 i v hi).2⟩⟩
theorem At.box2 (w : World) (o : Obj) (vs : Array Value) (t : TypeId) : At ((w.alloc o).alloc (.cells vs t)) (w.heap.size + 1) vs := by have := At.box (w.alloc o) vs t; rwa [World.size_alloc] at this
/-- Of what was there nothing has turned but the blocks that S names. -/
structure Turn (S : Nat → Prop) (w w' : World) : Prop where
  os : w'.os = w.os
  tape : w'.tape = w.tape
  output : w'.output = w.output
  size : w.heap.size ≤ w'.heap.size
  block : ∀ k, k < w.heap.size → ¬ S k → w'.heap[k]? = w.heap[k]?
theorem Turn.refl {S : Nat → Prop} (w : World) : Turn S w w := ⟨rfl, rfl, rfl, Nat.le_refl _, fun _ _ _ => rfl⟩
theorem Turn.trans {S : Nat → Prop} {a b c : World} (h : Turn S a b) (k : Turn S b c) : Turn S a c :=
  ⟨k.os.trans h.os, k.tape.trans h.tape, k.output.trans h.output, Nat.le_trans h.size k.size, fun i hi hs => (k.block i (Nat.lt_of_lt_of_le hi h.size) hs).trans (h.block i hi hs)⟩
theorem Turn.of_below {S : Nat → Prop} {w w' : World} (h : Below w.heap.size w w') : Turn S w w' := ⟨h.os, h.tape, h.output, h.size, fun k hk _ => h.block k hk⟩
theorem Turn.of_grown {S : Nat → Prop} {w w' : World} {row : Option Nat} (h : w.grownBy w' row) (hS : ∀ j, row = some j → S j ∨ w.heap.size ≤ j) : Turn S w w' :=
  ⟨h.os, h.tape, h.output, h.size, fun k hk hs => h.block k hk (fun e => by rcases hS k e.symm with h | h; exact hs h; omega)⟩
theorem Turn.and {S : Nat → Prop} {w w1 w' : World} {row : Option Nat} (h : Turn S w w1) (k : w1.grownBy w' row) (hS : ∀ j, row = some j → S j ∨ w.heap.size ≤ j) : Turn S w w' :=
  ⟨k.os.trans h.os, k.tape.trans h.tape, k.output.trans h.output, Nat.le_trans h.size k.size, fun i hi hs => (k.block i (Nat.lt_of_lt_of_le hi h.size) (fun e => by rcases hS i e.symm with h | h; exact hs h; omega)).trans (h.block i hi hs)⟩
theorem Turn.later {S : Nat → Prop} {w w1 w' : World} (h : Turn S w w1) (k : Below w1.heap.size w1 w') : Turn S w w' := h.trans (Turn.of_below k)
/-- Two steps; what the second one turned lies among S, or is younger than the first world. -/
theorem Turn.step {S S' : Nat → Prop} {a b c : World} (h : Turn S a b) (k : Turn S' b c) (hS : ∀ j, S' j → S j ∨ a.heap.size ≤ j) : Turn S a c :=
  ⟨k.os.trans h.os, k.tape.trans h.tape, k.output.trans h.output, Nat.le_trans h.size k.size, fun i hi hs => (k.block i (Nat.lt_of_lt_of_le hi h.size) (fun e => by rcases hS i e with h | h; exact hs h; omega)).trans (h.block i hi hs)⟩
theorem Turn.below {S : Nat → Prop} {w w' : World} {n : Nat} (h : Turn S w w') (hn : n ≤ w.heap.size) (hS : ∀ k, k < n → ¬ S k) : Below n w w' :=
  ⟨h.os, h.tape, h.output, h.size, fun k hk => h.block k (Nat.lt_of_lt_of_le hk hn) (hS k hk)⟩
theorem Turn.mono {S S' : Nat → Prop} {w w' : World} (h : Turn S w w') (hS : ∀ k, S k → S' k) : Turn S' w w' :=
  ⟨h.os, h.tape, h.output, h.size, fun k hk hs => h.block k hk (fun e => hs (hS k e))⟩
theorem Turn.cell {S : Nat → Prop} {w w' : World} (h : Turn S w w') {b : Nat} (hb : b < w.heap.size) (hs : ¬ S b) (o : Nat) : w'.cell? ⟨b, o, none⟩ = w.cell? ⟨b, o, none⟩ := World.cell?_of_block (h.block b hb hs)
theorem Turn.undrew {S : Nat → Prop} {w w' : World} (h : Turn S w.drew w') : Turn S w w' := ⟨h.os, h.tape, h.output, h.size, h.block⟩
theorem Turn.undrewN {S : Nat → Prop} {w w' : World} {n : Nat} (h : Turn S (w.drewN n) w') : Turn S w w' := ⟨h.os, h.tape, h.output, h.size, h.block⟩
theorem bel_undrew {w w' : World} (h : Below w.drew.heap.size w.drew w') : Below w.heap.size w w' := ⟨h.os, h.tape, h.output, h.size, h.block⟩
theorem At.turn {S : Nat → Prop} {W x : World} {b : Nat} {vs : Array Value} (h : At W b vs) (ht : Turn S W x) (hs : ¬ S b) : At x b vs :=
  ⟨Nat.lt_of_lt_of_le h.1 ht.size, fun i v hv => by
    obtain ⟨a, b'⟩ := h.2 i v hv
    exact ⟨(ht.cell h.1 hs i).trans a, (World.frozen?_of_block (ht.block b h.1 hs)).trans b'⟩⟩
theorem At.set {W : World} {b : Nat} {vs : Array Value} (h : At W b vs) (i : Nat) (u : Value) : At (W.setCell ⟨b, i, none⟩ u) b (vs.setIfInBounds i u) := by
  refine ⟨by rw [World.size_setCell]; exact h.1, fun j v hj => ?_⟩
  rw [World.frozen?_setCell]
  rw [Array.getElem?_setIfInBounds] at hj
  by_cases e : i = j
  · subst e
    rw [if_pos rfl] at hj
    by_cases l : i < vs.size
    · rw [if_pos l] at hj
      cases hj
      obtain ⟨c, f⟩ := h.2 i vs[i] (Array.getElem?_eq_getElem l)
      exact ⟨World.cell?_setCell_same _ _ _ c, f⟩
    · rw [if_neg l] at hj
      cases hj
  · rw [if_neg e] at hj
    obtain ⟨c, f⟩ := h.2 j v hj
    exact ⟨(World.cell?_setCell_other _ _ _ _ (by intro q; cases q; exact e rfl)).trans c, f⟩
theorem turn_set (w : World) (b o : Nat) (u : Value) : Turn (fun j => j = b) w (w.setCell ⟨b, o, none⟩ u) :=
  ⟨rfl, rfl, rfl, by simp, fun k _ hk => heap_setCell_other w ⟨b, o, none⟩ k u (fun e => hk e)⟩
theorem and_ip (n : Int) : bits .and .i64 n 4294967295 = n % 4294967296 := by
  show IntKind.i64.wrap ((BitVec.ofInt 64 n &&& BitVec.ofInt 64 4294967295).toNat : Nat) = _
  have e : (BitVec.ofInt 64 4294967295).toNat = 2 ^ 32 - 1 := by decide
  rw [BitVec.toNat_and, e, Nat.and_two_pow_sub_one_eq_mod, BitVec.toNat_ofInt, IntKind.wrap_i64]
  omega
theorem At.eight {W : World} {b : Nat} {v0 v1 v2 v3 v4 v5 v6 v7 : Value} (h : At W b #[v0, v1, v2, v3, v4, v5, v6, v7]) : (W.cell? ⟨b, 0, none⟩ = some v0 ∧ W.cell? ⟨b, 1, none⟩ = some v1 ∧ W.cell? ⟨b, 2, none⟩ = some v2 ∧ W.cell? ⟨b, 3, none⟩ = some v3 ∧ W.cell? ⟨b, 4, none⟩ = some v4 ∧ W.cell? ⟨b, 5, none⟩ = some v5 ∧ W.cell? ⟨b, 6, none⟩ = some v6 ∧ W.cell? ⟨b, 7, none⟩ = some v7) ∧ (W.frozen? ⟨b, 0, none⟩ = false ∧ W.frozen? ⟨b, 1, none⟩ = false ∧ W.frozen? ⟨b, 2, none⟩ = false ∧ W.frozen? ⟨b, 3, none⟩ = false ∧ W.frozen? ⟨b, 4, none⟩ = false ∧ W.frozen? ⟨b, 5, none⟩ = false ∧ W.frozen? ⟨b, 6, none⟩ = false ∧ W.frozen? ⟨b, 7, none⟩ = false) :=
  ⟨⟨(h.2 0 _ rfl).1, (h.2 1 _ rfl).1, (h.2 2 _ rfl).1, (h.2 3 _ rfl).1, (h.2 4 _ rfl).1, (h.2 5 _ rfl).1, (h.2 6 _ rfl).1, (h.2 7 _ rfl).1⟩, (h.2 0 _ rfl).2, (h.2 1 _ rfl).2, (h.2 2 _ rfl).2, (h.2 3 _ rfl).2, (h.2 4 _ rfl).2, (h.2 5 _ rfl).2, (h.2 6 _ rfl).2, (h.2 7 _ rfl).2⟩

theorem Turn.drew {S : Nat → Prop} {w w' : World} (h : Turn S w w') : Turn S w w'.drew := ⟨h.os, h.tape, h.output, h.size, h.block⟩
/-- A valve, but for its MSS and its bound. -/
structure Vs where
  wi : Int
  th : Int
  sa : Int
  ga : Int
  me : Bool
  up : Int
def fnV (L G : Nat) : Value := .func (.func 28) #[] #[.pointer (some ⟨L, 0, none⟩), .pointer (some ⟨G, 0, none⟩)]
def vV (L G : Nat) (m : Int) (s : Vs) : Array Value := #[.int .i64 m, .func (.func 28) #[] #[.pointer (some ⟨L, 0, none⟩), .pointer (some ⟨G, 0, none⟩)], .int .i64 s.wi, .int .i64 s.th, .int .i64 s.sa, .int .i64 s.ga, .bool s.me, .int .i64 s.up]
def amt (n : Int) : Int := min (max n 0) 1048576
def bnd (m n : Int) : Int := min (max n m) 1048576
/-- The box B is a valve; what its bound holds lies in L and G. -/
structure VY (w : World) (B L G : Nat) (m : Int) (s : Vs) : Prop where
  b : At w B (vV L G m s)
  l : At w L #[.int .i64 m]
  g : At w G #[.int .i64 1048576]
  lb : L ≠ B
  gb : G ≠ B
theorem VY.later {w x : World} {B L G : Nat} {m : Int} {s : Vs} (h : VY w B L G m s) (hb : Below w.heap.size w x) : VY x B L G m s := ⟨h.b.later hb, h.l.later hb, h.g.later hb, h.lb, h.gb⟩
theorem VY.drewN {w : World} {B L G : Nat} {m : Int} {s : Vs} (h : VY w B L G m s) (n : Nat) : VY (w.drewN n) B L G m s := h.later (below_drewN (Below.refl _ _) n)
theorem VY.turn {w x : World} {B L G : Nat} {m : Int} {s s' : Vs} (h : VY w B L G m s) (ht : Turn (fun k => k = B) w x) (hb : At x B (vV L G m s')) : VY x B L G m s' := ⟨hb, h.l.turn ht h.lb, h.g.turn ht h.gb, h.lb, h.gb⟩
/-- What always holds of one. -/
structure Vs.Fine (m : Int) (s : Vs) : Prop where
  m0 : 1 ≤ m
  m1 : m ≤ 1460
  w0 : m ≤ s.wi
  w1 : s.wi ≤ 1048576
  t0 : 2 * m ≤ s.th
  t1 : s.th ≤ 1048576
  s0 : 0 ≤ s.sa
  s1 : s.sa ≤ 1048576
  g0 : 0 ≤ s.ga
  g1 : s.ga ≤ 1000000000000
  u0 : 0 ≤ s.up
  u1 : s.up ≤ 4294967295
theorem bnd_ok {m n : Int} (m1 : m ≤ 1460) : m ≤ bnd m n ∧ bnd m n ≤ 1048576 := by unfold bnd; omega
theorem amt_ok (n : Int) : 0 ≤ amt n ∧ amt n ≤ 1048576 := by unfold amt; omega
def newV (m : Int) : Vs := ⟨min (4 * m) (max (2 * m) 4380), 1048576, 0, 0, false, 0⟩
theorem newV_fine {m : Int} (m0 : 1 ≤ m) (m1 : m ≤ 1460) : (newV m).Fine m := by
  refine ⟨m0, m1, ?_, ?_, ?_, ?_, ?_, ?_, ?_, ?_, ?_, ?_⟩ <;> simp only [newV] <;> omega
theorem bound_any {m n : Int} {L G : Nat} {w : World} (hl : At w L #[.int .i64 m]) (hg : At w G #[.int .i64 1048576]) :
    Calls Try.prog 28 #[.int .i64 n, .pointer (some ⟨L, 0, none⟩), .pointer (some ⟨G, 0, none⟩)] w fun e w' => e = .returned (.int .i64 (bnd m n)) ∧ w' = w := by
  have c0 := (hl.2 0 _ rfl).1
  have c1 := (hg.2 0 _ rfl).1
  go_enter Try.func28, Try.ntmps28
  go_wp2
  go_ret
  exact ⟨rfl, rfl⟩
theorem between_any (m n : Int) (w : World) :
    Calls Try.prog 18 #[.int .i64 m, .int .i64 n] w fun e w' => e = .returned (fnV w.heap.size (w.heap.size + 1)) ∧ w' = (w.alloc (.cells #[.int .i64 m] 3)).alloc (.cells #[.int .i64 n] 3) := by
  have hmf : ∀ (fn : Fn) (first cap : Array Value) (w : World), (Instr.makeFunc fn first cap).run Try.prog w = .ok (.func fn first cap) w := fun _ _ _ _ => rfl
  go_enter Try.func18, Try.ntmps18
  go_wp2
  go_ret
  exact ⟨rfl, rfl⟩
theorem new_t (m : Int) (w : World) (m0 : 1 ≤ m) (m1 : m ≤ 1460) :
    Calls Try.prog 7 #[.int .i64 m] w fun e w' => ∃ B L G, e = .returned (.tuple #[.pointer (some ⟨B, 0, none⟩), .int .i64 0]) ∧ w.heap.size ≤ B ∧ VY w' B L G m (newV m) ∧ Below w.heap.size w w' := by
  have hc := between_any m 1048576 w
  unfold fnV at hc
  go_enter Try.func7, Try.ntmps7
  go_wp2_with fail
  refine hc.mono ?_
  rintro e w' ⟨rfl, rfl⟩
  go_wp2
  go_ret2
  have hs : ((w.alloc (.cells #[.int .i64 m] 3)).alloc (.cells #[.int .i64 1048576] 3)).heap.size = w.heap.size + 2 := by simp
  have b1 := bel1 w (.cells #[.int .i64 m] 3)
  have b2 := bel1 (w.alloc (.cells #[.int .i64 m] 3)) (.cells #[.int .i64 1048576] 3)
  have b3 := bel1 ((w.alloc (.cells #[.int .i64 m] 3)).alloc (.cells #[.int .i64 1048576] 3)) (.cells (vV w.heap.size (w.heap.size + 1) m (newV m)) 49)
  refine ⟨w.heap.size + 2, w.heap.size, w.heap.size + 1, ?_, by omega, ⟨?_, ?_, ?_, by omega, by omega⟩, bt b1 (bt b2 b3)⟩
  · first | rfl | (rw [hs]; rfl)
  · have := At.box ((w.alloc (.cells #[.int .i64 m] 3)).alloc (.cells #[.int .i64 1048576] 3)) (vV w.heap.size (w.heap.size + 1) m (newV m)) 49
    rw [hs] at this
    exact this
  · exact ((At.box w #[.int .i64 m] 3).later b2).later b3
  · exact (At.box2 w _ #[.int .i64 1048576] 3).later b3
theorem amount_any (n : Int) (w : World) : Calls Try.prog 24 #[.int .i64 n] w fun e w' => e = .returned (.int .i64 (amt n)) ∧ w' = w := by
  go_enter Try.func24, Try.ntmps24
  go_wp2
  go_ret
  exact ⟨rfl, rfl⟩
theorem number_any (n : Int) (w : World) : Calls Try.prog 23 #[.int .i64 n] w fun e w' => e = .returned (.int .i64 (n % 4294967296)) ∧ w' = w := by
  have ha := and_ip n
  go_enter Try.func23, Try.ntmps23
  go_wp2
  go_ret
  exact ⟨rfl, rfl⟩
/-- n is up, or ahead of it. -/
def reB (n up : Int) : Bool := n == up || aheadV up n
theorem reaches_any (n up : Int) (w : World) : Calls Try.prog 25 #[.int .i64 n, .int .i64 up] w fun e w' => e = .returned (.bool (reB n up)) ∧ w' = w := by
  have hc := ahd_any up n
  unfold reB
  cases hn : (n == up)
  · go_enter Try.func25, Try.ntmps25
    go_wp2_with fail
    refine (hc _).mono ?_
    rintro e w' ⟨rfl, rfl⟩
    go_wp2
    go_ret
    exact ⟨rfl, rfl⟩
  · go_enter Try.func25, Try.ntmps25
    go_wp2_with fail
    refine (hc _).mono ?_
    rintro e w' ⟨rfl, rfl⟩
    go_wp2
    go_ret
    exact ⟨rfl, rfl⟩
theorem window_any {B L G : Nat} {m : Int} {s : Vs} {w : World} (h : VY w B L G m s) : Calls Try.prog 15 #[.pointer (some ⟨B, 0, none⟩)] w fun e w' => e = .returned (.int .i64 s.wi) ∧ w' = w := by
  have c2 : w.cell? ⟨B, 2, none⟩ = some (.int .i64 s.wi) := (h.b.2 2 _ rfl).1
  go_enter Try.func15, Try.ntmps15
  go_wp2
  go_ret
  exact ⟨rfl, rfl⟩
theorem state_any {B L G : Nat} {m : Int} {s : Vs} {w : World} (h : VY w B L G m s) : Calls Try.prog 14 #[.pointer (some ⟨B, 0, none⟩)] w fun e w' => e = .returned (.tuple #[.int .i64 s.th, .int .i64 s.sa, .int .i64 s.ga, .bool s.me, .int .i64 s.up]) ∧ ∃ q, w' = w.drewN q := by
  obtain ⟨⟨c0, c1, c2, c3, c4, c5, c6, c7⟩, -⟩ := h.b.eight
  clear c0 c1 c2
  go_enter Try.func14, Try.ntmps14
  go_upto_region 1 with fail
  go_quiet (fail)
  go_wp2
  refine bodyPost_ret (v := .tuple #[.int .i64 s.th, .int .i64 s.sa, .int .i64 s.ga, .bool s.me, .int .i64 s.up]) (by simp [results, Try.results14, go_sem]) rfl ⟨rfl, _, rfl⟩
end Go.Proofs.Ytkkinnbmlghniaa
