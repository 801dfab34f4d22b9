/- A box in plain words; free, find. -/
import Derived.Test.YthbpapgfjmpgaaaGreatKa
import Derived.Deep.MidRow
import Derived.Maps.AppendAt
import Derived.Handy
namespace Go.Proofs.YthbpapgfjmpgaaaGreat
open Go.RowKit Go.Maps
set_option maxRecDepth 100000
set_option linter.unusedVariables false
set_option linter.unusedSimpArgs false


/-- What stands at a socket's place: nothing, or one that listens at a port. -/
def sV (p : Int) : Value := if p = 0 then .nilIface else .iface 82 (.agg #[.int .i64 p])
theorem sV_zero : sV 0 = .nilIface := rfl
theorem sV_one {p : Int} (h : p ≠ 0) : sV p = .iface 82 (.agg #[.int .i64 p]) := if_neg h
def upS (s : Nat → Int) (i : Nat) (p : Int) : Nat → Int := fun k => if k = i then p else s k
def cellsS (s : Nat → Int) : List Value := (List.range 64).map fun i => sV (s i)
theorem cellsS_len (s : Nat → Int) : (cellsS s).length = 64 := by simp [cellsS]
theorem cellsS_at (s : Nat → Int) {i : Nat} (h : i < 64) : (cellsS s)[i]? = some (sV (s i)) := by simp [cellsS, h]
structure BX (w : World) (B T : Nat) (s : Nat → Int) (v : Value) : Prop where
  lt : B < w.heap.size
  c0 : w.cell? ⟨B, 0, none⟩ = some (.pointer (some ⟨T, 0, none⟩))
  cs : ∀ i, i < 64 → w.cell? ⟨B, 1 + i, none⟩ = some (sV (s i)) ∧ w.frozen? ⟨B, 1 + i, none⟩ = false
  cv : w.cell? ⟨B, 65, none⟩ = some v
  fv : w.frozen? ⟨B, 65, none⟩ = false
theorem BX.turn {A : Nat → Prop} {w w' : World} {B T : Nat} {s : Nat → Int} {v : Value} (h : BX w B T s v) (ht : Turn A w w') (hA : ¬ A B) : BX w' B T s v :=
  ⟨Nat.lt_of_lt_of_le h.lt ht.size, (ht.cell h.lt hA _).trans h.c0, fun i hi => ⟨(ht.cell h.lt hA _).trans (h.cs i hi).1, (World.frozen?_of_block (ht.block B h.lt hA)).trans (h.cs i hi).2⟩, (ht.cell h.lt hA _).trans h.cv, (World.frozen?_of_block (ht.block B h.lt hA)).trans h.fv⟩
theorem BX.later {w w' : World} {B T : Nat} {s : Nat → Int} {v : Value} (h : BX w B T s v) (hb : Below w.heap.size w w') : BX w' B T s v := h.turn (A := fun _ => False) (Turn.of_below hb) (fun h => h)
theorem cellB {w : World} {B i j : Nat} {u x : Value} (hne : i ≠ j) (h : w.cell? ⟨B, j, none⟩ = some x) : (w.setCell ⟨B, i, none⟩ u).cell? ⟨B, j, none⟩ = some x :=
  (World.cell?_setCell_other _ _ _ _ (by intro q; cases q; exact hne rfl)).trans h
theorem BX.setS {w : World} {B T : Nat} {s : Nat → Int} {v : Value} (h : BX w B T s v) (i : Nat) (hi : i < 64) (p : Int) : BX (w.setCell ⟨B, 1 + i, none⟩ (sV p)) B T (upS s i p) v := by
  refine ⟨by rw [World.size_setCell]; exact h.lt, cellB (by omega) h.c0, fun j hj => ⟨?_, by rw [World.frozen?_setCell]; exact (h.cs j hj).2⟩, cellB (by omega) h.cv, by rw [World.frozen?_setCell]; exact h.fv⟩
  unfold upS
  by_cases e : j = i
  · subst e
    rw [if_pos rfl]
    exact World.cell?_setCell_same _ _ _ (h.cs j hj).1
  · rw [if_neg e]
    exact cellB (by omega) (h.cs j hj).1
theorem BX.setV {w : World} {B T : Nat} {s : Nat → Int} {v : Value} (h : BX w B T s v) (u : Value) : BX (w.setCell ⟨B, 65, none⟩ u) B T s u := by
  refine ⟨by rw [World.size_setCell]; exact h.lt, cellB (by omega) h.c0, fun j hj => ⟨cellB (by omega) (h.cs j hj).1, by rw [World.frozen?_setCell]; exact (h.cs j hj).2⟩, World.cell?_setCell_same _ _ _ h.cv, by rw [World.frozen?_setCell]; exact h.fv⟩
theorem BX.range {w : World} {B T : Nat} {s : Nat → Int} {v : Value} (h : BX w B T s v) : w.rangeAt B 1 (cellsS s) := by
  intro j x hj
  have hlt : j < 64 := by have := (List.getElem?_eq_some_iff.1 hj).1; rwa [cellsS_len] at this
  rw [cellsS_at s hlt] at hj
  cases hj
  exact (h.cs j hlt).1
theorem info51 (s : Nat → Int) : (Tryz.prog.info? 51).map (·.size) = some (cellsS s).length := by rw [cellsS_len]; kernel_rfl
theorem run_ix (s : Nat → Int) (i : Nat) (hi : i < 64) (w : World) : (Instr.index 51 (.agg (cellsS s).toArray) (.int .i64 (i : Int))).run Tryz.prog w = .ok (sV (s i)) w := by
  have h1 : (isAgg 50).run Tryz.prog w = .ok false w := by kernel_rfl
  have h2 : (sizeOf 50).run Tryz.prog w = .ok 1 w := by kernel_rfl
  have h3 := cellsS_at s hi
  have h4 : (0 : Int) ≤ (i : Int) ∧ (i : Int) < 64 := by omega
  have h5 : (asIntOf (.int .i64 (i : Int))).run Tryz.prog w = .ok (.i64, (i : Int)) w := rfl
  simp [Instr.index, run_underlying Tryz.underlying51, part, h1, h2, h3, h4, h5, Result.andThen]
  omega
section
variable {w : World} {ops : Array Oper} {rest : List Oper} {o : Oper} {a : Act} {Q : Exit → Act → World → Prop} {t : TypeId} {u x y : Value}
theorem wpList_index_eq (hgd : o.guard = none) (s i : Operand) (ho : o.op = .index t s i) (hs : a.eval s = x) (hi : a.eval i = y) (hr : (Instr.index t x y).run Tryz.prog w = .ok u w) (h : wpList Tryz.prog ops Q rest (a.put o.dst u) w) : wpList Tryz.prog ops Q (o :: rest) a w := by
  refine wpList_plain hgd fun K hK => ?_
  unfold Oper.wp execOp
  simp only [ho, hs, hi, Sem.run_bind, Sem.run_pure, Result.andThen_ok, hr]
  exact hK _ _ h
end
abbrev PB (B : Nat) : Value := .pointer (some ⟨B, 0, none⟩)
set_option maxHeartbeats 1000000 in
/-- The least number of no socket. -/
theorem free_any {w : World} {B T : Nat} {s : Nat → Int} {v : Value} (h : BX w B T s v) (m : Nat) (hm : m < 64) (h0 : s m = 0) (hs : ∀ i, i < m → s i ≠ 0) :
    Calls Tryz.prog 28 #[PB B] w fun e w' => e = .returned (.tuple #[.int .i64 (m : Int), .bool true]) ∧ w' = w := by
  have hr := h.range
  have hi := info51 s
  have hix := fun i (hi : i < 64) => run_ix s i hi w
  generalize hcs : cellsS s = cs at *
  have hir : (Tryz.prog.info? 51).map (·.size) = some cs.length := hi
  have HS : Hid (∀ i, i < m → s i ≠ 0) := hs
  have HIX : Hid _ := hix
  clear hcs hi hs h hix
  go_enter Tryz.func28, Tryz.ntmps28
  go_wp2_with (first | (refine wpList_load_mid rfl 51 _ rfl B 1 (by first | rfl | simp) cs _ hr Tryz.underlying51 rfl hir ?_) | go_in)
  clear hr hir
  go_loop [10] (fun i => ∃ k : Nat, k ≤ m ∧ i = .int .i64 (k : Int)) (fun i => m + 1 - (intOf i).toNat)
  case atStart => exact ⟨0, Nat.zero_le _, rfl⟩
  case round =>
    obtain ⟨k, hk, rfl⟩ := hrel
    have hk64 : (k : Int) < 64 := by omega
    have hk0 : (0 : Int) ≤ (k : Int) := by omega
    have hixk := HIX.out k (by omega)
    by_cases he : k = m
    · subst he
      rw [h0, sV_zero] at hixk
      go_wp2_with (first | (refine wpList_index_eq rfl _ _ rfl (by first | rfl | simp) (by first | rfl | simp) hixk ?_) | go_in)
      go_ret2
      exact ⟨rfl, rfl⟩
    · rw [sV_one (HS.out k (by omega))] at hixk
      generalize s k = p at *
      go_wp2_with (first | (refine wpList_index_eq rfl _ _ rfl (by first | rfl | simp) (by first | rfl | simp) hixk ?_) | go_in)
      go_round
      case rel => exact ⟨k + 1, by omega, by go_num⟩
      case measure => simp [intOf]; omega
theorem find_any {w : World} {B T : Nat} {s : Nat → Int} {v : Value} (h : BX w B T s v) (m : Nat) (hm : m < 64) :
    Calls Tryz.prog 23 #[PB B, .int .i64 (m : Int)] w fun e w' => e = .returned (sV (s m)) ∧ w' = w := by
  obtain ⟨c, -⟩ := h.cs m hm
  have h1 : (m : Int) < 64 := by omega
  have h2 : (0 : Int) ≤ (m : Int) := by omega
  generalize sV (s m) = x at *
  go_enter Tryz.func23, Tryz.ntmps23
  go_wp2
  go_ret
  exact ⟨rfl, rfl⟩
end Go.Proofs.YthbpapgfjmpgaaaGreat
