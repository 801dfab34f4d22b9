/- What a sort of numbers by the order of a wheel passes through. -/
import Derived.Test.YtbdloehdhdifpaaWc
import Derived.Shelf.SlSortCmp.Kit1
import Derived.Sort.AssemblyPlain
namespace Go.Proofs.Ytbdloehdhdifpaa
open Go.RowKit Go.Maps Go.Lib Go.Sort Go.Proofs
set_option maxRecDepth 100000
set_option linter.unusedVariables false
set_option linter.unusedSimpArgs false

abbrev Nm := Fin 1073741825
def eN (x : Nm) : Value := .int .i64 (x.val : Int)
def cfN (L : List Tm) (x y : Nm) : Int := ordV L (x.val : Int) (y.val : Int)
def ltN (L : List Tm) (x y : Nm) : Bool := decide (cfN L x y < 0)
def befN (L : List Tm) (x y : Nm) : Prop := bef ((x.val : Int), tkT L x.val) ((y.val : Int), tkT L y.val)
theorem ltN_iff (L : List Tm) (x y : Nm) : ltN L x y = true ↔ befN L x y := by
  unfold ltN cfN ordV or3 cmp3 befN bef
  simp only [decide_eq_true_eq]
  split <;> split at * <;> (try split at *) <;> (try split) <;> (try split at *) <;> omega
theorem swoN (L : List Tm) : SWO (ltN L) where
  irrefl x := by
    cases h : ltN L x x with
    | false => rfl
    | true => have := (ltN_iff L x x).1 h; unfold befN bef at this; omega
  trans x y z h1 h2 := by rw [ltN_iff] at *; unfold befN bef at *; omega
  ntrans x y z h1 h2 := by
    cases h : ltN L x z with
    | false => rfl
    | true =>
      have h1' : ¬ befN L x y := fun h => by rw [(ltN_iff L x y).2 h] at h1; cases h1
      have h2' : ¬ befN L y z := fun h => by rw [(ltN_iff L y z).2 h] at h2; cases h2
      have h3 := (ltN_iff L x z).1 h
      unfold befN bef at *
      omega
theorem turn_row {w : World} {blk off m : Nat} {d : Array Nm} {os : Array Obj} (hb : blk < w.heap.size) : Turn (fun j => j = blk) w (sortWorld eN w blk off m d os) := by
  refine ⟨rfl, rfl, rfl, ?_, fun j hj hs => ?_⟩
  · simp [sortWorld, grow, putRow, mapBlock, Sort.ahead]
  · simp only [sortWorld, grow, putRow, mapBlock, Sort.ahead]
    rw [Array.getElem?_append_left (by simpa using hj), Array.getElem?_modify, if_neg (fun e => hs e.symm)]
theorem oneN : OneCell eN := by
  first
    | exact ⟨fun x => rfl, fun P x => by intros; rfl⟩
    | exact fun x => rfl
    | constructor <;> intros <;> rfl
/-- A row of numbers that is put in order, and the wheel whose order it is. -/
structure Sx (w0 : World) (B M blk off : Nat) (now : Int) (L : List Tm) (d0 : Array Nm) : Prop where
  wh : WH w0 B M now L
  wl : WL L
  nB : B ≠ blk
  nM : M ≠ blk
  row : Row1 eN w0 blk off d0
section
variable {w0 W : World} {B M blk off : Nat} {now : Int} {L : List Tm} {d0 dk : Array Nm}
theorem Sx.order (C : Sx w0 B M blk off now L d0) (S : SW eN w0 blk off dk W) (x y : Nm) : Calls Try.prog 28 #[.pointer (some ⟨B, 0, none⟩), .int .i64 (x.val : Int), .int .i64 (y.val : Int)] W fun e w' => e = .returned (.int .i64 (cfN L x y)) ∧ ∃ q os', w' = grow (W.drewN q) os' := by
  obtain ⟨m, os, rfl⟩ := S
  have ht := turn_row (off := off) (m := m) (d := dk) (os := os) C.row.hblk
  exact order_any B M now _ _ L _ (C.wh.turn ht C.nB C.nM) C.wl (WalkArith.wf_i64 (by omega)) (WalkArith.wf_i64 (by omega))
/-- 'cmp(data[i], data[j]) < 0': what the walk is told. -/
theorem Sx.test (C : Sx w0 B M blk off now L d0) (S : SW eN w0 blk off dk W) (hs : dk.size = d0.size) (i j : Nat) (hi : i < dk.size) (hj : j < dk.size) :
    ∃ x y r : Int, (∀ n os, (grow (W.drewN n) os).cell? ⟨blk, off + i, none⟩ = some (.int .i64 x)) ∧ (∀ n os, (grow (W.drewN n) os).cell? ⟨blk, off + j, none⟩ = some (.int .i64 y))
      ∧ (∀ n os, Calls Try.prog 28 #[.pointer (some ⟨B, 0, none⟩), .int .i64 x, .int .i64 y] (grow (W.drewN n) os) fun e w' => e = .returned (.int .i64 r) ∧ ∃ q os', w' = grow ((grow (W.drewN n) os).drewN q) os')
      ∧ decide (r < 0) = ltN L dk[i]! dk[j]! :=
  ⟨_, _, _, fun n os => (S.grown n os).c1 C.row hs i hi, fun n os => (S.grown n os).c1 C.row hs j hj, fun n os => C.order (S.grown n os) dk[i]! dk[j]!, rfl⟩
/-- .. of the value that lies in another place, too (a pivot that was read). -/
theorem Sx.swap (C : Sx w0 B M blk off now L d0) (S : SW eN w0 blk off dk W) (hs : dk.size = d0.size) (i j : Nat) (hi : i < dk.size) (hj : j < dk.size) :
    ∃ x y u : Int, W.cell? ⟨blk, off + i, none⟩ = some (.int .i64 x) ∧ W.cell? ⟨blk, off + j, none⟩ = some (.int .i64 y) ∧ W.frozen? ⟨blk, off + i, none⟩ = false ∧ W.frozen? ⟨blk, off + j, none⟩ = false
      ∧ (W.setCell ⟨blk, off + i, none⟩ (.int .i64 y)).cell? ⟨blk, off + j, none⟩ = some (.int .i64 u)
      ∧ SW eN w0 blk off (swp dk i j) ((W.setCell ⟨blk, off + i, none⟩ (.int .i64 y)).setCell ⟨blk, off + j, none⟩ (.int .i64 x)).drew := by
  have h1 := S.c1 C.row hs i hi
  have h2 := S.c1 C.row hs j hj
  have h3 := S.f1 C.row hs i hi
  have h4 := S.f1 C.row hs j hj
  have h6 := S.swapped C.row i j hi hj
  by_cases e : i = j
  · subst e
    exact ⟨_, _, _, h1, h2, h3, h4, World.cell?_setCell_same _ _ _ h1, h6⟩
  · exact ⟨_, _, _, h1, h2, h3, h4, (World.cell?_setCell_other _ _ _ _ (by intro e'; simp only [Addr.mk.injEq] at e'; omega)).trans h2, h6⟩
end
end Go.Proofs.Ytbdloehdhdifpaa
