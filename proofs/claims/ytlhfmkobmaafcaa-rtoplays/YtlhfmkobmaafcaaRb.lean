/- The calls of package rto. -/
import Derived.Test.YtlhfmkobmaafcaaRa
namespace Go.Proofs.Ytlhfmkobmaafcaa
open Go.RowKit
set_option maxRecDepth 100000
set_option linter.unusedVariables false
set_option linter.unusedSimpArgs false

theorem newk_t (f l g : Int) (w : World) (h : newOk f l g = true) :
    Calls Try.prog 7 #[.int .i64 f, .int .i64 l, .int .i64 g] w fun e w' => ∃ B, e = .returned (.tuple #[.pointer (some ⟨B, 0, none⟩), .int .i64 0]) ∧ w.heap.size ≤ B ∧ At w' B (rV l g (newE f)) ∧ Below w.heap.size w w' := by
  have h' := of_decide_eq_true h
  obtain ⟨⟨a0, a1⟩, b0, c0, c1⟩ := h'
  go_enter Try.func7, Try.ntmps7
  go_wp2
  go_ret2
  exact ⟨w.heap.size, rfl, Nat.le_refl _, At.box _ _ _, bel1 w _⟩
theorem newk_f (f l g : Int) (w : World) (h : newOk f l g = false) :
    Calls Try.prog 7 #[.int .i64 f, .int .i64 l, .int .i64 g] w fun e w' => e = .returned (.tuple #[.pointer none, .int .i64 1]) ∧ w' = w := by
  have h' := of_decide_eq_false h
  go_enter Try.func7, Try.ntmps7
  by_cases a0 : l < 1
  · go_wp2
    go_ret2
    exact ⟨rfl, rfl⟩
  · by_cases a1 : g < l
    · go_wp2
      go_ret2
      exact ⟨rfl, rfl⟩
    · by_cases b0 : 1048576 < g
      · go_wp2
        go_ret2
        exact ⟨rfl, rfl⟩
      · by_cases c0 : f < l
        · go_wp2
          go_ret2
          exact ⟨rfl, rfl⟩
        · have c1 : g < f := by omega
          go_wp2
          go_ret2
          exact ⟨rfl, rfl⟩
theorem wait_any (B : Nat) (le gr : Int) (s : Es) (w : World) (hB : At w B (rV le gr s)) :
    Calls Try.prog 11 #[.pointer (some ⟨B, 0, none⟩)] w fun e w' => e = .returned (.int .i64 s.wa) ∧ w' = w := by
  have c5 : w.cell? ⟨B, 5, none⟩ = some (.int .i64 s.wa) := (hB.2 5 _ rfl).1
  go_enter Try.func11, Try.ntmps11
  go_wp2
  go_ret
  exact ⟨rfl, rfl⟩
theorem state_any (B : Nat) (le gr : Int) (s : Es) (w : World) (hB : At w B (rV le gr s)) :
    Calls Try.prog 16 #[.pointer (some ⟨B, 0, none⟩)] w fun e w' => e = .returned (.tuple #[.int .i64 s.me, .int .i64 s.de, .int .i64 s.ba]) ∧ ∃ q, w' = w.drewN q := by
  have c3 : w.cell? ⟨B, 3, none⟩ = some (.int .i64 s.me) := (hB.2 3 _ rfl).1
  have c4 : w.cell? ⟨B, 4, none⟩ = some (.int .i64 s.de) := (hB.2 4 _ rfl).1
  have c6 : w.cell? ⟨B, 6, none⟩ = some (.int .i64 s.ba) := (hB.2 6 _ rfl).1
  go_enter Try.func16, Try.ntmps16
  go_upto_region 1 with fail
  go_quiet (fail)
  go_wp2
  go_ret3
  exact ⟨rfl, _, rfl⟩
theorem fork_any (B : Nat) (le gr : Int) (s : Es) (w : World) (hB : At w B (rV le gr s)) :
    Calls Try.prog 10 #[.pointer (some ⟨B, 0, none⟩)] w fun e w' => ∃ C, e = .returned (.pointer (some ⟨C, 0, none⟩)) ∧ w.heap.size ≤ C ∧ At w' C (rV le gr s) ∧ Below w.heap.size w w' := by
  obtain ⟨⟨c0, c1, c2, c3, c4, c5, c6⟩, -⟩ := hB.seven
  go_enter Try.func10, Try.ntmps10
  go_wp2
  go_ret
  refine ⟨w.heap.size, rfl, Nat.le_refl _, At.box _ _ _, bel1 w _⟩
end Go.Proofs.Ytlhfmkobmaafcaa
