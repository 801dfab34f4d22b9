/- hasPort, isOld and the two closures of a bridge. -/
import Derived.Test.YtajknafmlghcgaaBa
namespace Go.Proofs.Ytajknafmlghcgaa
open Go.RowKit Go.Maps
set_option maxRecDepth 100000
set_option linter.unusedVariables false
set_option linter.unusedSimpArgs false

theorem has_any (B : Nat) (po ag ro la : Int) (M : Nat) (port : Int) (w : World) (hB : At w B (brV po ag ro la M)) : Calls Try.prog 23 #[.pointer (some ⟨B, 0, none⟩), .int .i64 port] w fun e w' => e = .returned (.bool (decide (0 ≤ port) && decide (port < po))) ∧ w' = w := by
  have c0 : w.cell? ⟨B, 0, none⟩ = some (.int .i64 po) := (hB.2 0 _ rfl).1
  go_enter Try.func23, Try.ntmps23
  by_cases h : 0 ≤ port
  · go_wp2
    go_ret
    exact ⟨by simp [h], rfl⟩
  · go_wp2
    go_ret
    exact ⟨by rw [decide_eq_false (by omega)]; rfl, rfl⟩
theorem old_any (B : Nat) (po ag ro la : Int) (M : Nat) (p a now : Int) (w : World) (hB : At w B (brV po ag ro la M)) (ha : okH p a) (hg0 : 1 ≤ ag) (hg1 : ag ≤ 1048576) :
    Calls Try.prog 27 #[.pointer (some ⟨B, 0, none⟩), .agg #[.int .i64 p, .int .i64 a], .int .i64 now] w fun e w' => e = .returned (.bool (decide (a + ag ≤ now))) ∧ Below w.heap.size w w' := by
  unfold okH at ha
  have hwr : IntKind.i64.wrap (a + ag) = a + ag := by rw [IntKind.wrap_i64]; omega
  have c1 : (w.alloc (.cells #[.int .i64 p, .int .i64 a] 65)).cell? ⟨B, 1, none⟩ = some (.int .i64 ag) := ((hB.later (bel1 w (.cells #[.int .i64 p, .int .i64 a] 65))).2 1 _ rfl).1
  have d1 : (w.alloc (.cells #[.int .i64 p, .int .i64 a] 65)).cell? ⟨w.heap.size, 1, none⟩ = some (.int .i64 a) := ((At.box w #[.int .i64 p, .int .i64 a] 65).2 1 _ rfl).1
  have hb := bel1 w (.cells #[.int .i64 p, .int .i64 a] 65)
  go_enter Try.func27, Try.ntmps27
  go_upto_region 1 with fail
  generalize w.alloc (.cells #[.int .i64 p, .int .i64 a] 65) = w1 at *
  go_quiet (fail)
  go_wp2
  go_ret
  exact ⟨rfl, below_drewN hb _⟩
theorem down1_any (Bp : Nat) (p a port : Int) (w : World) (hp : w.cell? ⟨Bp, 0, none⟩ = some (.int .i64 port)) :
    Calls Try.prog 25 #[.agg #[.int .i64 p, .int .i64 a], .pointer (some ⟨Bp, 0, none⟩)] w fun e w' => e = .returned (.bool (p == port)) ∧ Below w.heap.size w w' := by
  have hb := bel1 w (.cells #[.int .i64 p, .int .i64 a] 65)
  have c0 := later hb hp
  have d0 : (w.alloc (.cells #[.int .i64 p, .int .i64 a] 65)).cell? ⟨w.heap.size, 0, none⟩ = some (.int .i64 p) := ((At.box w #[.int .i64 p, .int .i64 a] 65).2 0 _ rfl).1
  go_enter Try.func25, Try.ntmps25
  go_wp2
  go_ret
  exact ⟨rfl, hb⟩
theorem take1_any (Bb Bn B : Nat) (po ag ro la : Int) (M : Nat) (p a now : Int) (w : World) (hB : At w B (brV po ag ro la M)) (ha : okH p a) (hg0 : 1 ≤ ag) (hg1 : ag ≤ 1048576) (hp : w.cell? ⟨Bb, 0, none⟩ = some (.pointer (some ⟨B, 0, none⟩))) (hn : w.cell? ⟨Bn, 0, none⟩ = some (.int .i64 now)) :
    Calls Try.prog 26 #[.agg #[.int .i64 p, .int .i64 a], .pointer (some ⟨Bb, 0, none⟩), .pointer (some ⟨Bn, 0, none⟩)] w fun e w' => e = .returned (.bool (decide (a + ag ≤ now))) ∧ Below w.heap.size w w' := by
  have hb := bel1 w (.cells #[.int .i64 p, .int .i64 a] 65)
  have c0 := later hb hp
  have c1 := later hb hn
  have hB' := hB.later hb
  have d0 : (w.alloc (.cells #[.int .i64 p, .int .i64 a] 65)).cell? ⟨w.heap.size, 0, none⟩ = some (.int .i64 p) := ((At.box w #[.int .i64 p, .int .i64 a] 65).2 0 _ rfl).1
  have d1 : (w.alloc (.cells #[.int .i64 p, .int .i64 a] 65)).cell? ⟨w.heap.size, 1, none⟩ = some (.int .i64 a) := ((At.box w #[.int .i64 p, .int .i64 a] 65).2 1 _ rfl).1
  go_enter Try.func26, Try.ntmps26
  go_wp2_with fail
  refine (old_any B po ag ro la M p a now _ hB' ha hg0 hg1).mono ?_
  rintro e w1 ⟨rfl, hb1⟩
  go_wp2
  go_ret
  exact ⟨rfl, bt hb hb1⟩
end Go.Proofs.Ytajknafmlghcgaa
