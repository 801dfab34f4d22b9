/- The document's bridge: New, fresh. -/
import Derived.Test.YtajknafmlghcgaaBf
namespace Go.Proofs.Ytajknafmlghcgaa
open Go.RowKit Go.Maps
set_option maxRecDepth 100000
set_option linter.unusedVariables false
set_option linter.unusedSimpArgs false

/-- The document's bridge: its five cells; v: the list of what was learnt. -/
def rbV (po ag ro la : Int) (v : Value) : Array Value := #[.int .i64 po, .int .i64 ag, .int .i64 ro, .int .i64 la, v]
theorem rfresh_any (B : Nat) (po ag ro la : Int) (v : Value) (k p a now : Int) (w : World) (hB : At w B (rbV po ag ro la v)) (ha : okH p a) (hg0 : 1 ≤ ag) (hg1 : ag ≤ 1048576) :
    Calls Try.prog 33 #[.pointer (some ⟨B, 0, none⟩), .agg #[.int .i64 k, .int .i64 p, .int .i64 a], .int .i64 now] w fun e w' => e = .returned (.bool (decide (now < a + ag))) ∧ Below w.heap.size w w' := by
  unfold okH at ha
  have hwr : IntKind.i64.wrap (a + ag) = a + ag := by rw [IntKind.wrap_i64]; omega
  have hb := bel1 w (.cells #[.int .i64 k, .int .i64 p, .int .i64 a] 68)
  have c1 : (w.alloc (.cells #[.int .i64 k, .int .i64 p, .int .i64 a] 68)).cell? ⟨B, 1, none⟩ = some (.int .i64 ag) := ((hB.later hb).2 1 _ rfl).1
  have d2 : (w.alloc (.cells #[.int .i64 k, .int .i64 p, .int .i64 a] 68)).cell? ⟨w.heap.size, 2, none⟩ = some (.int .i64 a) := ((At.box w #[.int .i64 k, .int .i64 p, .int .i64 a] 68).2 2 _ rfl).1
  go_enter Try.func33, Try.ntmps33
  go_upto_region 1 with fail
  generalize w.alloc (.cells #[.int .i64 k, .int .i64 p, .int .i64 a] 68) = w1 at *
  go_quiet (fail)
  go_wp2
  go_ret
  exact ⟨rfl, below_drewN hb _⟩
set_option maxHeartbeats 1000000 in
theorem rnew_t (po ag ro : Int) (w : World) (h : newOk po ag ro = true) :
    Calls Try.prog 8 #[.int .i64 po, .int .i64 ag, .int .i64 ro] w fun e w' => ∃ B, e = .returned (.tuple #[.pointer (some ⟨B, 0, none⟩), .int .i64 0]) ∧ w.heap.size ≤ B ∧ At w' B (rbV po ag ro 0 (.slice none 0 0)) ∧ Below w.heap.size w w' := by
  have h' := of_decide_eq_true h
  obtain ⟨⟨a0, a1⟩, ⟨b0, b1⟩, c0, c1⟩ := h'
  go_enter Try.func8, Try.ntmps8
  go_wp2
  go_ret2
  exact ⟨w.heap.size, rfl, Nat.le_refl _, At.box w #[.int .i64 po, .int .i64 ag, .int .i64 ro, .int .i64 0, .slice none 0 0] 61, bel1 w _⟩
theorem rnew_f (po ag ro : Int) (w : World) (h : newOk po ag ro = false) :
    Calls Try.prog 8 #[.int .i64 po, .int .i64 ag, .int .i64 ro] w fun e w' => e = .returned (.tuple #[.pointer none, .int .i64 1]) ∧ w' = w := by
  have h' := of_decide_eq_false h
  go_enter Try.func8, Try.ntmps8
  by_cases a0 : po < 1
  · go_wp2
    go_ret2
    exact ⟨rfl, rfl⟩
  · by_cases a1 : 16 < po
    · go_wp2
      go_ret2
      exact ⟨rfl, rfl⟩
    · by_cases b0 : ag < 1
      · go_wp2
        go_ret2
        exact ⟨rfl, rfl⟩
      · by_cases b1 : 1048576 < ag
        · go_wp2
          go_ret2
          exact ⟨rfl, rfl⟩
        · by_cases c0 : ro < 1
          · go_wp2
            go_ret2
            exact ⟨rfl, rfl⟩
          · have c1 : 1024 < ro := by omega
            go_wp2
            go_ret2
            exact ⟨rfl, rfl⟩
end Go.Proofs.Ytajknafmlghcgaa
