/- The contracts of the small calls, and of Put and Get of package sum and of the document: each returns just the values named here; nothing that was there turns. -/
import Derived.Test.YtcjhniehbafhpaaText
namespace Go.Proofs.Ytcjhniehbafhpaa
open Go.RowKit
set_option maxRecDepth 100000

theorem bt {a b c : World} (h : Below a.heap.size a b) (k : Below b.heap.size b c) : Below a.heap.size a c := h.trans (k.mono h.size)

theorem among_any (n m : Int) (w : World) (m0 : 0 < m) (m1 : m ≤ 1000000000000) :
    Calls Try.prog 10 #[.int .i64 n, .int .i64 m] w fun e w' => e = .returned (.int .i64 (n % m)) ∧ w' = w := by
  obtain ⟨h, h1, h2⟩ := tmod_round n m m0
  rw [← h]; clear h
  go_enter Try.func10, Try.ntmps10
  go_wp2
  go_ret
  exact ⟨rfl, rfl⟩

theorem rcheck_any (a : Int) (w : World) : Calls Try.prog 41 #[.int .i64 a] w fun e w' => e = .returned (.int .i64 (codeB (!outB a 0 4294967295))) ∧ w' = w := by
  by_cases h : a < 0
  · rw [outB_t (Or.inl h)]
    go_enter Try.func41, Try.ntmps41
    go_wp2
    go_ret
    exact ⟨rfl, rfl⟩
  · by_cases h2 : 4294967295 < a
    · rw [outB_t (Or.inr h2)]
      go_enter Try.func41, Try.ntmps41
      go_wp2
      go_ret
      exact ⟨rfl, rfl⟩
    · rw [outB_f (by omega)]
      go_enter Try.func41, Try.ntmps41
      go_wp2
      go_ret
      exact ⟨rfl, rfl⟩

theorem six {k : Int} (h1 : 1 ≤ k) (h2 : k ≤ 6) : k = 1 ∨ k = 2 ∨ k = 3 ∨ k = 4 ∨ k = 5 ∨ k = 6 := by omega

theorem get_loop_cells (w : World) (x : ByteArray) (c : Nat) : ∀ j (h : j < x.size), (w.drew.alloc (.cells (bytesRow x c) 5 ((bytesRow x c).size, (bytesRow x c).size + 1))).cell? ⟨w.heap.size, j, none⟩ = some (.int .u8 (x[j].toNat : Int)) := by
  intro j h
  have := World.cell?_alloc_mark w.drew (bytesRow x c) 5 ((bytesRow x c).size, (bytesRow x c).size + 1) j
  rw [bytesRow_at x c j h] at this
  exact this

end Go.Proofs.Ytcjhniehbafhpaa
