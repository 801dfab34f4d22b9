/- The contracts of the small calls, and of Put and Get of package sum and of the document: each returns just the values named here; nothing that was there turns. -/
import Derived.Test.YtjldcillackhdaaText
namespace Go.Proofs.Ytjldcillackhdaa
open Go.RowKit
set_option maxRecDepth 100000

theorem bt {a b c : World} (h : Below a.heap.size a b) (k : Below b.heap.size b c) : Below a.heap.size a c := h.trans (k.mono h.size)

theorem among_any (n m : Int) (w : World) (m0 : 0 < m) (m1 : m ≤ 1000000000000) :
    Calls Try.prog 8 #[.int .i64 n, .int .i64 m] w fun e w' => e = .returned (.int .i64 (n % m)) ∧ w' = w := by
  obtain ⟨h, h1, h2⟩ := tmod_round n m m0
  rw [← h]; clear h
  go_enter Try.func8, Try.ntmps8
  go_wp2
  go_ret
  exact ⟨rfl, rfl⟩

theorem six {k : Int} (h1 : 1 ≤ k) (h2 : k ≤ 6) : k = 1 ∨ k = 2 ∨ k = 3 ∨ k = 4 ∨ k = 5 ∨ k = 6 := by omega

theorem get_loop_cells (w : World) (x : ByteArray) (c : Nat) : ∀ j (h : j < x.size), (w.drew.alloc (.cells (bytesRow x c) 5 ((bytesRow x c).size, (bytesRow x c).size + 1))).cell? ⟨w.heap.size, j, none⟩ = some (.int .u8 (x[j].toNat : Int)) := by
  intro j h
  have := World.cell?_alloc_mark w.drew (bytesRow x c) 5 ((bytesRow x c).size, (bytesRow x c).size + 1) j
  rw [bytesRow_at x c j h] at this
  exact this

end Go.Proofs.Ytjldcillackhdaa
