/- The contracts of mayBe, Check and Group of package ether, and of the document's: each returns just the values named here; nothing that was there turns. -/
import Derived.Test.YtjldcillackhdaaEFrames
namespace Go.Proofs.Ytjldcillackhdaa.Eth
open Go.RowKit
set_option maxRecDepth 100000

theorem may_ways (t f k : Int) (z : Nat) :
    (mayB t f k z = false ∧ macB t = false) ∨ (mayB t f k z = false ∧ macB t = true ∧ macB f = false) ∨ (mayB t f k z = false ∧ macB t = true ∧ macB f = true ∧ (0 ≤ f ∧ f ≤ 281474976710655) ∧ grpB f = true) ∨
    (mayB t f k z = false ∧ macB t = true ∧ macB f = true ∧ (0 ≤ f ∧ f ≤ 281474976710655) ∧ grpB f = false ∧ k < 1536) ∨ (mayB t f k z = false ∧ macB t = true ∧ macB f = true ∧ (0 ≤ f ∧ f ≤ 281474976710655) ∧ grpB f = false ∧ 1536 ≤ k ∧ 65535 < k) ∨
    (mayB t f k z = false ∧ macB t = true ∧ macB f = true ∧ (0 ≤ f ∧ f ≤ 281474976710655) ∧ grpB f = false ∧ 1536 ≤ k ∧ k ≤ 65535 ∧ 1500 < z) ∨
    (mayB t f k z = true ∧ macB t = true ∧ macB f = true ∧ (0 ≤ f ∧ f ≤ 281474976710655) ∧ grpB f = false ∧ 1536 ≤ k ∧ k ≤ 65535 ∧ z ≤ 1500) := by
  by_cases ht : 0 ≤ t ∧ t ≤ 281474976710655
  · by_cases hf : 0 ≤ f ∧ f ≤ 281474976710655
    · by_cases hg : f / 1099511627776 % 2 = 0
      · by_cases h1 : 1536 ≤ k
        · by_cases h2 : k ≤ 65535
          · by_cases h3 : z ≤ 1500
            · exact Or.inr (Or.inr (Or.inr (Or.inr (Or.inr (Or.inr ⟨mayB_t ⟨ht, hf, hg, ⟨h1, h2⟩, h3⟩, macB_t ht, macB_t hf, hf, grpB_f hg, h1, h2, h3⟩)))))
            · exact Or.inr (Or.inr (Or.inr (Or.inr (Or.inr (Or.inl ⟨mayB_f (fun h => h3 h.2.2.2.2), macB_t ht, macB_t hf, hf, grpB_f hg, h1, h2, Nat.lt_of_not_le h3⟩)))))
          · exact Or.inr (Or.inr (Or.inr (Or.inr (Or.inl ⟨mayB_f (fun h => h2 h.2.2.2.1.2), macB_t ht, macB_t hf, hf, grpB_f hg, h1, Int.lt_of_not_ge h2⟩))))
        · exact Or.inr (Or.inr (Or.inr (Or.inl ⟨mayB_f (fun h => h1 h.2.2.2.1.1), macB_t ht, macB_t hf, hf, grpB_f hg, Int.lt_of_not_ge h1⟩)))
      · exact Or.inr (Or.inr (Or.inl ⟨mayB_f (fun h => hg h.2.2.1), macB_t ht, macB_t hf, hf, grpB_t (by omega)⟩))
    · exact Or.inr (Or.inl ⟨mayB_f (fun h => hf h.2.1), macB_t ht, macB_f hf⟩)
  · exact Or.inl ⟨mayB_f (fun h => ht h.1), macB_f ht⟩

theorem bel1 (w : World) (o : Obj) : Below w.heap.size w (w.alloc o) := (Below.refl _ _).alloc (Nat.le_refl _) o

theorem bcell {W w1 : World} (hb : Below W.heap.size W w1) : (∀ b o, b < W.heap.size → w1.cell? ⟨b, o, none⟩ = W.cell? ⟨b, o, none⟩) ∧ (∀ b o, b < W.heap.size → w1.frozen? ⟨b, o, none⟩ = W.frozen? ⟨b, o, none⟩) :=
  ⟨fun b o h => hb.cell (p := ⟨b, o, none⟩) h, fun b o h => hb.frozen (p := ⟨b, o, none⟩) h⟩

theorem pgroup_any (n : Int) (w : World) :
    Calls Try.prog 51 #[.int .i64 n] w fun e w' => e = .returned (.tuple #[.bool (macB n && grpB n), .int .i64 (codeB (macB n))]) ∧ w' = w := by
  by_cases h : 0 ≤ n ∧ n ≤ 281474976710655
  · have m := macB_t h
    obtain ⟨h0, h1⟩ := h
    rw [m]
    go_enter Try.func51, Try.ntmps51
    go_wp2_with (first | (go_at_call 60; refine (isaddr_any _ _).mono ?_; rintro e w' ⟨rfl, rfl⟩) | (go_at_call 61; refine (ingroup_any _ _ (by assumption) (by assumption)).mono ?_; rintro e w' ⟨rfl, rfl⟩))
    go_ret2
    exact ⟨rfl, rfl⟩
  · have m := macB_f h
    rw [m]
    go_enter Try.func51, Try.ntmps51
    go_wp2_with (first | (go_at_call 60; refine (isaddr_any _ _).mono ?_; rintro e w' ⟨rfl, rfl⟩))
    go_ret2
    exact ⟨rfl, rfl⟩

end Go.Proofs.Ytjldcillackhdaa.Eth
