/- The contracts of mayBe, Check and Group of package ether, and of the document's: each returns just the values named here; nothing that was there turns. -/
import Derived.Test.YtajknafmlghcgaaFrames
namespace Go.Proofs.Ytajknafmlghcgaa
open Go.RowKit

theorem may_ways (t f k : Int) (z : Nat) :
    (mayB t f k z = false ∧ macB t = false) ∨ (mayB t f k z = false ∧ macB t = true ∧ macB f = false) ∨ (mayB t f k z = false ∧ macB t = true ∧ macB f = true ∧ (0 ≤ f ∧ f ≤ 281474976710655) ∧ grpB f = true) ∨
    (mayB t f k z = false ∧ macB t = true ∧ macB f = true ∧ (0 ≤ f ∧ f ≤ 281474976710655) ∧ grpB f = false ∧ k < 1536) ∨ (mayB t f k z = false ∧ macB t = true ∧ macB f = true ∧ (0 ≤ f ∧ f ≤ 281474976710655) ∧ grpB f = false ∧ 1536 ≤ k ∧ 65535 < k) ∨
    (mayB t f k z = false ∧ macB t = true ∧ macB f = true ∧ (0 ≤ f ∧ f ≤ 281474976710655) ∧ grpB f = false ∧ 1536 ≤ k ∧ k ≤ 65535 ∧ 1500 < z) ∨
    (mayB t f k z = true ∧ macB t = true ∧ macB f = true ∧ (0 ≤ f ∧ f ≤ 281474976710655) ∧ grpB f = false ∧ 1536 ≤ k ∧ k ≤ 65535 ∧ z ≤ 1500) := by
  by_cases ht : 0 ≤ t ∧ t ≤ 281474976710655
  · by_cases hf : 0 ≤ f ∧ f ≤ 281474976710655
    · by_cases hg : f / 1099511627776 % 2 = 0
      · by_cases h1 : 1536 ≤ k
        · by_cases h2 : k ≤ 65535
          · by_cases h3 : z ≤ 1500
            · exact Or.inr (Or.inr (Or.inr (Or.inr (Or.inr (Or.inr ⟨mayB_t ⟨ht, hf, hg, ⟨h1, h2⟩, h3⟩, macB_t ht, macB_t hf, hf, grpB_f hg, h1, h2, h3⟩)))))
            · exact Or.inr (Or.inr (Or.inr (Or.inr (Or.inr (Or.inl ⟨mayB_f (fun h => h3 h.2.2.2.2), macB_t ht, macB_t hf, hf, grpB_f hg, h1, h2, Nat.lt_of_not_le h3⟩)))))
          · exact Or.inr (Or.inr (Or.inr (Or.inr (Or.inl ⟨mayB_f (fun h => h2 h.2.2.2.1.2), macB_t ht, macB_t hf, hf, grpB_f hg, h1, Int.lt_of_not_ge h2⟩))))
        · exact Or.inr (Or.inr (Or.inr (Or.inl ⟨mayB_f (fun h => h1 h.2.2.2.1.1), macB_t ht, macB_t hf, hf, grpB_f hg, Int.lt_of_not_ge h1⟩)))
      · exact Or.inr (Or.inr (Or.inl ⟨mayB_f (fun h => hg h.2.2.1), macB_t ht, macB_t hf, hf, grpB_t (by omega)⟩))
    · exact Or.inr (Or.inl ⟨mayB_f (fun h => hf h.2.1), macB_t ht, macB_f hf⟩)
  · exact Or.inl ⟨mayB_f (fun h => ht h.1), macB_f ht⟩

theorem bel1 (w : World) (o : Obj) : Below w.heap.size w (w.alloc o) := (Below.refl _ _).alloc (Nat.le_refl _) o

theorem may_any (t f k : Int) (d : ByteArray) (w : World) (hd : d.size ≤ maxLen) :
    Calls Try.prog 35 #[.agg #[.int .i64 t, .int .i64 f, .int .i64 k, .string d]] w fun e w' => e = .returned (.bool (mayB t f k d.size)) ∧ Below w.heap.size w w' := by
  unfold maxLen at hd
  have hbel := bel1 w
  rcases may_ways t f k d.size with ⟨h, m1⟩ | ⟨h, m1, m2⟩ | ⟨h, m1, m2, ⟨f0, f1⟩, g⟩ | ⟨h, m1, m2, ⟨f0, f1⟩, g, k1⟩ | ⟨h, m1, m2, ⟨f0, f1⟩, g, k1, k2⟩ | ⟨h, m1, m2, ⟨f0, f1⟩, g, k1, k2, z⟩ | ⟨h, m1, m2, ⟨f0, f1⟩, g, k1, k2, z⟩
  all_goals
    rw [h]; clear h
    go_enter Try.func35, Try.ntmps35
    go_wp2_with (first | (go_at_call 36; refine (isaddr_any _ _).mono ?_; rintro e w' ⟨rfl, rfl⟩) | (go_at_call 37; refine (ingroup_any _ _ (by assumption) (by assumption)).mono ?_; rintro e w' ⟨rfl, rfl⟩))
    go_ret
    first | exact ⟨rfl, hbel _⟩ | exact ⟨by simp; omega, hbel _⟩

theorem rcheck_any (t f k : Int) (d : ByteArray) (w : World) (hd : d.size ≤ maxLen) :
    Calls Try.prog 30 #[.agg #[.int .i64 t, .int .i64 f, .int .i64 k, .string d]] w fun e w' => e = .returned (.int .i64 (codeE (mayB t f k d.size))) ∧ Below w.heap.size w w' := by
  unfold maxLen at hd
  have hbel := bel1 w
  rcases may_ways t f k d.size with ⟨h, m1⟩ | ⟨h, m1, m2⟩ | ⟨h, m1, m2, ⟨f0, f1⟩, g⟩ | ⟨h, m1, m2, ⟨f0, f1⟩, g, k1⟩ | ⟨h, m1, m2, ⟨f0, f1⟩, g, k1, k2⟩ | ⟨h, m1, m2, ⟨f0, f1⟩, g, k1, k2, z⟩ | ⟨h, m1, m2, ⟨f0, f1⟩, g, k1, k2, z⟩
  all_goals
    rw [h]; clear h
    go_enter Try.func30, Try.ntmps30
    go_wp2_with (first | (go_at_call 39; refine (rmac_any _ _).mono ?_; rintro e w' ⟨rfl, rfl⟩) | (go_at_call 40; refine (rgroup_any _ _ (by assumption) (by assumption)).mono ?_; rintro e w' ⟨rfl, rfl⟩))
    go_ret
    first | exact ⟨rfl, hbel _⟩ | exact ⟨by simp; omega, hbel _⟩

theorem bcell {W w1 : World} (hb : Below W.heap.size W w1) : (∀ b o, b < W.heap.size → w1.cell? ⟨b, o, none⟩ = W.cell? ⟨b, o, none⟩) ∧ (∀ b o, b < W.heap.size → w1.frozen? ⟨b, o, none⟩ = W.frozen? ⟨b, o, none⟩) :=
  ⟨fun b o h => hb.cell (p := ⟨b, o, none⟩) h, fun b o h => hb.frozen (p := ⟨b, o, none⟩) h⟩

theorem check_any (t f k : Int) (d : ByteArray) (w : World) (hd : d.size ≤ maxLen) :
    Calls Try.prog 21 #[.agg #[.int .i64 t, .int .i64 f, .int .i64 k, .string d]] w fun e w' => e = .returned (.int .i64 (codeE (mayB t f k d.size))) ∧ Below w.heap.size w w' := by
  rcases Bool.eq_false_or_eq_true (mayB t f k d.size) with h | h
  all_goals
    have H : Hid (mayB t f k d.size = mayB t f k d.size) := rfl
    go_enter Try.func21, Try.ntmps21
    go_wp2_with (first | (go_at_call 35; refine (may_any _ _ _ _ _ hd).mono ?_; rintro e w1 ⟨rfl, hb⟩))
    go_ret
    exact ⟨by rw [h]; rfl, bt (bel1 w _) hb⟩

theorem pgroup_any (n : Int) (w : World) :
    Calls Try.prog 22 #[.int .i64 n] w fun e w' => e = .returned (.tuple #[.bool (macB n && grpB n), .int .i64 (codeB (macB n))]) ∧ w' = w := by
  by_cases h : 0 ≤ n ∧ n ≤ 281474976710655
  · have m := macB_t h
    obtain ⟨h0, h1⟩ := h
    rw [m]
    go_enter Try.func22, Try.ntmps22
    go_wp2_with (first | (go_at_call 36; refine (isaddr_any _ _).mono ?_; rintro e w' ⟨rfl, rfl⟩) | (go_at_call 37; refine (ingroup_any _ _ (by assumption) (by assumption)).mono ?_; rintro e w' ⟨rfl, rfl⟩))
    go_ret2
    exact ⟨rfl, rfl⟩
  · have m := macB_f h
    rw [m]
    go_enter Try.func22, Try.ntmps22
    go_wp2_with (first | (go_at_call 36; refine (isaddr_any _ _).mono ?_; rintro e w' ⟨rfl, rfl⟩))
    go_ret2
    exact ⟨rfl, rfl⟩

theorem rpgroup_any (n : Int) (w : World) :
    Calls Try.prog 32 #[.int .i64 n] w fun e w' => e = .returned (.tuple #[.bool (macB n && grpB n), .int .i64 (codeB (macB n))]) ∧ w' = w := by
  by_cases h : 0 ≤ n ∧ n ≤ 281474976710655
  · have m := macB_t h
    obtain ⟨h0, h1⟩ := h
    rw [m]
    go_enter Try.func32, Try.ntmps32
    go_wp2_with (first | (go_at_call 39; refine (rmac_any _ _).mono ?_; rintro e w' ⟨rfl, rfl⟩) | (go_at_call 40; refine (rgroup_any _ _ (by assumption) (by assumption)).mono ?_; rintro e w' ⟨rfl, rfl⟩))
    go_ret2
    exact ⟨rfl, rfl⟩
  · have m := macB_f h
    rw [m]
    go_enter Try.func32, Try.ntmps32
    go_wp2_with (first | (go_at_call 39; refine (rmac_any _ _).mono ?_; rintro e w' ⟨rfl, rfl⟩))
    go_ret2
    exact ⟨rfl, rfl⟩
end Go.Proofs.Ytajknafmlghcgaa
