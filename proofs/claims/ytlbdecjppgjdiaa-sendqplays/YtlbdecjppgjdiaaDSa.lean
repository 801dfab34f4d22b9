/- Plain facts of holes; SendqHoles in plain words. -/
import Derived.Test.YtlbdecjppgjdiaaDRd
import Derived.Test.YtlbdecjppgjdiaaDQj
namespace Go.Proofs.Ytlbdecjppgjdiaa
open Go.RowKit Go.Maps Go.Lib
set_option maxRecDepth 100000
set_option linter.unusedVariables false
set_option linter.unusedSimpArgs false


theorem hole_facts {Q : Qu} (hf : Q.Fine) : (∀ k, k < (holeL Q).1 → inP Q.ps k) ∧ (∀ k, (holeL Q).1 ≤ k → k < (holeL Q).2 → ¬ inP Q.ps k) ∧ ((holeL Q).2 < Q.sent → inP Q.ps (holeL Q).2) ∧ ((holeL Q).1 = (holeL Q).2 → (holeL Q).1 = Q.sent) := by
  obtain ⟨room, left, sent, bs, ps⟩ := Q
  have hok := hf.ok
  dsimp only at hok
  match ps, hok with
  | [], _ => exact ⟨fun k hk => absurd hk (Nat.not_lt_zero _), fun k _ _ ⟨e, he, _⟩ => by simp at he, fun h => absurd h (Nat.lt_irrefl _), fun h => h⟩
  | x :: r, hok =>
    have hx := hok.2 x (List.mem_cons_self ..)
    have hpw := List.pairwise_cons.1 hok.1
    by_cases hx0 : x.1 = 0
    · match r, hok, hpw with
      | [], hok, hpw =>
        simp only [holeL, hx0, if_true]
        refine ⟨fun k hk => ⟨x, by simp, by omega, hk⟩, fun k h1 h2 ⟨e, he, h3⟩ => ?_, fun h => absurd h (Nat.lt_irrefl _), fun h => h⟩
        obtain rfl := List.mem_singleton.1 he
        omega
      | y :: r', hok, hpw =>
        have hxy := hpw.1 y (by simp)
        have hy := hok.2 y (by simp)
        have hyr := List.pairwise_cons.1 hpw.2
        simp only [holeL, hx0, if_true]
        refine ⟨fun k hk => ⟨x, by simp, by omega, hk⟩, fun k h1 h2 ⟨e, he, h3⟩ => ?_, fun h => ⟨y, by simp, Nat.le_refl _, hy.1⟩, fun h => by omega⟩
        rcases List.mem_cons.1 he with rfl | he
        · omega
        · rcases List.mem_cons.1 he with rfl | he
          · omega
          · have := hyr.1 e he
            omega
    · simp only [holeL, hx0, if_false]
      refine ⟨fun k hk => absurd hk (Nat.not_lt_zero _), fun k h1 h2 ⟨e, he, h3⟩ => ?_, fun h => ⟨x, by simp, Nat.le_refl _, hx.1⟩, fun h => absurd h.symm hx0⟩
      rcases List.mem_cons.1 he with rfl | he
      · omega
      · have := hpw.1 e he
        omega
theorem all_one {N : Nat} {L : List Pt} (h : PsOk N L) (hN : 0 < N) (ha : ∀ k, k < N → inP L k) : sumP L = N := by
  match L, h with
  | [], _ =>
    obtain ⟨e, he, _⟩ := ha 0 hN
    cases he
  | x :: r, h =>
    have hx := h.2 x (List.mem_cons_self ..)
    have hpw := List.pairwise_cons.1 h.1
    have hx0 : x.1 = 0 := by
      obtain ⟨e, he, h1, _⟩ := ha 0 hN
      rcases List.mem_cons.1 he with rfl | he
      · omega
      · have := hpw.1 e he
        omega
    have hx1 : x.2 = N := by
      rcases Nat.lt_or_ge x.2 N with h2 | h2
      · obtain ⟨e, he, h3, h4⟩ := ha x.2 h2
        rcases List.mem_cons.1 he with rfl | he
        · omega
        · have := hpw.1 e he
          omega
      · omega
    have hr : r = [] := by
      match r, hpw, h with
      | [], _, _ => rfl
      | y :: _, hpw, h =>
        have h1 := hpw.1 y (by simp)
        have h2 := h.2 y (by simp)
        omega
    subst hr
    simp [sumP, hx0, hx1]
end Go.Proofs.Ytlbdecjppgjdiaa
