/- SpoilInts. -/
import Derived.Test.YtajknafmlghcgaaBi
import Derived.Laws.OwnMore
namespace Go.Proofs.Ytajknafmlghcgaa
open Go.RowKit Go.Maps
set_option maxRecDepth 100000
set_option linter.unusedVariables false
set_option linter.unusedSimpArgs false

set_option maxHeartbeats 1000000 in
theorem spoil_any (base : Nat) (v : Value) (zs : List Int) (w : World) (hI : Ints w base v zs) (hn : zs.length < 1000000) :
    Calls Try.prog 16 #[v] w fun e w' => e = .returned (.tuple #[]) ∧ Turn (fun k => v.ownBlock = some k) w w' := by
  rcases hI.2 with ⟨rfl, h0⟩ | ⟨g, cap, cur, rfl, hg, hb, h1, h2, h3, h4⟩
  · go_enter Try.func16, Try.ntmps16
    go_wp2
    refine wp_loop_rounds 1 ?_
    rw [rounds_succ]
    go_wp2
    go_end0
    exact ⟨rfl, Turn.refl _⟩
  · go_enter Try.func16, Try.ntmps16
    go_wp2
    go_loopw [2] (fun c wr => ∃ (k : Nat) (ys : List Int), k ≤ zs.length ∧ c = .int .i64 (k : Int) ∧ ys.length = zs.length ∧ Ints wr base (.slice (some ⟨g, 0, none⟩) zs.length cap) ys ∧ Turn (fun k => (Value.slice (some ⟨g, 0, none⟩) zs.length cap).ownBlock = some k) w wr) (fun c _ => zs.length - (intOf c).toNat)
    case atStart => exact ⟨0, zs, Nat.zero_le _, rfl, rfl, hI, Turn.refl _⟩
    case round =>
      obtain ⟨k, ys, hk, rfl, hyl, hY, ht⟩ := hrel
      by_cases hlt : k < zs.length
      · unfold Ints at hY
        rw [hyl] at hY
        have hcell := World.ownsRow.cellAt hY k (by omega)
        have hfr := World.ownsRow.frozenAt hY k
        obtain ⟨hst, hgr⟩ := World.ownsRow.stored hY k (.int .i64 (-99))
        have hki : (k : Int) < (zs.length : Int) := by omega
        rw [show (ys.map (Value.int .i64))[k]? = some (.int .i64 (ys.getD k 0)) by simp [List.getD, show k < ys.length by omega]] at hcell
        have hT := ht.trans (Turn.of_grown hgr (S := fun k => (Value.slice (some ⟨g, 0, none⟩) zs.length cap).ownBlock = some k) (fun j hj => by cases hj; exact Or.inl rfl))
        have hY2 : Ints (wr.setCell ⟨g, k, none⟩ (.int .i64 (-99))) base (.slice (some ⟨g, 0, none⟩) zs.length cap) (ys.set k (-99)) := by
          unfold Ints
          rw [List.length_set, hyl, List.map_set]
          exact hst
        clear hst hgr hY
        go_wp2
        go_roundw
        case rel => exact ⟨k + 1, ys.set k (-99), by omega, by simp, by simp [hyl], hY2, hT⟩
        case measure => simp [intOf]; omega
      · go_wp2
        go_end0
        exact ⟨rfl, ht⟩
end Go.Proofs.Ytajknafmlghcgaa
