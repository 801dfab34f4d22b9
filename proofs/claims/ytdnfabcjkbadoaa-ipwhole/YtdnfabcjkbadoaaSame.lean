/- The contract of same: of two rows of the same packets it tells true. -/
import Derived.Test.YtdnfabcjkbadoaaCut
import Derived.Deep.QuietTactic
import Derived.BigQuiet
import Derived.WalkSmall
import Derived.Deep.RegionHeld3
namespace Go.Proofs.Ytdnfabcjkbadoaa
open Go.RowKit

theorem row_cells {w : World} {base g n cap : Nat} {ps : List Pk} (h : w.ownsRow base 23 10 (.slice (some ⟨g, 0, none⟩) n cap) n (flatP ps)) (i : Nat) (p : Pk) (hp : ps[i]? = some p) :
    w.cell? ⟨g, i * 10, none⟩ = some (.int .i64 p.f) ∧ w.cell? ⟨g, i * 10 + 1, none⟩ = some (.int .i64 p.t) ∧ w.cell? ⟨g, i * 10 + 2, none⟩ = some (.int .i64 p.tl) ∧ w.cell? ⟨g, i * 10 + 3, none⟩ = some (.int .i64 p.pr) ∧ w.cell? ⟨g, i * 10 + 4, none⟩ = some (.int .i64 p.id) ∧ w.cell? ⟨g, i * 10 + 5, none⟩ = some (.int .i64 p.fr) ∧ w.cell? ⟨g, i * 10 + 6, none⟩ = some (.bool p.mo) ∧ w.cell? ⟨g, i * 10 + 7, none⟩ = some (.bool p.dn) ∧ w.cell? ⟨g, i * 10 + 8, none⟩ = some (.string p.op) ∧ w.cell? ⟨g, i * 10 + 9, none⟩ = some (.string p.da) := by
  have hn : (flatP ps).length = n * 10 := h.1
  have hi := (List.getElem?_eq_some_iff.1 hp).1
  rw [flatP_len] at hn
  have at_ : ∀ j, j < 10 → w.cell? ⟨g, i * 10 + j, none⟩ = p.L[j]? := fun j hj => (h.cellAt (i * 10 + j) (by omega)).trans (flatP_at ps i j p hp hj)
  exact ⟨at_ 0 (by decide), at_ 1 (by decide), at_ 2 (by decide), at_ 3 (by decide), at_ 4 (by decide), at_ 5 (by decide), at_ 6 (by decide), at_ 7 (by decide), at_ 8 (by decide), at_ 9 (by decide)⟩

set_option maxRecDepth 100000 in
set_option maxHeartbeats 2000000 in
theorem same_any (va vb : Value) (ps : List Pk) (base base' : Nat) (w : World) (hps : ps.length ≤ 65536) (ha : w.ownsRow base 23 10 va ps.length (flatP ps)) (hb : w.ownsRow base' 23 10 vb ps.length (flatP ps)) :
    Calls Try.prog 22 #[va, vb] w fun e w' => e = .returned (.bool true) ∧ Below w.heap.size w w' := by
  rcases ha.2 with ⟨rfl, h0⟩ | ⟨g, cap, cur, rfl, -⟩
  · rcases hb.2 with ⟨rfl, h1⟩ | ⟨g', cap', cur', rfl, -⟩
    · go_enter Try.func22, Try.ntmps22
      go_wp2
      go_loop [5] (fun i => i = .int .i64 0) (fun _ => 0)
      case atStart => rfl
      case round =>
        subst hrel
        go_wp2
        go_ret
        exact ⟨rfl, Below.refl _ _⟩
    · have hps0 : ps = [] := List.eq_nil_of_length_eq_zero h0
      subst hps0
      go_enter Try.func22, Try.ntmps22
      go_wp2
      go_loop [5] (fun i => i = .int .i64 0) (fun _ => 0)
      case atStart => rfl
      case round =>
        subst hrel
        go_wp2
        go_ret
        exact ⟨rfl, Below.refl _ _⟩
  · rcases hb.2 with ⟨rfl, h1⟩ | ⟨g', cap', cur', rfl, -⟩
    · have hps0 : ps = [] := List.eq_nil_of_length_eq_zero h1
      subst hps0
      go_enter Try.func22, Try.ntmps22
      go_wp2
      go_loop [5] (fun i => i = .int .i64 0) (fun _ => 0)
      case atStart => rfl
      case round =>
        subst hrel
        go_wp2
        go_ret
        exact ⟨rfl, Below.refl _ _⟩
    · have HA : Hid (w.ownsRow base 23 10 (.slice (some ⟨g, 0, none⟩) ps.length cap) ps.length (flatP ps)) := ha
      have HB : Hid (w.ownsRow base' 23 10 (.slice (some ⟨g', 0, none⟩) ps.length cap') ps.length (flatP ps)) := hb
      clear ha hb
      have hps' : (ps.length : Int) ≤ 65536 := by omega
      go_enter Try.func22, Try.ntmps22
      go_wp2
      go_loopw [5] (fun i W => ∃ k : Nat, k ≤ ps.length ∧ i = .int .i64 k ∧ Below w.heap.size w W) (fun i _ => ps.length - (intOf i).toNat)
      case atStart => exact ⟨0, Nat.zero_le _, rfl, Below.refl _ _⟩
      case round =>
        obtain ⟨k, hk, rfl, hbel⟩ := hrel
        by_cases hlt : k < ps.length
        · obtain ⟨p, hp⟩ : ∃ p, ps[k]? = some p := ⟨ps[k], List.getElem?_eq_getElem hlt⟩
          obtain ⟨a0, a1, a2, a3, a4, a5, a6, a7, a8, a9⟩ := row_cells (own_later HA.out hbel) k p hp
          obtain ⟨b0, b1, b2, b3, b4, b5, b6, b7, b8, b9⟩ := row_cells (own_later HB.out hbel) k p hp
          obtain ⟨p1, p2, p3, p4, p5, p6, p7, p8, p9, p10⟩ := p
          have l1 : (k : Int) < (ps.length : Int) := by omega
          have l0 : (0 : Int) ≤ (k : Int) := by omega
          go_wp2
          go_quiet (fail)
          have hbel2 := below_drewN hbel nq
          go_wp2
          go_roundw
          case rel => exact ⟨k + 1, hlt, by go_num, hbel2⟩
          case measure => simp [intOf]; omega
        · have hk' : k = ps.length := by omega
          subst hk'
          go_wp2
          go_ret
          exact ⟨rfl, hbel⟩
end Go.Proofs.Ytdnfabcjkbadoaa
