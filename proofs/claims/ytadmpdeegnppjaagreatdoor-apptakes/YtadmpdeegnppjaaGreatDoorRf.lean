/- The document's side: find. -/
import Derived.Test.YtadmpdeegnppjaaGreatDoorRd
namespace Go.Proofs.YtadmpdeegnppjaaGreatDoor
open Go.RowKit Go.Maps Go.Shelf Go.Lib
set_option maxRecDepth 100000
set_option linter.unusedVariables false
set_option linter.unusedSimpArgs false


theorem B_ne {a b : By} (h : a ≠ b) : ((B a).toList == (B b).toList) = false := by rw [B_eq]; exact beq_eq_false_iff_ne.2 h
theorem B_same (a : By) : ((B a).toList == (B a).toList) = true := by rw [B_eq]; exact beq_iff_eq.2 rfl
/-- Where a name stands: nowhere (-1), or at i, with the text behind it. -/
def FindQ (m : Mp) (k : By) (j : Int) : Prop := (j = -1 ∧ mget m k = none) ∨ ∃ (i : Nat) (x : By), j = (i : Int) ∧ m[i]? = some (k, x) ∧ mget m k = some x
section
variable {w : World} {b : Nat} {v : Value} {s : St}
set_option maxHeartbeats 2000000 in
theorem rfind_any (h : RY w b v s) (hO : OkM s.m) (k : By) : Calls Tryz.prog 52 #[PB b, .string (B k)] w fun e w' => (∃ j, e = .returned (.int .i64 j) ∧ FindQ s.m k j) ∧ Below w.heap.size w w' := by
  have hms := hO.size
  have HO : Hid (Rise s.m) := hO.rise
  have HR : Hid (RY w b v s) := h
  obtain ⟨hlt, ⟨c0, c1, c2, c3⟩, -⟩ := h.at_.four
  obtain ⟨a, c, rfl, h0, hc, hg⟩ := h.pr.shape
  clear h hO
  go_enter Tryz.func52, Tryz.ntmps52
  go_wp2
  go_loopw [5] (fun x wr => ∃ i : Nat, x = .int .i64 (i : Int) ∧ Below w.heap.size w wr ∧ (∀ j e, j < i → s.m[j]? = some e → e.1 ≠ k) ∧ i ≤ s.m.length) (fun x wr => s.m.length - natOf x)
  case atStart => exact ⟨0, rfl, Below.refl _ _, (by intro j e hj; omega), Nat.zero_le _⟩
  case round =>
    obtain ⟨i, rfl, hbw, hno, hle⟩ := hrel
    have c0' := later hbw c0
    have hsz := hbw.size
    have hltr : b < wr.heap.size := by omega
    have hi1 : ((i + 1 : Nat) : Int) = (i : Int) + 1 := by omega
    have HB : Hid _ := hbw
    by_cases hp : i < s.m.length
    · obtain ⟨e, he⟩ : ∃ e, s.m[i]? = some e := ⟨_, List.getElem?_eq_getElem hp⟩
      have hp' : (i : Int) < (s.m.length : Int) := by omega
      cases a with
      | none => have := (h0 rfl).1; rw [this] at hp; simp at hp
      | some ad =>
        obtain ⟨g, rfl, hgl⟩ := hg ad rfl
        obtain ⟨k0, k1⟩ := (HR.out.pr.later hbw).cell he
        by_cases hk : e.1 = k
        · have qq : ((B e.1).toList == (B k).toList) = true := by rw [hk]; exact B_same k
          have HQ : Hid (FindQ s.m k (i : Int)) := by
            obtain ⟨e1, e2⟩ := e
            simp only at hk
            subst hk
            exact Or.inr ⟨i, e2, rfl, he, mget_of HO.out (List.mem_of_getElem? he)⟩
          clear hno h0 hg he hbw
          go_wp2
          go_ret
          exact ⟨⟨_, rfl, HQ.out⟩, HB.out⟩
        · have qq : ((B e.1).toList == (B k).toList) = false := B_ne hk
          have HN : Hid (∀ j e, j < i + 1 → s.m[j]? = some e → e.1 ≠ k) := by
            intro j e' hj he'
            rcases Nat.lt_succ_iff_lt_or_eq.1 hj with h | h
            · exact hno j e' h he'
            · subst h
              rw [he] at he'
              cases he'
              exact hk
          clear hno h0 hg he hbw
          go_wp2
          go_roundw
          case rel => exact ⟨i + 1, by rw [hi1], HB.out, HN.out, hp⟩
          case measure => simp only [natOf]; omega
    · have hp' : ¬ (i : Int) < (s.m.length : Int) := by omega
      have HQ : Hid (FindQ s.m k (-1)) := Or.inl ⟨rfl, mget_none.2 fun x hx => by
        obtain ⟨j, hj⟩ := List.mem_iff_getElem?.1 hx
        exact hno j x (by have := (List.getElem?_eq_some_iff.1 hj).1; omega) hj⟩
      clear hno h0 hg hbw
      go_wp2
      go_ret
      exact ⟨⟨_, rfl, HQ.out⟩, HB.out⟩
end
end Go.Proofs.YtadmpdeegnppjaaGreatDoor
