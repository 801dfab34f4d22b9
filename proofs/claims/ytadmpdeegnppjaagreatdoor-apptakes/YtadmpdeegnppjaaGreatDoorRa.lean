/- The document's side: rows of pairs; its session. -/
import Derived.Test.YtadmpdeegnppjaaGreatDoorRp
import Derived.Test.YtadmpdeegnppjaaGreatDoorAl
import Derived.Maps.AppendAt
import Derived.Laws.AppendOwnNone
namespace Go.Proofs.YtadmpdeegnppjaaGreatDoor
open Go.RowKit Go.Maps Go.Shelf Go.Lib
set_option maxRecDepth 100000
set_option linter.unusedVariables false
set_option linter.unusedSimpArgs false


abbrev KV := By × By
def enK (e : KV) : List Value := [.string (B e.1), .string (B e.2)]
def PR (w : World) (v : Value) (m : Mp) : Prop := w.ownsRow 0 66 2 v m.length (m.flatMap enK)
theorem PR.nil (w : World) : PR w (.slice none 0 0) [] := World.ownsRow_nil _ _ _ _
theorem infoK : (Tryz.prog.info? 66).map (fun i => (i.zero, i.size, i.bytes)) = some (some (.agg #[.string ⟨#[]⟩, .string ⟨#[]⟩]), 2, 32) := by kernel_rfl
theorem kflat_at : ∀ (L : Mp) (i : Nat) (e : KV), L[i]? = some e → (L.flatMap enK)[i * 2]? = some (.string (B e.1)) ∧ (L.flatMap enK)[i * 2 + 1]? = some (.string (B e.2))
  | [], i, e, h => by simp at h
  | y :: r, 0, e, h => by
    obtain rfl : y = e := by simpa using h
    simp [List.flatMap_cons, enK]
  | y :: r, i + 1, e, h => by
    have := kflat_at r i e (by simpa using h)
    rw [show (i + 1) * 2 = i * 2 + 2 by omega]
    simpa [List.flatMap_cons, enK] using this
theorem kflat_len (L : Mp) : (L.flatMap enK).length = L.length * 2 := by
  induction L with
  | nil => rfl
  | cons y r ih => simp [List.flatMap_cons, enK, ih]; omega
theorem kflat_one (L : Mp) : ∀ u ∈ L.flatMap enK, u.oneCell' = true := by
  intro u hu
  obtain ⟨e, -, hu⟩ := List.mem_flatMap.1 hu
  simp [enK] at hu
  rcases hu with rfl | rfl <;> rfl
theorem kflat_set : ∀ (L : Mp) (i : Nat) (k x t : By), L[i]? = some (k, x) → (L.flatMap enK).set (i * 2 + 1) (.string (B t)) = (L.set i (k, t)).flatMap enK
  | [], i, k, x, t, h => by simp at h
  | y :: r, 0, k, x, t, h => by
    obtain rfl : y = (k, x) := by simpa using h
    simp [List.flatMap_cons, enK]
  | y :: r, i + 1, k, x, t, h => by
    have := kflat_set r i k x t (by simpa using h)
    rw [show (i + 1) * 2 + 1 = (i * 2 + 1) + 2 by omega]
    simpa [List.flatMap_cons, enK] using this
/-- What stands at a place, each of two cells. -/
def SrcK (w : World) (a : Option Addr) (m : Mp) : Prop := m = [] ∨ ∃ g o, a = some ⟨g, o, none⟩ ∧ ∀ j e, m[j]? = some e → w.cell? ⟨g, o + j * 2, none⟩ = some (.string (B e.1)) ∧ w.cell? ⟨g, o + j * 2 + 1, none⟩ = some (.string (B e.2))
section
variable {w w' : World} {v : Value} {m : Mp}
theorem PR.shape (h : PR w v m) : ∃ a c, v = .slice a m.length c ∧ (a = none → m = [] ∧ c = 0) ∧ m.length ≤ c ∧ (∀ ad, a = some ad → ∃ g, ad = ⟨g, 0, none⟩ ∧ g < w.heap.size) := by
  rcases h.2 with ⟨rfl, h0⟩ | ⟨g, cap, cur, rfl, hg, hb, h1, h2⟩
  · rw [h0]; exact ⟨none, 0, rfl, fun _ => ⟨List.length_eq_zero_iff.1 h0, rfl⟩, Nat.le_refl _, fun ad e => by cases e⟩
  · exact ⟨some ⟨g, 0, none⟩, cap, rfl, (fun e => by cases e), h1, fun ad e => by cases e; exact ⟨g, rfl, (Array.getElem?_eq_some_iff.1 hb).1⟩⟩
theorem PR.cell {g n c : Nat} (h : PR w (.slice (some ⟨g, 0, none⟩) n c) m) {j : Nat} {e : KV} (hj : m[j]? = some e) : w.cell? ⟨g, j * 2, none⟩ = some (.string (B e.1)) ∧ w.cell? ⟨g, j * 2 + 1, none⟩ = some (.string (B e.2)) := by
  obtain ⟨a, b⟩ := kflat_at m j e hj
  have h1 := h.cells (g := g) rfl _ _ a
  have h2 := h.cells (g := g) rfl _ _ b
  rw [Addr.add_mid] at h1 h2
  simp only [Nat.zero_add] at h1 h2
  exact ⟨h1, h2⟩
theorem PR.turn {S : Nat → Prop} (h : PR w v m) (ht : Turn S w w') (hs : ∀ k, v.ownBlock = some k → ¬ S k) : PR w' v m := row_turn h ht hs
theorem PR.later (h : PR w v m) (hb : Below w.heap.size w w') : PR w' v m := row_later h hb
/-- A piece of a row. -/
theorem PR.src {a : Option Addr} {n c : Nat} (h : PR w (.slice a n c) m) : SrcK w a m := by
  obtain ⟨a', c', e, h0, hc, hg⟩ := h.shape
  cases e
  cases a with
  | none => exact Or.inl (h0 rfl).1
  | some ad =>
    obtain ⟨g, rfl, -⟩ := hg ad rfl
    exact Or.inr ⟨g, 0, rfl, fun j e he => by rw [Nat.zero_add]; exact h.cell he⟩
theorem SrcK.later {a : Option Addr} (h : SrcK w a m) (hb : Below w.heap.size w w') : SrcK w' a m := by
  rcases h with h | ⟨g, o, rfl, h⟩
  · exact Or.inl h
  · exact Or.inr ⟨g, o, rfl, fun j e he => ⟨Go.Proofs.YtadmpdeegnppjaaGreatDoor.later hb (h j e he).1, Go.Proofs.YtadmpdeegnppjaaGreatDoor.later hb (h j e he).2⟩⟩
/-- append of a piece to a row. -/
theorem appK {y : Mp} {a : Option Addr} {c : Nat} (h : PR w v m) (hy : SrcK w a y) (ha : a = none → y = [] ∧ c = 0) (hl : m.length + y.length ≤ 1000000) (ty : TypeId) :
    ∃ v' w', (Builtin.append_ #[26, 26] ty #[v, .slice a y.length c]).run Tryz.prog w = .ok v' w' ∧ PR w' v' (m ++ y) ∧ w.grownBy w' v.ownBlock ∧ (v'.ownBlock = v.ownBlock ∨ v'.ownBlock = some w.heap.size) := by
  obtain ⟨i0, hi, hz0, hz1, hz2⟩ := info_parts infoK
  cases a with
  | none =>
    obtain ⟨rfl, rfl⟩ := ha rfl
    refine ⟨v, w, ?_, by rw [List.append_nil]; exact h, ⟨rfl, rfl, rfl, Nat.le_refl _, fun _ _ _ => rfl⟩, Or.inl rfl⟩
    exact run_append_owned_none (P := Tryz.prog) w 0 26 ty 66 i0 2 Tryz.underlying26 hi v m.length _ h
  | some ad =>
    have hnews : ∀ j u, (y.flatMap enK)[j]? = some u → w.cell? (ad.add j) = some u := by
      intro j u hu
      rcases hy with rfl | ⟨g, o, e, hc⟩
      · simp at hu
      · cases e
        rw [Addr.add_mid]
        have hj : j < y.length * 2 := by have := (List.getElem?_eq_some_iff.1 hu).1; rw [kflat_len] at this; exact this
        have hq : y[j / 2]? = some (y[j / 2]'(by omega)) := List.getElem?_eq_getElem _
        obtain ⟨f0, f1⟩ := kflat_at y (j / 2) _ hq
        obtain ⟨c0, c1⟩ := hc _ _ hq
        rcases (by omega : j = j / 2 * 2 ∨ j = j / 2 * 2 + 1) with e | e
        · rw [e] at hu ⊢
          rw [f0] at hu
          cases hu
          exact c0
        · rw [e] at hu ⊢
          rw [f1] at hu
          cases hu
          exact c1
    obtain ⟨v', w', e1, e2, e3, -, e5⟩ := run_append_own_at (P := Tryz.prog) w 0 26 ty 66 i0 _ 2 32 Tryz.underlying26 hi hz0 hz1 hz2 rfl (by decide) v m.length _ h ad y.length c (y.flatMap enK) (kflat_len y) hnews (kflat_one y) (by unfold maxLen; omega) (by omega) (Nat.zero_le _)
    refine ⟨v', w', e1, ?_, e3, e5⟩
    unfold PR
    rw [List.length_append, List.flatMap_append]
    exact e2
theorem PR.empty (w : World) : PR (w.alloc (.cells #[] 66)) (.slice (some ⟨w.heap.size, 0, none⟩) 0 0) [] := World.ownsRow_made w #[] 0 (Nat.zero_le _) (Nat.zero_le _) rfl
end
/-- The document's session: its box, its row v. -/
structure RY (w : World) (b : Nat) (v : Value) (s : St) : Prop where
  at_ : At w b #[v, .string (B s.line), .bool s.long, .bool s.over]
  pr : PR w v s.m
  ne : v.ownBlock ≠ some b
section
variable {w w' : World} {b : Nat} {v : Value} {s : St} {S : Nat → Prop}
theorem RY.turn (h : RY w b v s) (ht : Turn S w w') (hb : ¬ S b) (hv : ∀ k, v.ownBlock = some k → ¬ S k) : RY w' b v s := ⟨h.at_.turn ht hb, h.pr.turn ht hv, h.ne⟩
theorem RY.later (h : RY w b v s) (hb : Below w.heap.size w w') : RY w' b v s := ⟨h.at_.later hb, h.pr.later hb, h.ne⟩
/-- The row is another one. -/
theorem RY.row (h : RY w b v s) {v' : Value} {m : Mp} (hp : PR w v' m) (hv : v'.ownBlock ≠ some b) : RY (w.setCell ⟨b, 0, none⟩ v') b v' ⟨m, s.line, s.long, s.over⟩ :=
  ⟨h.at_.set 0 v', hp.turn (turn_set w b 0 v') (fun k hk e => hv (by rw [hk, e])), hv⟩
theorem RY.same (h : RY w b v s) {w' : World} {i : Nat} {u : Value} {s' : St} (hw : w' = w.setCell ⟨b, i, none⟩ u) (hm : s'.m = s.m) (hc : (#[v, .string (B s.line), .bool s.long, .bool s.over] : Array Value).setIfInBounds i u = #[v, .string (B s'.line), .bool s'.long, .bool s'.over]) : RY w' b v s' := by
  subst hw
  refine ⟨by rw [← hc]; exact h.at_.set i u, ?_, h.ne⟩
  rw [hm]
  exact h.pr.turn (turn_set w b i u) (fun k hk e => h.ne (by rw [hk, e]))
end
end Go.Proofs.YtadmpdeegnppjaaGreatDoor
