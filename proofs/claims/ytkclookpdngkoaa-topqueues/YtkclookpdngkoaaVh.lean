/- Rows of ranges; stretches; Apart. -/
import Derived.Test.YtkclookpdngkoaaVg
namespace Go.Proofs.Ytkclookpdngkoaa.V
open Go.RowKit Go.Maps Go.Lib
set_option maxRecDepth 100000
set_option linter.unusedVariables false
set_option linter.unusedSimpArgs false

abbrev Rg := Int × Int
def enR (e : Rg) : List Value := [.int .i64 e.1, .int .i64 e.2]
def RO (w : World) (base : Nat) (v : Value) (rs : List Rg) : Prop := w.ownsRow base 43 2 v rs.length (rs.flatMap enR)
theorem infoR : (Try.prog.info? 43).map (fun i => (i.zero, i.size, i.bytes)) = some (some (.agg #[.int .i64 0, .int .i64 0]), 2, 16) := by kernel_rfl
theorem rflat_at : ∀ (L : List Rg) (i : Nat) (e : Rg), L[i]? = some e → (L.flatMap enR)[i * 2]? = some (.int .i64 e.1) ∧ (L.flatMap enR)[i * 2 + 1]? = some (.int .i64 e.2)
  | [], i, e, h => by simp at h
  | y :: r, 0, e, h => by
    obtain rfl : y = e := by simpa using h
    simp [List.flatMap_cons, enR]
  | y :: r, i + 1, e, h => by
    have := rflat_at r i e (by simpa using h)
    rw [show (i + 1) * 2 = i * 2 + 2 by omega]
    simpa [List.flatMap_cons, enR] using this
theorem rflat_len (L : List Rg) : (L.flatMap enR).length = L.length * 2 := by
  induction L with
  | nil => rfl
  | cons y r ih => simp [List.flatMap_cons, enR, ih]; omega
theorem rflat_one (L : List Rg) : ∀ u ∈ L.flatMap enR, u.oneCell' = true := by
  intro u hu
  obtain ⟨e, -, hu⟩ := List.mem_flatMap.1 hu
  simp [enR] at hu
  rcases hu with rfl | rfl <;> rfl
theorem rflat_setTo : ∀ (L : List Rg) (i : Nat) (e : Rg) (t : Int), L[i]? = some e → (L.flatMap enR).set (i * 2 + 1) (.int .i64 t) = (L.set i (e.1, t)).flatMap enR
  | [], i, e, t, h => by simp at h
  | y :: r, 0, e, t, h => by
    obtain rfl : y = e := by simpa using h
    simp [List.flatMap_cons, enR]
  | y :: r, i + 1, e, t, h => by
    have := rflat_setTo r i e t (by simpa using h)
    rw [show (i + 1) * 2 + 1 = (i * 2 + 1) + 2 by omega]
    simpa [List.flatMap_cons, enR] using this
theorem RO.nil (w : World) (base : Nat) : RO w base (.slice none 0 0) [] := World.ownsRow_nil _ _ _ _
theorem RO.shape {w : World} {base : Nat} {v : Value} {L : List Rg} (h : RO w base v L) : ∃ a c, v = .slice a L.length c ∧ (∀ A, a = some A → ∃ g, A = ⟨g, 0, none⟩ ∧ base ≤ g) ∧ (a = none → L = []) := by
  rcases h.2 with ⟨rfl, h0⟩ | ⟨g, cap, cur, rfl, hg, hb, h1, h2⟩
  · rw [h0]; exact ⟨none, 0, rfl, (fun A e => by cases e), fun _ => List.length_eq_zero_iff.1 h0⟩
  · exact ⟨some ⟨g, 0, none⟩, cap, rfl, (fun A e => by cases e; exact ⟨g, rfl, hg⟩), (fun e => by cases e)⟩
theorem RO.cell {w : World} {base g : Nat} {n c : Nat} {L : List Rg} (h : RO w base (.slice (some ⟨g, 0, none⟩) n c) L) {j : Nat} {e : Rg} (hj : L[j]? = some e) : w.cell? ⟨g, j * 2, none⟩ = some (.int .i64 e.1) ∧ w.cell? ⟨g, j * 2 + 1, none⟩ = some (.int .i64 e.2) := by
  obtain ⟨a, b⟩ := rflat_at L j e hj
  have h1 := h.cells (g := g) rfl _ _ a
  have h2 := h.cells (g := g) rfl _ _ b
  rw [Addr.add_mid] at h1 h2
  simp only [Nat.zero_add] at h1 h2
  exact ⟨h1, h2⟩
theorem RO.free {w : World} {base g : Nat} {n c : Nat} {L : List Rg} (h : RO w base (.slice (some ⟨g, 0, none⟩) n c) L) (o : Nat) : w.frozen? ⟨g, o, none⟩ = false := by
  rcases h.2 with ⟨e, -⟩ | ⟨g', cap, cur, hv, hg, hb, -⟩
  · cases e
  · cases hv
    simp [World.frozen?, hb]
theorem RO.setTo {w : World} {base g n c : Nat} {rs : List Rg} (h : RO w base (.slice (some ⟨g, 0, none⟩) n c) rs) (hn : n = rs.length) (i : Nat) (e : Rg) (t : Int) (hi : rs[i]? = some e) : RO (w.setCell ⟨g, i * 2 + 1, none⟩ (.int .i64 t)) base (.slice (some ⟨g, 0, none⟩) n c) (rs.set i (e.1, t)) := by
  subst hn
  have k1 := (World.ownsRow.stored h (i * 2 + 1) (.int .i64 t)).1
  unfold RO
  rw [List.length_set, ← rflat_setTo rs i e t hi]
  exact k1
theorem RO.later {w w' : World} {base : Nat} {v : Value} {L : List Rg} (h : RO w base v L) (hb : Below w.heap.size w w') : RO w' base v L := row_later h hb
theorem RO.low {w : World} {base b' : Nat} {v : Value} {L : List Rg} (h : RO w base v L) (hb : b' ≤ base) : RO w b' v L := row_low h hb
/-- append of one range that was boxed. -/
theorem appR {w : World} {base : Nat} {v : Value} {rs : List Rg} (h : RO w base v rs) (hbase : base ≤ w.heap.size) (e : Rg) (hl : rs.length ≤ 1000000) (ty : TypeId) :
    ∃ v' w', (Builtin.append_ #[40, 40] ty #[v, .slice (some ⟨w.heap.size, 0, none⟩) 1 1]).run Try.prog (w.alloc (.cells #[.int .i64 e.1, .int .i64 e.2] 43)) = .ok v' w' ∧ RO w' base v' (rs ++ [e]) ∧ Below base w w' := by
  obtain ⟨i0, hi, hz0, hz1, hz2⟩ := info_parts infoR
  obtain ⟨v', w', e1, e2, e3, -, e5⟩ := run_append_own_at (P := Try.prog) (w.alloc (.cells #[.int .i64 e.1, .int .i64 e.2] 43)) base 40 ty 43 i0 _ 2 16 Try.underlying40 hi hz0 hz1 hz2 rfl (by decide) v rs.length (rs.flatMap enR) (row_later h (bel1 w _)) ⟨w.heap.size, 0, none⟩ 1 1 (enR e) rfl (fun j u hu => by
    rw [Addr.add_mid, Nat.zero_add]
    exact ((At.box w #[.int .i64 e.1, .int .i64 e.2] 43).2 j u (by rw [← hu]; simp [enR])).1) (fun u hu => by simp [enR] at hu; rcases hu with rfl | rfl <;> rfl) (by unfold maxLen; omega) (by omega) (Nat.le_trans hbase (bel1 w _).size)
  refine ⟨v', w', e1, ?_, ?_⟩
  · unfold RO
    rw [List.length_append, List.flatMap_append]
    simpa using e2
  · refine ((bel1 w _).mono hbase).grown e3 (by simp; omega) ?_
    intro k hk
    rcases h.2 with ⟨rfl, -⟩ | ⟨g, cap, cur, rfl, hg, -⟩
    · cases hk
    · cases hk; exact hg
/-! ### Stretches -/
abbrev St := Nat × Nat
def snoc (acc : List St) (p : Nat) : List St :=
  match acc.getLast? with
  | some e => if e.2 = p then acc.set (acc.length - 1) (e.1, p + 1) else acc ++ [(p, p + 1)]
  | none => [(p, p + 1)]
def strL (ps : List Nat) : List St := ps.foldl snoc []
def numR (next : Int) (e : St) : Rg := ((next + (e.1 : Int)) % 4294967296, (next + (e.2 : Int)) % 4294967296)
theorem snoc_app {a t : List St} (ht : t ≠ []) (p : Nat) : snoc (a ++ t) p = a ++ snoc t p ∧ snoc t p ≠ [] := by
  obtain ⟨e, he⟩ : ∃ e, t.getLast? = some e := ⟨_, List.getLast?_eq_some_getLast ht⟩
  have h2 : (a ++ t).getLast? = some e := by rw [List.getLast?_append, he]; rfl
  unfold snoc
  rw [he, h2]
  dsimp only
  split
  · have hl : (a ++ t).length - 1 = a.length + (t.length - 1) := by
      have := List.length_pos_iff.2 ht
      rw [List.length_append]; omega
    rw [hl, List.set_append_right _ _ (by omega), Nat.add_sub_cancel_left]
    exact ⟨rfl, by simpa using ht⟩
  · exact ⟨by rw [List.append_assoc], by simp⟩
theorem fold_app {a : List St} : ∀ (r : List Nat) {t : List St}, t ≠ [] → r.foldl snoc (a ++ t) = a ++ r.foldl snoc t
  | [], t, _ => rfl
  | p :: r, t, ht => by
    obtain ⟨h1, h2⟩ := snoc_app (a := a) ht p
    simp only [List.foldl_cons]
    rw [h1]
    exact fold_app r h2
theorem snoc_bd {acc : List St} {p B : Nat} (h : ∀ e ∈ acc, e.1 < e.2 ∧ e.2 ≤ B) (hp : p < B) : ∀ e ∈ snoc acc p, e.1 < e.2 ∧ e.2 ≤ B := by
  intro e he
  unfold snoc at he
  cases hq : acc.getLast? with
  | none => rw [hq] at he; simp at he; subst he; exact ⟨Nat.lt_succ_self _, hp⟩
  | some x =>
    rw [hq] at he
    dsimp only at he
    have hx := h x (List.mem_of_getLast? hq)
    split at he
    · rcases List.mem_or_eq_of_mem_set he with h1 | h1
      · exact h e h1
      · subst h1; exact ⟨by show x.1 < p + 1; omega, hp⟩
    · rcases List.mem_append.1 he with h1 | h1
      · exact h e h1
      · simp at h1; subst h1; exact ⟨Nat.lt_succ_self _, hp⟩
theorem fold_bd {B : Nat} : ∀ (r : List Nat) {acc : List St}, (∀ e ∈ acc, e.1 < e.2 ∧ e.2 ≤ B) → (∀ p ∈ r, p < B) → ∀ e ∈ r.foldl snoc acc, e.1 < e.2 ∧ e.2 ≤ B
  | [], acc, h, _ => h
  | p :: r, acc, h, hr => by
    simp only [List.foldl_cons]
    exact fold_bd r (snoc_bd h (hr p (List.mem_cons_self ..))) (fun x hx => hr x (List.mem_cons_of_mem _ hx))
theorem snoc_len {acc : List St} {p : Nat} : (snoc acc p).length ≤ acc.length + 1 := by
  unfold snoc
  cases acc.getLast? with
  | none => simp
  | some x => dsimp only; split <;> simp
theorem fold_len : ∀ (r : List Nat) (acc : List St), (r.foldl snoc acc).length ≤ acc.length + r.length
  | [], acc => Nat.le_refl _
  | p :: r, acc => by
    simp only [List.foldl_cons, List.length_cons]
    have := fold_len r (snoc acc p)
    have := snoc_len (acc := acc) (p := p)
    omega
theorem take_snoc {ps : List Nat} {i p : Nat} (h : ps[i]? = some p) : strL (ps.take (i + 1)) = snoc (strL (ps.take i)) p := by
  unfold strL
  rw [List.take_add_one, h, List.foldl_append]
  rfl
theorem str_stop {ps : List Nat} {i p : Nat} (h : ps[i]? = some p) (hn : ∀ e, (strL (ps.take i)).getLast? = some e → e.2 ≠ p) : ∃ r, strL ps = strL (ps.take i) ++ r := by
  have e1 : ps = ps.take i ++ p :: ps.drop (i + 1) := by
    have := (List.getElem?_eq_some_iff.1 h)
    obtain ⟨h1, h2⟩ := this
    rw [← h2, List.getElem_cons_drop, List.take_append_drop]
  have e2 : snoc (strL (ps.take i)) p = strL (ps.take i) ++ [(p, p + 1)] := by
    unfold snoc
    cases hq : (strL (ps.take i)).getLast? with
    | none => rw [List.getLast?_eq_none_iff.1 hq]; rfl
    | some e => dsimp only; rw [if_neg (hn e hq)]
  refine ⟨(ps.drop (i + 1)).foldl snoc [(p, p + 1)], ?_⟩
  conv => lhs; rw [e1]
  unfold strL at e2 ⊢
  rw [List.foldl_append, List.foldl_cons, e2]
  exact fold_app _ (by simp)
end Go.Proofs.Ytkclookpdngkoaa.V
