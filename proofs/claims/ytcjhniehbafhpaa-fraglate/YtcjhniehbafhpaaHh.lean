/- The state of the loop of FragLate, and its steps. -/
import Derived.Test.YtcjhniehbafhpaaHg
import Derived.Test.YtcjhniehbafhpaaFv
namespace Go.Proofs.Ytcjhniehbafhpaa
open Go.RowKit Go.Maps
set_option maxRecDepth 100000
set_option linter.unusedVariables false
set_option linter.unusedSimpArgs false

/-- How the loop stands: what is in the box began in the order of its numbers, one piece each. -/
structure LX (w6 W : World) (B M : Nat) (wt : Int) (i : Nat) (la tu : Int) (l : List Pile) : Prop where
  bx : BX W w6.heap.size B M 64 wt la tu l
  la0 : 0 ≤ la
  la1 : la ≤ (i : Int)
  t0 : 0 ≤ tu
  t1 : tu ≤ (i : Int)
  len : l.length ≤ i
  at_ : ∀ x ∈ l, 0 ≤ x.at_ ∧ x.at_ ≤ la
  tus : ∀ x ∈ l, 0 ≤ x.tu ∧ x.tu ≤ tu
  so : l.Pairwise (fun x y => x.tu < y.tu)
  id : ∀ x ∈ l, x.m.id < (i : Int) ∧ ∃ q, x.ps = [q] ∧ q.id = x.m.id
  ids : l.Pairwise (fun x y => x.m.id < y.m.id)
  tr : Turn (FB w6.heap.size B M) w6 W
theorem LX.later {w6 W W' : World} {B M : Nat} {wt la tu : Int} {i : Nat} {l : List Pile} (h : LX w6 W B M wt i la tu l) (hb : Below W.heap.size W W') : LX w6 W' B M wt i la tu l :=
  ⟨h.bx.later hb, h.la0, h.la1, h.t0, h.t1, h.len, h.at_, h.tus, h.so, h.id, h.ids, h.tr.later hb⟩
theorem LX.next {w6 W : World} {B M : Nat} {wt la tu : Int} {i : Nat} {l : List Pile} (h : LX w6 W B M wt i la tu l) : LX w6 W B M wt (i + 1) la tu l :=
  ⟨h.bx, h.la0, by have := h.la1; omega, h.t0, by have := h.t1; omega, Nat.le_succ_of_le h.len, h.at_, h.tus, h.so, fun x hx => ⟨by have := (h.id x hx).1; omega, (h.id x hx).2⟩, h.ids, h.tr⟩
theorem LX.take {w6 W : World} {B M : Nat} {wt la tu : Int} {i : Nat} {l : List Pile} (h : LX w6 W B M wt i la tu l) (p : Pk) (hmay : p.may = true) (hid : p.id = (i : Int)) (hmo : p.mo = true) (hi : i < 40) :
    Calls Try.prog 13 #[.pointer (some ⟨B, 0, none⟩), .agg #[.int .i64 p.f, .int .i64 p.t, .int .i64 p.tl, .int .i64 p.pr, .int .i64 p.id, .int .i64 p.fr, .bool p.mo, .bool p.dn, .string p.op, .string p.da], .int .i64 (i : Int)] W fun e W' => ∃ c : Int, (c = 0 ∨ c = 120) ∧ e = .returned (.tuple #[.agg #[.int .i64 0, .int .i64 0, .int .i64 0, .int .i64 0, .int .i64 0, .int .i64 0, .bool false, .bool false, .string ⟨#[]⟩, .string ⟨#[]⟩], .bool false, .int .i64 c]) ∧ ∃ la' tu' l', LX w6 W' B M wt (i + 1) la' tu' l' ∧ (c = 0 → l' ≠ []) := by
  have hwh : wholeB p.fr p.mo = false := by unfold wholeB; rw [hmo]; simp
  have hla0 := h.la0
  have hla1 := h.la1
  have ht0 := h.t0
  have ht1 := h.t1
  have hln := h.len
  have hnw : Ytcjhniehbafhpaa.mk p ∉ l.map (·.m) := fun hm => by
    obtain ⟨x, hx, e⟩ := List.mem_map.1 hm
    have h1 := (h.id x hx).1
    have h2 : x.m.id = p.id := by rw [e]; rfl
    omega

  cases hf : fitsL [] p with
  | true =>
    have hc : completeB [p] = false := by
      unfold completeB lastB
      simp [hmo]
    refine (take_no p hmay W w6.heap.size B M 64 wt la tu l h.bx (i : Int) hla1 (by omega) hwh _ (fun W' hW => lay_new p (may_fine hmay) (may_wf hmay) W' w6.heap.size B M 64 wt (i : Int) tu l hW hnw (by omega) (by decide) ht0 (by omega) hf hc) (fun W W' _ h => by obtain ⟨_, _, _, _, _, h, _⟩ := h; exact h)).mono ?_
    rintro e w' ⟨rfl, hT⟩
    obtain ⟨⟨L, ⟨v', hL⟩, hB'⟩, ht⟩ := tp_fin (tu' := tu + 1) (P := fun L => ∃ v', L = l ++ ⟨Ytcjhniehbafhpaa.mk p, (i : Int), tu + 1, v', [p]⟩ :: []) h.bx hT (fun W W' _ hφ => by
      obtain ⟨v', j, hj, hcut, hb, htt, hlo⟩ := hφ
      obtain rfl : j = 0 := by simpa using hj
      refine ⟨htt, _, ⟨v', rfl⟩, hb, fun y hy k hk => ?_⟩
      rcases List.mem_append.1 hy with hy | hy
      · exact Or.inl ⟨y, hy, hk⟩
      · rw [List.mem_singleton.1 hy] at hk
        exact hlo k hk)
    subst hL
    refine ⟨0, Or.inl rfl, rfl, _, _, _, ⟨hB', by omega, by omega, by omega, by omega, by simp; omega, ?_, ?_, ?_, ?_, ?_, h.tr.trans ht⟩, fun _ => by simp⟩
    · intro x hx
      rcases List.mem_append.1 hx with hx | hx
      · have := h.at_ x hx; omega
      · rw [List.mem_singleton.1 hx]; exact ⟨by show (0 : Int) ≤ (i : Int); omega, Int.le_refl _⟩
    · intro x hx
      rcases List.mem_append.1 hx with hx | hx
      · have := h.tus x hx; omega
      · rw [List.mem_singleton.1 hx]; exact ⟨by show (0 : Int) ≤ tu + 1; omega, Int.le_refl _⟩
    · rw [List.pairwise_append]
      refine ⟨h.so, List.pairwise_singleton _ _, fun x hx y hy => ?_⟩
      rw [List.mem_singleton.1 hy]
      have := (h.tus x hx).2
      show x.tu < tu + 1
      omega
    · intro x hx
      rcases List.mem_append.1 hx with hx | hx
      · exact ⟨by have := (h.id x hx).1; omega, (h.id x hx).2⟩
      · rw [List.mem_singleton.1 hx]
        exact ⟨by show p.id < _; omega, p, rfl, rfl⟩
    · rw [List.pairwise_append]
      refine ⟨h.ids, List.pairwise_singleton _ _, fun x hx y hy => ?_⟩
      rw [List.mem_singleton.1 hy]
      have := (h.id x hx).1
      show x.m.id < p.id
      omega
  | false =>
    refine (take_bad p hmay W w6.heap.size B M 64 wt la tu l h.bx (i : Int) hla1 (by omega) hwh _ (fun W' hW => lay_badn p (may_fine hmay) (may_wf hmay) W' w6.heap.size B M 64 wt (i : Int) tu l hW hnw (by omega) (by decide) ht0 (by omega) hf) (fun W W' _ h => h.2)).mono ?_
    rintro e w' ⟨rfl, hT⟩
    obtain ⟨⟨L, hL, hB'⟩, ht⟩ := tp_fin (tu' := tu + 1) (P := fun L => L = l) h.bx hT (fun W W' _ hφ => ⟨hφ.2, _, rfl, hφ.1, fun y hy k hk => Or.inl ⟨y, hy, hk⟩⟩)
    subst hL
    refine ⟨120, Or.inr rfl, rfl, _, _, _, ⟨hB', by omega, by omega, by omega, by omega, by omega, fun x hx => ?_, fun x hx => ?_, h.so, fun x hx => ⟨by have := (h.id x hx).1; omega, (h.id x hx).2⟩, h.ids, h.tr.trans ht⟩, fun e => by cases e⟩
    · have := h.at_ x hx; omega
    · have := h.tus x hx; omega
/-- All of it is late. -/
theorem LX.old {w6 W : World} {B M : Nat} {wt la tu : Int} {i : Nat} {l : List Pile} (h : LX w6 W B M wt i la tu l) (hi : i ≤ 40) (hw : wt ≤ 20) : (l.filter fun x => !Ytcjhniehbafhpaa.old 100 wt x) = [] ∧ l.filter (Ytcjhniehbafhpaa.old 100 wt) = l := by
  have ho : ∀ x ∈ l, Ytcjhniehbafhpaa.old 100 wt x = true := fun x hx => decide_eq_true (by have := (h.at_ x hx).2; have := h.la1; omega)
  constructor
  · rw [List.filter_eq_nil_iff]
    intro x hx
    rw [ho x hx]
    simp
  · rw [List.filter_eq_self]
    exact ho
theorem late_mem {l : List Pile} {q : Pk} (h : q ∈ lateL l) : q.fr = 0 ∧ ∃ x ∈ l, ∃ r, x.ps = q :: r := by
  unfold lateL at h
  obtain ⟨x, hx, hq⟩ := List.mem_filterMap.1 h
  cases hp : x.ps with
  | nil => rw [hp] at hq; cases hq
  | cons a r =>
    rw [hp] at hq
    simp only at hq
    split at hq
    · rename_i h0
      injection hq with hq
      subst hq
      exact ⟨h0, x, hx, r, hp⟩
    · cases hq
theorem late_ids : ∀ {l : List Pile}, (∀ x ∈ l, ∃ q, x.ps = [q] ∧ q.id = x.m.id) → l.Pairwise (fun x y => x.m.id < y.m.id) → (lateL l).Pairwise (fun a b => a.id < b.id)
  | [], _, _ => List.Pairwise.nil
  | x :: r, hx, hp => by
    have ih := late_ids (fun y hy => hx y (List.mem_cons_of_mem _ hy)) (List.pairwise_cons.1 hp).2
    obtain ⟨q, hq, hqi⟩ := hx x (List.mem_cons_self ..)
    have e : lateL (x :: r) = (if q.fr = 0 then [q] else []) ++ lateL r := by
      unfold lateL
      by_cases h0 : q.fr = 0
      · simp [List.filterMap_cons, hq, h0]
      · simp [List.filterMap_cons, hq, h0]
    rw [e]
    by_cases h0 : q.fr = 0
    · rw [if_pos h0]
      refine List.pairwise_cons.2 ⟨fun b hb => ?_, ih⟩
      obtain ⟨-, y, hy, r', hy'⟩ := late_mem hb
      obtain ⟨q', hq', hqi'⟩ := hx y (List.mem_cons_of_mem _ hy)
      rw [hq'] at hy'
      injection hy' with e1
      have := (List.pairwise_cons.1 hp).1 y hy
      rw [← e1]
      omega
    · rw [if_neg h0]
      exact ih
end Go.Proofs.Ytcjhniehbafhpaa
