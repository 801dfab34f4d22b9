/- The pieces of a packet, and what Take answers to them. -/
import Derived.Test.YtcjhniehbafhpaaFw
namespace Go.Proofs.Ytcjhniehbafhpaa
open Go.RowKit Go.Maps
set_option maxRecDepth 100000
set_option linter.unusedVariables false
set_option linter.unusedSimpArgs false

/-- What Take answers to the pieces of p. -/
structure PX (p : Pk) (g : Nat → Pk) (N : Nat) : Prop where
  has : ∀ {S : List Nat} {k : Nat}, k ≤ N → 1 ≤ N → k ∈ S → ∀ {w : World} {R B M : Nat} {la tu : Int}, OneB w R B M 3 1000 la tu (mk p) (S.map g) → ∀ now : Int, la ≤ now → now ≤ 1099511627776 → Calls Try.prog 13 #[.pointer (some ⟨B, 0, none⟩), .agg #[.int .i64 (g k).f, .int .i64 (g k).t, .int .i64 (g k).tl, .int .i64 (g k).pr, .int .i64 (g k).id, .int .i64 (g k).fr, .bool (g k).mo, .bool (g k).dn, .string (g k).op, .string (g k).da], .int .i64 now] w fun e w' => e = .returned (.tuple #[.agg #[.int .i64 0, .int .i64 0, .int .i64 0, .int .i64 0, .int .i64 0, .int .i64 0, .bool false, .bool false, .string ⟨#[]⟩, .string ⟨#[]⟩], .bool false, .int .i64 0]) ∧ OneB w' R B M 3 1000 now tu (mk p) (S.map g) ∧ Turn (FB R B M) w w'
  more : ∀ {S : List Nat} {k x : Nat}, k ≤ N → k ∉ S → x ≤ N → x ≠ k → x ∉ S → S.Pairwise (· < ·) → (∀ s ∈ S, s ≤ N) → S.length < 64 → ∀ {w : World} {R B M : Nat} {la tu : Int}, OneB w R B M 3 1000 la tu (mk p) (S.map g) → 0 ≤ tu → tu ≤ 100000 → ∀ now : Int, la ≤ now → now ≤ 1099511627776 → Calls Try.prog 13 #[.pointer (some ⟨B, 0, none⟩), .agg #[.int .i64 (g k).f, .int .i64 (g k).t, .int .i64 (g k).tl, .int .i64 (g k).pr, .int .i64 (g k).id, .int .i64 (g k).fr, .bool (g k).mo, .bool (g k).dn, .string (g k).op, .string (g k).da], .int .i64 now] w fun e w' => e = .returned (.tuple #[.agg #[.int .i64 0, .int .i64 0, .int .i64 0, .int .i64 0, .int .i64 0, .int .i64 0, .bool false, .bool false, .string ⟨#[]⟩, .string ⟨#[]⟩], .bool false, .int .i64 0]) ∧ (∃ (T : List Nat) (tu' : Int), T.Pairwise (· < ·) ∧ (∀ y, y ∈ T ↔ y = k ∨ y ∈ S) ∧ (tu' = tu ∨ tu' = tu + 1) ∧ OneB w' R B M 3 1000 now tu' (mk p) (T.map g)) ∧ Turn (FB R B M) w w'
  last : ∀ {S : List Nat} {k : Nat}, k ≤ N → k ∉ S → (∀ x, x ≤ N → x ≠ k → x ∈ S) → S.Pairwise (· < ·) → (∀ s ∈ S, s ≤ N) → S.length < 64 → ∀ {w : World} {R B M : Nat} {la tu : Int}, OneB w R B M 3 1000 la tu (mk p) (S.map g) → ∀ now : Int, la ≤ now → now ≤ 1099511627776 → Calls Try.prog 13 #[.pointer (some ⟨B, 0, none⟩), .agg #[.int .i64 (g k).f, .int .i64 (g k).t, .int .i64 (g k).tl, .int .i64 (g k).pr, .int .i64 (g k).id, .int .i64 (g k).fr, .bool (g k).mo, .bool (g k).dn, .string (g k).op, .string (g k).da], .int .i64 now] w fun e w' => e = .returned (.tuple #[.agg #[.int .i64 p.f, .int .i64 p.t, .int .i64 p.tl, .int .i64 p.pr, .int .i64 p.id, .int .i64 p.fr, .bool p.mo, .bool p.dn, .string p.op, .string p.da], .bool true, .int .i64 0]) ∧ OneB w' R B M 3 1000 now tu (mk p) [] ∧ Turn (FB R B M) w w'
theorem px_cut {p : Pk} {Q N : Nat} (h : Cx p Q N) : PX p (pc p Q N) N :=
  ⟨fun hk _ hin _ _ _ _ _ _ hO now h1 h2 => piece_has h hk hin hO now h1 h2,
   fun hk hn hx hxk hxS hS hSN hl _ _ _ _ _ _ hO t0 t1 now h1 h2 => piece_more h hk hn hx hxk hxS hS hSN hl hO (by decide) (by decide) t0 t1 now h1 h2,
   fun hk hn hall hS hSN hl _ _ _ _ _ _ hO now h1 h2 => piece_last h hk hn hall hS hSN hl hO now h1 h2⟩
/-- A packet that is not cut. -/
theorem px_one {p : Pk} (hm : p.may = true) (hf : p.fr = 0) (hmo : p.mo = false) : PX p (fun _ => p) 0 := by
  have hw : wholeB p.fr p.mo = true := by unfold wholeB; rw [hf, hmo]; rfl
  have key : ∀ {w : World} {R B M : Nat} {la tu : Int}, OneB w R B M 3 1000 la tu (mk p) [] → ∀ now : Int, la ≤ now → now ≤ 1099511627776 → Calls Try.prog 13 #[.pointer (some ⟨B, 0, none⟩), .agg #[.int .i64 p.f, .int .i64 p.t, .int .i64 p.tl, .int .i64 p.pr, .int .i64 p.id, .int .i64 p.fr, .bool p.mo, .bool p.dn, .string p.op, .string p.da], .int .i64 now] w fun e w' => e = .returned (.tuple #[.agg #[.int .i64 p.f, .int .i64 p.t, .int .i64 p.tl, .int .i64 p.pr, .int .i64 p.id, .int .i64 p.fr, .bool p.mo, .bool p.dn, .string p.op, .string p.da], .bool true, .int .i64 0]) ∧ OneB w' R B M 3 1000 now tu (mk p) [] ∧ Turn (FB R B M) w w' := by
    intro w R B M la tu hO now h1 h2
    rcases hO with ⟨-, hB⟩ | ⟨h, -⟩
    · refine (takeW p hm w R B M 3 1000 la tu [] hB now h1 h2 hw).mono ?_
      rintro e w' ⟨rfl, hT⟩
      obtain ⟨⟨L, hL, hB'⟩, ht⟩ := tp_fin (tu' := tu) (P := fun L => L = []) hB hT (fun W W' hW hφ => by
        subst hφ
        exact ⟨Turn.refl _, [], rfl, hW, fun y hy => by cases hy⟩)
      subst hL
      exact ⟨rfl, Or.inl ⟨rfl, hB'⟩, ht⟩
    · exact absurd rfl h
  have h0 : ∀ {S : List Nat} {k : Nat}, k ≤ 0 → k ∉ S → (∀ s ∈ S, s ≤ 0) → S = [] := by
    intro S k hk hn hS
    cases S with
    | nil => rfl
    | cons s r =>
      have := hS s (List.mem_cons_self ..)
      exact absurd (by rw [show k = s by omega]; exact List.mem_cons_self ..) hn
  refine ⟨?_, ?_, ?_⟩
  · intro S k hk h1
    omega
  · intro S k x hk hn hx hxk hxS
    omega
  · intro S k hk hn hall hS hSN hl w R B M la tu hO now h1 h2
    obtain rfl := h0 hk hn hSN
    exact key hO now h1 h2
end Go.Proofs.Ytcjhniehbafhpaa
