/- The state of the loop of FragMixed, and its steps. -/
import Derived.Test.YtcjhniehbafhpaaGb
namespace Go.Proofs.Ytcjhniehbafhpaa
open Go.RowKit Go.Maps
set_option maxRecDepth 100000
set_option linter.unusedVariables false
set_option linter.unusedSimpArgs false

/-- What came so far. -/
def Got (x y : Pk) : Bool → Bool → List Pk → Prop
  | false, false, l => l = []
  | true, false, l => l = [x]
  | false, true, l => l = [y]
  | true, true, l => l = [x, y] ∨ l = [y, x]
theorem Got.swap {x y : Pk} : ∀ {c d : Bool} {l : List Pk}, Got x y c d l → Got y x d c l
  | false, false, _, h => h
  | true, false, _, h => h
  | false, true, _, h => h
  | true, true, _, h => h.symm
theorem Got.app {x y : Pk} : ∀ {d : Bool} {l : List Pk}, Got x y false d l → Got x y true d (l ++ [x])
  | false, _, h => by subst h; rfl
  | true, _, h => by subst h; exact Or.inr rfl
theorem Got.short {x y : Pk} : ∀ {c d : Bool} {l : List Pk}, Got x y c d l → l.length ≤ 2
  | false, false, _, h => by subst h; decide
  | true, false, _, h => by subst h; exact Nat.le_succ _
  | false, true, _, h => by subst h; exact Nat.le_succ _
  | true, true, _, h => by rcases h with h | h <;> subst h <;> exact Nat.le_refl _
def one (n i : Nat) : Nat := if 0 < i ∧ i ≤ n then 1 else 0
/-- How the loop stands: i1 of the first row are gone, i2 of the second one. -/
structure MX (w7 W : World) (B M : Nat) (x y : Pk) (G1 G2 : Nat → Pk) (N1 N2 i1 i2 : Nat) (c1 c2 : Bool) (vg : Value) (got : List Pk) (la tu : Int) (lp : List Pile) : Prop where
  bx : BX W w7.heap.size B M 4 1000 la tu lp
  h1 : Has lp (mk x) (if i1 ≤ N1 then (List.range i1).map G1 else [])
  h2 : Has lp (mk y) (if i2 ≤ N2 then (List.range i2).map G2 else [])
  len : lp.length = one N1 i1 + one N2 i2
  l1 : i1 ≤ N1 + 1
  l2 : i2 ≤ N2 + 1
  la : la ≤ (i1 : Int) + (i2 : Int)
  t0 : 0 ≤ tu
  t1 : tu ≤ (i1 : Int) + (i2 : Int)
  row : RW W w7.heap.size vg got
  far : ∀ q ∈ lp, ∀ k, q.v.ownBlock = some k → vg.ownBlock ≠ some k
  gt : Got x y c1 c2 got
  tr : Turn (FB w7.heap.size B M) w7 W
theorem MX.swap {w7 W : World} {B M : Nat} {x y : Pk} {G1 G2 : Nat → Pk} {N1 N2 i1 i2 : Nat} {c1 c2 : Bool} {vg : Value} {got : List Pk} {la tu : Int} {lp : List Pile} (h : MX w7 W B M x y G1 G2 N1 N2 i1 i2 c1 c2 vg got la tu lp) : MX w7 W B M y x G2 G1 N2 N1 i2 i1 c2 c1 vg got la tu lp :=
  ⟨h.bx, h.h2, h.h1, by rw [h.len, Nat.add_comm], h.l2, h.l1, by have := h.la; omega, h.t0, by have := h.t1; omega, h.row, h.far, h.gt.swap, h.tr⟩
theorem MX.later {w7 W W' : World} {B M : Nat} {x y : Pk} {G1 G2 : Nat → Pk} {N1 N2 i1 i2 : Nat} {c1 c2 : Bool} {vg : Value} {got : List Pk} {la tu : Int} {lp : List Pile} (h : MX w7 W B M x y G1 G2 N1 N2 i1 i2 c1 c2 vg got la tu lp) (hb : Below W.heap.size W W') : MX w7 W' B M x y G1 G2 N1 N2 i1 i2 c1 c2 vg got la tu lp :=
  ⟨h.bx.later hb, h.h1, h.h2, h.len, h.l1, h.l2, h.la, h.t0, h.t1, h.row.later hb, h.far, h.gt, h.tr.later hb⟩
theorem MX.small {w7 W : World} {B M : Nat} {x y : Pk} {G1 G2 : Nat → Pk} {N1 N2 i1 i2 : Nat} {c1 c2 : Bool} {vg : Value} {got : List Pk} {la tu : Int} {lp : List Pile} (h : MX w7 W B M x y G1 G2 N1 N2 i1 i2 c1 c2 vg got la tu lp) : lp.length ≤ 2 := by
  rw [h.len]
  unfold one
  split <;> split <;> omega
/-- A call of Take turns neither the row of what came, nor what is older than the loop. -/
theorem MX.call {w7 W W' : World} {B M : Nat} {x y : Pk} {G1 G2 : Nat → Pk} {N1 N2 i1 i2 : Nat} {c1 c2 : Bool} {vg : Value} {got : List Pk} {la tu : Int} {lp lp' : List Pile} (h : MX w7 W B M x y G1 G2 N1 N2 i1 i2 c1 c2 vg got la tu lp) (ht : Turn (FL B M lp) W W') (hl : Locs W lp lp') : RW W' w7.heap.size vg got ∧ (∀ q ∈ lp', ∀ k, q.v.ownBlock = some k → vg.ownBlock ≠ some k) ∧ Turn (FB w7.heap.size B M) w7 W' := by
  refine ⟨h.row.turn ht (fun k hk e => ?_), fun q hq k hk e => ?_, h.tr.trans (ht.mono (fun k e => fl_fb h.bx k e))⟩
  · have h1 := h.row.ge k hk
    have h2 := h.bx.bR
    have h3 := h.bx.mR
    rcases e with e | e | ⟨q, hq, e⟩
    · omega
    · omega
    · exact h.far q hq k e hk
  · rcases hl q hq k hk with ⟨q', hq', e'⟩ | h1
    · exact h.far q' hq' k e' e
    · have := h.row.lt k e; omega
theorem MX.more {w7 W : World} {B M : Nat} {x y : Pk} {G1 G2 : Nat → Pk} {N1 N2 i1 i2 : Nat} {c1 c2 : Bool} {vg : Value} {got : List Pk} {la tu : Int} {lp : List Pile} (h : MX w7 W B M x y G1 G2 N1 N2 i1 i2 c1 c2 vg got la tu lp) (hP : PY x G1 N1) (hne : Ytcjhniehbafhpaa.mk y ≠ Ytcjhniehbafhpaa.mk x) (hN1 : N1 < 60) (hN2 : N2 < 60) (hi : i1 < N1) :
    Calls Try.prog 13 #[.pointer (some ⟨B, 0, none⟩), .agg #[.int .i64 (G1 i1).f, .int .i64 (G1 i1).t, .int .i64 (G1 i1).tl, .int .i64 (G1 i1).pr, .int .i64 (G1 i1).id, .int .i64 (G1 i1).fr, .bool (G1 i1).mo, .bool (G1 i1).dn, .string (G1 i1).op, .string (G1 i1).da], .int .i64 ((i1 : Int) + (i2 : Int))] W fun e W' => e = .returned (.tuple #[.agg #[.int .i64 0, .int .i64 0, .int .i64 0, .int .i64 0, .int .i64 0, .int .i64 0, .bool false, .bool false, .string ⟨#[]⟩, .string ⟨#[]⟩], .bool false, .int .i64 0]) ∧ ∃ la' tu' lp', MX w7 W' B M x y G1 G2 N1 N2 (i1 + 1) i2 c1 c2 vg got la' tu' lp' := by
  have hH := h.h1
  rw [if_pos (by omega)] at hH
  have hl1 := h.l1
  have hl2 := h.l2
  have ht0 := h.t0
  have ht1 := h.t1
  have hla := h.la
  refine (hP.more hi h.bx hH (by have := h.small; omega) (by decide) ht0 (by omega) _ hla (by omega)).mono ?_
  rintro e W' ⟨rfl, ⟨l', tu', hB', hH', hlen, u0, u1, hot, hlo⟩, ht⟩
  obtain ⟨r1, r2, r3⟩ := h.call ht hlo
  refine ⟨rfl, _, tu', l', ⟨hB', by rw [if_pos (by omega)]; exact hH', hot _ _ hne h.h2, ?_, by omega, hl2, by omega, by omega, by omega, r1, r2, h.gt, r3⟩⟩
  rw [hlen, h.len]
  unfold one
  by_cases e : i1 = 0
  · subst e
    simp
    split <;> split <;> omega
  · simp [e]
    split <;> split <;> omega
theorem MX.done {w7 W : World} {B M : Nat} {x y : Pk} {G1 G2 : Nat → Pk} {N1 N2 i1 i2 : Nat} {c1 c2 : Bool} {vg : Value} {got : List Pk} {la tu : Int} {lp : List Pile} (h : MX w7 W B M x y G1 G2 N1 N2 i1 i2 c1 c2 vg got la tu lp) (hP : PY x G1 N1) (hne : Ytcjhniehbafhpaa.mk y ≠ Ytcjhniehbafhpaa.mk x) (hN1 : N1 < 60) (hN2 : N2 < 60) (hi : i1 = N1) :
    Calls Try.prog 13 #[.pointer (some ⟨B, 0, none⟩), .agg #[.int .i64 (G1 i1).f, .int .i64 (G1 i1).t, .int .i64 (G1 i1).tl, .int .i64 (G1 i1).pr, .int .i64 (G1 i1).id, .int .i64 (G1 i1).fr, .bool (G1 i1).mo, .bool (G1 i1).dn, .string (G1 i1).op, .string (G1 i1).da], .int .i64 ((i1 : Int) + (i2 : Int))] W fun e W' => e = .returned (.tuple #[.agg #[.int .i64 x.f, .int .i64 x.t, .int .i64 x.tl, .int .i64 x.pr, .int .i64 x.id, .int .i64 x.fr, .bool x.mo, .bool x.dn, .string x.op, .string x.da], .bool true, .int .i64 0]) ∧ ∃ la' tu' lp', MX w7 W' B M x y G1 G2 N1 N2 (i1 + 1) i2 c1 c2 vg got la' tu' lp' := by
  have hH := h.h1
  rw [if_pos (by omega)] at hH
  have hl1 := h.l1
  have hl2 := h.l2
  have ht0 := h.t0
  have ht1 := h.t1
  have hla := h.la
  subst hi
  refine (hP.done h.bx hH _ hla (by omega)).mono ?_
  rintro e W' ⟨rfl, ⟨l', hB', hH', hlen, hot, hlo⟩, ht⟩
  obtain ⟨r1, r2, r3⟩ := h.call ht hlo
  refine ⟨rfl, _, _, l', ⟨hB', by rw [if_neg (by omega)]; exact hH', hot _ _ hne h.h2, ?_, by omega, hl2, by omega, by omega, by omega, r1, r2, h.gt, r3⟩⟩
  have hl := h.len
  unfold one at *
  rw [hl] at hlen
  by_cases e : i1 = 0
  · subst e
    simp at hlen ⊢
    omega
  · simp [e] at hlen ⊢
    split at hlen <;> split at hlen <;> (try split) <;> omega
theorem MX.app {w7 W W' : World} {B M : Nat} {x y : Pk} {G1 G2 : Nat → Pk} {N1 N2 i1 i2 : Nat} {c2 : Bool} {vg vg' : Value} {got : List Pk} {la tu : Int} {lp : List Pile} (h : MX w7 W B M x y G1 G2 N1 N2 i1 i2 false c2 vg got la tu lp) (hr : RW W' w7.heap.size vg' (got ++ [x])) (ht : Turn (fun k => vg.ownBlock = some k) W W') (hv : ∀ k, vg'.ownBlock = some k → vg.ownBlock = some k ∨ W.heap.size ≤ k) : MX w7 W' B M x y G1 G2 N1 N2 i1 i2 true c2 vg' (got ++ [x]) la tu lp := by
  have hbR := h.bx.bR
  have hmR := h.bx.mR
  refine ⟨h.bx.turn ht (fun e => by have := h.row.ge _ e; omega) (fun e => by have := h.row.ge _ e; omega) (fun q hq k hk e => h.far q hq k hk e), h.h1, h.h2, h.len, h.l1, h.l2, h.la, h.t0, h.t1, hr, fun q hq k hk e => ?_, h.gt.app, h.tr.trans (ht.mono (fun k e => Or.inr (Or.inr (h.row.ge k e))))⟩
  rcases hv k e with h1 | h1
  · exact h.far q hq k hk h1
  · have := (h.bx.ok q hq).row.lt k hk
    omega
theorem MX.fin {w7 W : World} {B M : Nat} {x y : Pk} {G1 G2 : Nat → Pk} {N1 N2 : Nat} {c1 c2 : Bool} {vg : Value} {got : List Pk} {la tu : Int} {lp : List Pile} (h : MX w7 W B M x y G1 G2 N1 N2 (N1 + 1) (N2 + 1) c1 c2 vg got la tu lp) : lp = [] := by
  have := h.len
  unfold one at this
  rw [if_neg (by omega), if_neg (by omega)] at this
  exact List.length_eq_zero_iff.1 this
theorem len_q {w : World} {R B M : Nat} {ro pa la tu : Int} (h : BX w R B M ro pa la tu []) : Calls Try.prog 15 #[.pointer (some ⟨B, 0, none⟩)] w fun e w' => e = .returned (.int .i64 0) ∧ ∃ q, w' = w.drewN q := (len_any h).mono fun _ _ ⟨h, k⟩ => ⟨h, 0, k⟩
end Go.Proofs.Ytcjhniehbafhpaa
