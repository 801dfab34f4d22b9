/- learn: an address that is known, or for which there is room, is kept with its port and tick. -/
import Derived.Test.YtajknafmlghcgaaBc
import Derived.RegionTactic
import Derived.BigQuiet
namespace Go.Proofs.Ytajknafmlghcgaa
open Go.RowKit Go.Maps
set_option maxRecDepth 100000
set_option linter.unusedVariables false
set_option linter.unusedSimpArgs false

def learnL (ro : Int) (l : List En) (e : En) : List En := if (lk l e.1).isSome || decide ((l.length : Int) < ro) then putL l e else l
theorem Lrn.block {w : World} {M : Nat} {l : List En} (h : Lrn w M l) : ∃ es clock, w.heap[M]? = some (.map es clock) ∧ es.size = l.length := by
  obtain ⟨⟨es, clock, hb, F, hn, hD⟩, -⟩ := h
  refine ⟨es, clock, hb, ?_⟩
  have h2 := congrArg Maps.size hD
  rw [size_toD, size_eq, length_sorted] at h2
  simpa using h2.symm
theorem Lrn.store {w : World} {M : Nat} {l : List En} (h : Lrn w M l) {e : En} (he : okE e) (hn : l.length < 5000) :
    ∃ w', (Instr.mapUpdate 56 (.map (some M)) (.int .i64 e.1) (.agg #[.int .i64 e.2.1, .int .i64 e.2.2])).run Try.prog w = .ok () w' ∧ Lrn w' M (putL l e) ∧ w.grownBy w' (some M) := by
  obtain ⟨w', hrun, r1, r2⟩ := h.1.store law3 Try.underlying56 (by unfold maxLen; omega) (keyOf_int_mk Try.underlying3 he.1) (hElem_mk he.2)
  have h1 : w'.ownsMap Try.prog 3 hElem M (l.length + 1) (toD (putL l e)) := by
    rw [← put_toD]
    exact r1
  exact ⟨w', hrun, ⟨owns_len h1, rise_of h1, okE_put he h.2.2⟩, r2.grown⟩
set_option maxHeartbeats 1000000 in
theorem learn_any (B M : Nat) (po ag ro la : Int) (k port now : Int) (l : List En) (w : World) (hB : At w B (brV po ag ro la M)) (hM : Lrn w M l) (he : okE (k, port, now)) (hn : l.length < 5000) :
    Calls Try.prog 28 #[.pointer (some ⟨B, 0, none⟩), .int .i64 k, .agg #[.int .i64 port, .int .i64 now]] w fun e w' => e = .returned (.tuple #[]) ∧ Lrn w' M (learnL ro l (k, port, now)) ∧ Turn (fun j => j = M) w w' := by
  have hb0 := bel1 w (.cells #[.int .i64 port, .int .i64 now] 65)
  have hM0 := hM.later hb0
  have hB0 := hB.later hb0
  have hH0 := At.box w #[.int .i64 port, .int .i64 now] 65
  have c4 : (w.alloc (.cells #[.int .i64 port, .int .i64 now] 65)).cell? ⟨B, 4, none⟩ = some (.map (some M)) := (hB0.2 4 _ rfl).1
  go_enter Try.func28, Try.ntmps28
  go_upto_region 1 with fail
  generalize w.alloc (.cells #[.int .i64 port, .int .i64 now] 65) = w1 at *
  go_wp2_with (first
    | (at_lookup; refine wpList_lookup_h rfl _ _ rfl M l k he.1 rfl hM0 rfl ?_; intro p0 t0 hpt)
    | go_in)
  have hb1 := bel1 w1 (.cells #[.int .i64 p0, .int .i64 t0] 65)
  have hM1 := hM0.later hb1
  have hB1 := hB0.later hb1
  have hH1 := hH0.later hb1
  generalize w1.alloc (.cells #[.int .i64 p0, .int .i64 t0] 65) = w2 at *
  have d2 : w2.cell? ⟨B, 2, none⟩ = some (.int .i64 ro) := (hB1.2 2 _ rfl).1
  have d4 : w2.cell? ⟨B, 4, none⟩ = some (.map (some M)) := (hB1.2 4 _ rfl).1
  have e0 : w2.cell? ⟨w.heap.size, 0, none⟩ = some (.int .i64 port) := (hH1.2 0 _ rfl).1
  have e1 : w2.cell? ⟨w.heap.size, 1, none⟩ = some (.int .i64 now) := (hH1.2 1 _ rfl).1
  obtain ⟨es, clock, hh, hsz⟩ := hM1.block
  have u1 := Try.underlying56
  have hlen : ∀ (n : Nat) (ty : TypeId), (Builtin.len_ #[56] ty #[.map (some M)]).run Try.prog (w2.drewN n) = .ok (.int .i64 l.length) (w2.drewN n) := fun n ty => by
    have h1 : (w2.drewN n).ownsMap Try.prog 3 hElem M l.length (toD l) := hM1.1
    have := h1.len Try.underlying56 ty
    rwa [size_toD] at this
  obtain ⟨W3, hW3⟩ : ∃ W3 : Nat → World, ∀ n, (Instr.mapUpdate 56 (.map (some M)) (.int .i64 k) (.agg #[.int .i64 port, .int .i64 now])).run Try.prog (w2.drewN n) = .ok () (W3 n) ∧ Lrn (W3 n) M (putL l (k, port, now)) ∧ (w2.drewN n).grownBy (W3 n) (some M) :=
    Classical.axiomOfChoice fun n => Lrn.store (w := w2.drewN n) (e := (k, port, now)) hM1 he hn
  have hrun := fun n => (hW3 n).1
  have hfin : ∀ n, Lrn (W3 n) M (putL l (k, port, now)) ∧ Turn (fun j => j = M) w (W3 n) := fun n => ⟨(hW3 n).2.1, (Turn.of_below (bt hb0 (below_drewN hb1 n))).and (hW3 n).2.2 (fun j h => by cases h; exact Or.inl rfl)⟩
  clear hW3
  cases hq : (lk l k).isSome with
  | true =>
    have hL : learnL ro l (k, port, now) = putL l (k, port, now) := by unfold learnL; rw [hq]; rfl
    go_quiet (fail)
    go_upto_region 3 with fail
    go_region
    all_goals go_end0
    all_goals (refine ⟨rfl, ?_⟩; rw [hL]; exact hfin _)
  | false =>
    by_cases hr : (l.length : Int) < ro
    · have hL : learnL ro l (k, port, now) = putL l (k, port, now) := by unfold learnL; rw [decide_eq_true hr, Bool.or_true]; rfl
      go_quiet (fail)
      go_upto_region 3 with fail
      go_region
      all_goals go_end0
      all_goals (refine ⟨rfl, ?_⟩; rw [hL]; exact hfin _)
    · have hL : learnL ro l (k, port, now) = l := by unfold learnL; rw [hq, decide_eq_false hr]; rfl
      go_quiet (fail)
      go_wp2
      go_end0
      exact ⟨rfl, hM1, (Turn.of_below (bt hb0 (below_drewN hb1 _)))⟩
end Go.Proofs.Ytajknafmlghcgaa
