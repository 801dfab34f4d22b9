/- Port, Down and New. -/
import Derived.Test.YtajknafmlghcgaaBe
namespace Go.Proofs.Ytajknafmlghcgaa
open Go.RowKit Go.Maps
set_option maxRecDepth 100000
set_option linter.unusedVariables false
set_option linter.unusedSimpArgs false

theorem lk_ok {w : World} {M : Nat} {l : List En} (hM : Lrn w M l) {k p t : Int} (h : lk l k = some (p, t)) : okH p t := (hM.2.2 _ (lk_mem h)).2
set_option maxHeartbeats 1000000 in
theorem port_any (B M : Nat) (po ag ro la : Int) (k now : Int) (l : List En) (w : World) (hB : At w B (brV po ag ro la M)) (hM : Lrn w M l) (hg0 : 1 ≤ ag) (hg1 : ag ≤ 1048576) (hk : (Lit.int .i64 k).wf = true) :
    Calls Try.prog 17 #[.pointer (some ⟨B, 0, none⟩), .int .i64 k, .int .i64 now] w fun e w' => e = .returned (.tuple #[.int .i64 (portL l ag k now).1, .bool (portL l ag k now).2]) ∧ Below w.heap.size w w' := by
  have c4 : w.cell? ⟨B, 4, none⟩ = some (.map (some M)) := (hB.2 4 _ rfl).1
  go_enter Try.func17, Try.ntmps17
  go_upto_region 1 with fail
  go_wp2_with (first
    | (at_lookup; refine wpList_lookup_h rfl _ _ rfl M l k hk rfl hM rfl ?_; intro p0 t0 hpt; cases hq : lk l k)
    | (go_at_call 27; fail))
  · have hL : portL l ag k now = (0, false) := by unfold portL; rw [hq]
    go_ret2
    rw [hL]
    exact ⟨rfl, bel1 w _⟩
  · replace hq : lk l k = some (p0, t0) := by rw [hq] at hpt ⊢; exact congrArg some hpt
    have hb1 := bel1 w (.cells #[.int .i64 p0, .int .i64 t0] 65)
    have hB1 := hB.later hb1
    have hH := At.box w #[.int .i64 p0, .int .i64 t0] 65
    refine (old_any B po ag ro la M p0 t0 now _ hB1 (lk_ok hM hq) hg0 hg1).mono ?_
    rintro e w2 ⟨rfl, hb2⟩
    have d0 : w2.cell? ⟨w.heap.size, 0, none⟩ = some (.int .i64 p0) := ((hH.later hb2).2 0 _ rfl).1
    by_cases ho : t0 + ag ≤ now
    · have hL : portL l ag k now = (0, false) := by unfold portL; rw [hq]; simp [ho]
      rw [decide_eq_true ho]
      go_wp2
      go_ret2
      rw [hL]
      exact ⟨rfl, bt hb1 hb2⟩
    · have hL : portL l ag k now = (p0, true) := by unfold portL; rw [hq]; simp [ho]
      rw [decide_eq_false ho]
      go_wp2
      go_ret2
      rw [hL]
      exact ⟨rfl, bt hb1 hb2⟩
def hasP (po port : Int) : Bool := decide (0 ≤ port) && decide (port < po)
theorem down_t (B M : Nat) (po ag ro la : Int) (port : Int) (l : List En) (w : World) (hB : At w B (brV po ag ro la M)) (hM : Lrn w M l) (hg0 : 1 ≤ ag) (hg1 : ag ≤ 1048576) (hp : hasP po port = true) :
    Calls Try.prog 11 #[.pointer (some ⟨B, 0, none⟩), .int .i64 port] w fun e w' => e = .returned (.int .i64 0) ∧ Lrn w' M (l.filter (fun e => !(e.2.1 == port))) ∧ Turn (fun k => k = M) w w' := by
  have hb1 := bel1 w (.cells #[.int .i64 port] 3)
  have hB1 := hB.later hb1
  have hM1 := hM.later hb1
  have d0 : (w.alloc (.cells #[.int .i64 port] 3)).cell? ⟨w.heap.size, 0, none⟩ = some (.int .i64 port) := ((At.box w #[.int .i64 port] 3).2 0 _ rfl).1
  have hmf : ∀ (fn : Fn) (first cap : Array Value) (w : World), (Instr.makeFunc fn first cap).run Try.prog w = .ok (.func fn first cap) w := fun _ _ _ _ => rfl
  go_enter Try.func11, Try.ntmps11
  go_upto_region 1 with fail
  generalize w.alloc (.cells #[.int .i64 port] 3) = w1 at *
  go_wp2_with fail
  refine (has_any B po ag ro la M port w1 hB1).mono ?_
  rintro e w2 ⟨rfl, rfl⟩
  rw [show (decide (0 ≤ port) && decide (port < po)) = hasP po port from rfl, hp]
  go_wp2_with fail
  refine (forget_down B M w.heap.size po ag ro la port l _ hB1 hM1 hg0 hg1 d0).mono ?_
  rintro e w3 ⟨rfl, hM3, ht⟩
  go_wp2
  go_ret
  exact ⟨rfl, hM3, (Turn.of_below hb1).trans ht⟩
theorem down_f (B M : Nat) (po ag ro la : Int) (port : Int) (l : List En) (w : World) (hB : At w B (brV po ag ro la M)) (hM : Lrn w M l) (hg0 : 1 ≤ ag) (hg1 : ag ≤ 1048576) (hp : hasP po port = false) :
    Calls Try.prog 11 #[.pointer (some ⟨B, 0, none⟩), .int .i64 port] w fun e w' => e = .returned (.int .i64 100) ∧ Below w.heap.size w w' := by
  have hb1 := bel1 w (.cells #[.int .i64 port] 3)
  have hB1 := hB.later hb1
  have hM1 := hM.later hb1
  have d0 : (w.alloc (.cells #[.int .i64 port] 3)).cell? ⟨w.heap.size, 0, none⟩ = some (.int .i64 port) := ((At.box w #[.int .i64 port] 3).2 0 _ rfl).1
  have hmf : ∀ (fn : Fn) (first cap : Array Value) (w : World), (Instr.makeFunc fn first cap).run Try.prog w = .ok (.func fn first cap) w := fun _ _ _ _ => rfl
  go_enter Try.func11, Try.ntmps11
  go_upto_region 1 with fail
  generalize w.alloc (.cells #[.int .i64 port] 3) = w1 at *
  go_wp2_with fail
  refine (has_any B po ag ro la M port w1 hB1).mono ?_
  rintro e w2 ⟨rfl, rfl⟩
  rw [show (decide (0 ≤ port) && decide (port < po)) = hasP po port from rfl, hp]
  go_wp2
  go_ret
  exact ⟨rfl, hb1⟩
def newOk (po ag ro : Int) : Bool := decide ((1 ≤ po ∧ po ≤ 16) ∧ (1 ≤ ag ∧ ag ≤ 1048576) ∧ (1 ≤ ro ∧ ro ≤ 1024))
set_option maxHeartbeats 1000000 in
theorem new_t (po ag ro : Int) (w : World) (h : newOk po ag ro = true) :
    Calls Try.prog 7 #[.int .i64 po, .int .i64 ag, .int .i64 ro] w fun e w' => ∃ B M, e = .returned (.tuple #[.pointer (some ⟨B, 0, none⟩), .int .i64 0]) ∧ w.heap.size ≤ B ∧ w.heap.size ≤ M ∧ At w' B (brV po ag ro 0 M) ∧ Lrn w' M [] ∧ Below w.heap.size w w' := by
  have h' := of_decide_eq_true h
  have hmm := @run_makeMap Try.prog
  obtain ⟨⟨a0, a1⟩, ⟨b0, b1⟩, c0, c1⟩ := h'
  go_enter Try.func7, Try.ntmps7
  go_wp2
  go_ret2
  have hb1 := bel1 w (.map #[] 0)
  have hb2 := bel1 (w.alloc (.map #[] 0)) (.cells #[.int .i64 po, .int .i64 ag, .int .i64 ro, .int .i64 0, .map (some w.heap.size)] 58)
  have hA := At.box (w.alloc (.map #[] 0)) #[.int .i64 po, .int .i64 ag, .int .i64 ro, .int .i64 0, .map (some w.heap.size)] 58
  have hM0 : Lrn (w.alloc (.map #[] 0)) w.heap.size [] := ⟨World.ownsMap_made _ _ _ _, List.Pairwise.nil, fun e he => by cases he⟩
  rw [show (w.alloc (.map #[] 0)).heap.size = w.heap.size + 1 by simp] at hA
  exact ⟨w.heap.size + 1, w.heap.size, rfl, Nat.le_succ _, Nat.le_refl _, hA, hM0.later hb2, bt hb1 hb2⟩
theorem new_f (po ag ro : Int) (w : World) (h : newOk po ag ro = false) :
    Calls Try.prog 7 #[.int .i64 po, .int .i64 ag, .int .i64 ro] w fun e w' => e = .returned (.tuple #[.pointer none, .int .i64 1]) ∧ w' = w := by
  have h' := of_decide_eq_false h
  go_enter Try.func7, Try.ntmps7
  by_cases a0 : po < 1
  · go_wp2
    go_ret2
    exact ⟨rfl, rfl⟩
  · by_cases a1 : 16 < po
    · go_wp2
      go_ret2
      exact ⟨rfl, rfl⟩
    · by_cases b0 : ag < 1
      · go_wp2
        go_ret2
        exact ⟨rfl, rfl⟩
      · by_cases b1 : 1048576 < ag
        · go_wp2
          go_ret2
          exact ⟨rfl, rfl⟩
        · by_cases c0 : ro < 1
          · go_wp2
            go_ret2
            exact ⟨rfl, rfl⟩
          · have c1 : 1024 < ro := by omega
            go_wp2
            go_ret2
            exact ⟨rfl, rfl⟩
end Go.Proofs.Ytajknafmlghcgaa
