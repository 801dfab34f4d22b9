/- BridgeRoads, walked. -/
import Derived.Test.YtajknafmlghcgaaBn
import Derived.Deep.Cut
import Derived.Deep.CutRange
import Derived.Deep.RegionWith
import Derived.BigRegion
import Derived.Deep.LoopGhost
namespace Go.Proofs.Ytajknafmlghcgaa
open Go.RowKit Go.Maps
set_option maxRecDepth 100000
set_option linter.unusedVariables false
set_option linter.unusedSimpArgs false

/-- What the two maps of the statement hold, and what the bridge has learnt. -/
def Agrees (l : List En) (gh ga : Int → Option Int) (now : Int) : Prop :=
  (∀ x p t, lk l x = some (p, t) → gh x = some p ∧ ga x = some t) ∧ (∀ x, lk l x = none → ∀ t, ga x = some t → t + 20 ≤ now) ∧ ∀ x t, ga x = some t → 0 ≤ t ∧ t ≤ now
theorem Agrees.mono {l : List En} {gh ga : Int → Option Int} {now now' : Int} (h : Agrees l gh ga now) (hn : now ≤ now') : Agrees l gh ga now' :=
  ⟨h.1, fun x hx t ht => by have := h.2.1 x hx t ht; omega, fun x t ht => by have := h.2.2 x t ht; omega⟩
theorem lk_put {l : List En} {e : En} (hr : Rise (putL l e)) : lk (putL l e) e.1 = some e.2 := lk_of_mem hr (mem_ins.2 (Or.inl rfl))
theorem Agrees.nil : Agrees [] (fun _ => none) (fun _ => none) 0 := ⟨fun x p t h => by simp [lk] at h, fun x h t ht => by simp at ht, fun x t ht => by simp at ht⟩
theorem lk_put_other {l : List En} {e : En} (hr : Rise (putL l e)) (hl : Rise l) {x : Int} (hx : x ≠ e.1) : lk (putL l e) x = lk l x := by
  cases hq : lk l x with
  | some c =>
    have hm := lk_mem (p := c.1) (t := c.2) hq
    exact lk_of_mem hr (mem_ins.2 (Or.inr (List.mem_filter.2 ⟨hm, by simpa using hx⟩)))
  | none =>
    cases hq2 : lk (putL l e) x with
    | none => rfl
    | some c =>
      have hm := lk_mem (p := c.1) (t := c.2) hq2
      rcases mem_ins.1 hm with h | h
      · exact absurd (congrArg Prod.fst h) hx
      · rw [lk_of_mem hl (List.mem_filter.1 h).1] at hq
        cases hq
theorem lk_old {l : List En} (hl : Rise l) (ag now : Int) (x : Int) : lk (oldL ag now l) x = match lk l x with | some (p, t) => if t + ag ≤ now then none else some (p, t) | none => none := by
  have hr : Rise (oldL ag now l) := List.Pairwise.filter _ hl
  cases hq : lk l x with
  | none =>
    cases hq2 : lk (oldL ag now l) x with
    | none => rfl
    | some c =>
      have hm := lk_mem (p := c.1) (t := c.2) hq2
      rw [lk_of_mem hl (List.mem_filter.1 hm).1] at hq
      cases hq
  | some c =>
    obtain ⟨p, t⟩ := c
    have hm := lk_mem hq
    simp only
    by_cases h : t + ag ≤ now
    · rw [if_pos h]
      cases hq2 : lk (oldL ag now l) x with
      | none => rfl
      | some c =>
        have hm2 := List.mem_filter.1 (lk_mem (p := c.1) (t := c.2) hq2)
        have := uniq hl hm2.1 hm rfl
        cases this
        simp [h] at hm2
    · rw [if_neg h]
      exact lk_of_mem hr (List.mem_filter.2 ⟨hm, by simp [h]⟩)
theorem Agrees.learn {l : List En} {gh ga : Int → Option Int} {now fd port : Int} (h : Agrees l gh ga now) (hl : Rise l) (hr : Rise (putL (oldL 20 now l) (fd, port, now))) (hn : 0 ≤ now) :
    Agrees (putL (oldL 20 now l) (fd, port, now)) (fun x => if x = fd then some port else gh x) (fun x => if x = fd then some now else ga x) now := by
  have ho : Rise (oldL 20 now l) := List.Pairwise.filter _ hl
  refine ⟨fun x p t hx => ?_, fun x hx t ht => ?_, fun x t ht => ?_⟩
  · by_cases e : x = fd
    · subst e
      rw [lk_put hr] at hx
      cases hx
      simp
    · rw [lk_put_other hr ho e, lk_old hl] at hx
      simp only [e, if_false]
      cases hq : lk l x with
      | none => rw [hq] at hx; cases hx
      | some c =>
        obtain ⟨p', t'⟩ := c
        rw [hq] at hx
        simp only at hx
        split at hx
        · cases hx
        · cases hx
          exact h.1 x p t hq
  · by_cases e : x = fd
    · subst e
      rw [lk_put hr] at hx
      cases hx
    · rw [lk_put_other hr ho e, lk_old hl] at hx
      simp only [e, if_false] at ht
      cases hq : lk l x with
      | none => exact h.2.1 x hq t ht
      | some c =>
        obtain ⟨p', t'⟩ := c
        rw [hq] at hx
        simp only at hx
        have h1 := (h.1 x p' t' hq).2
        rw [ht] at h1
        cases h1
        split at hx
        · assumption
        · cases hx
  · by_cases e : x = fd
    · simp only [e, if_true] at ht
      cases ht
      omega
    · simp only [e, if_false] at ht
      exact h.2.2 x t ht
/-- Ports to which a frame may go that came in at a port. -/
def Fine (zs : List Int) (port : Int) : Prop := ∀ j, j < zs.length → zs.getD j 0 ≠ port ∧ 0 ≤ zs.getD j 0 ∧ zs.getD j 0 ≤ 3 ∧ (0 < j → zs.getD (j - 1) 0 < zs.getD j 0)
theorem oth_four {port : Int} (h0 : 0 ≤ port) (h1 : port < 4) : (othL port 4).length = 3 ∧ Fine (othL port 4) port := by
  have h : port = 0 ∨ port = 1 ∨ port = 2 ∨ port = 3 := by omega
  rcases h with rfl | rfl | rfl | rfl
  all_goals
    refine ⟨by decide, fun j hj => ?_⟩
    have : j = 0 ∨ j = 1 ∨ j = 2 := by
      have hl : j < 3 := hj
      omega
    rcases this with rfl | rfl | rfl <;> decide
theorem fine_nil (port : Int) : Fine [] port := fun j hj => by simp at hj
theorem fine_one {p port : Int} (h : p ≠ port) (h0 : 0 ≤ p) (h1 : p ≤ 3) : Fine [p] port := fun j hj => by
  have : j = 0 := by simpa using hj
  subst this
  exact ⟨h, h0, h1, fun h => by omega⟩
set_option maxHeartbeats 8000000 in
theorem roads_law (a : Option Addr) (n cap : Nat) (w : World) (hr : Flat.Rows w a n 7 [.i, .i, .i, .i, .i, .i, .s]) (hz : n < 1000000000000000) :
    Calls Try.prog 4 #[.slice a n cap] w fun e w' => e = .returned (.bool true) ∧ Below w.heap.size w w' := by
  have HA : Hid (Flat.Rows w a n 7 [.i, .i, .i, .i, .i, .i, .s]) := hr
  clear hr
  have hmm := @run_makeMap Try.prog
  go_enter Try.func4, Try.ntmps4
  go_wp2_with fail
  refine (new_t 4 20 1024 _ (by decide)).mono ?_
  rintro e w1 ⟨B, M, rfl, hBb, hMb, hA1, hM1, hb2⟩
  go_wp2_with fail
  refine (works_any _).mono ?_
  rintro e w3 ⟨rfl, hb4⟩
  have hBM := ne_of' hA1 rfl hM1
  have hA3 := hA1.later hb4
  have hM3 := hM1.later hb4
  have hb0 := bt hb2 hb4
  have hlB := hA3.1
  have hlM := hM3.1.lt
  have hw3 := hb0.size
  clear hA1 hM1 hb2 hb4
  have q1 := bel1 w3 (.map #[] 0)
  have q2 := bel1 (w3.alloc (.map #[] 0)) (.map #[] 0)
  have hH4 := (IM.made w3).later q2
  have hT4 := IM.made (w3.alloc (.map #[] 0))
  have hA4 := (hA3.later q1).later q2
  have hM4 := (hM3.later q1).later q2
  have hb4 := bt hb0 (bt q1 q2)
  rw [show (w3.alloc (.map #[] 0)).heap.size = w3.heap.size + 1 by simp] at hT4
  have hs4 : w3.heap.size + 2 ≤ ((w3.alloc (.map #[] 0)).alloc (.map #[] 0)).heap.size := by simp
  clear hA3 hM3 q1 q2 hb0
  go_upto_region 5 with fail
  generalize (w3.alloc (.map #[] 0)).alloc (.map #[] 0) = w4 at *
  generalize hK : w3.heap.size = K at *
  clear hK
  go_wp2
  go_loopw [7, 8] (fun s i wr => ∃ (k : Nat) (l : List En) (now : Int) (cc : Nat) (la : Int) (gh ga : Int → Option Int), k ≤ n ∧ k ≤ 60 ∧ i = .int .i64 (k : Int) ∧ s = .int .i64 now ∧ At wr B (brV 4 20 1024 la M) ∧ Lrn wr M l ∧ IM wr K cc gh ∧ IM wr (K + 1) cc ga ∧ Agrees l gh ga now ∧ 0 ≤ la ∧ la ≤ now ∧ now ≤ 9 * (k : Int) ∧ cc ≤ k ∧ l.length ≤ k ∧ (∀ e ∈ l, 0 ≤ e.2.1 ∧ e.2.1 < 4) ∧ Below w.heap.size w wr) (fun _ i _ => n - (intOf i).toNat)
  case atStart => exact ⟨0, [], 0, 0, 0, fun _ => none, fun _ => none, Nat.zero_le _, by decide, rfl, rfl, hA4, hM4, hH4, hT4, Agrees.nil, by decide, by decide, by decide, by decide, by decide, (fun e he => by cases he), hb4⟩
  case round =>
    clear hA4 hM4 hH4 hT4 hb4 hs4
    obtain ⟨k, l, now, cc, la, gh, ga, hkn, hk60, rfl, rfl, hA, hM, hH, hT, hAg, hla0, hla1, hnow, hcc, hlen, hpo, hb⟩ := hrel
    by_cases hlt : k < n ∧ k < 60
    rotate_left
    · go_wp2
      all_goals (go_ret; exact ⟨rfl, hb⟩)
    obtain ⟨ab, off, rfl, hrow⟩ : ∃ b off, a = some ⟨b, off, none⟩ ∧ ∀ k, k < n → ∃ cs : List Value, Flat.Ok [.i, .i, .i, .i, .i, .i, .s] cs ∧ ∀ j v, cs[j]? = some v → w.cell? ⟨b, off + k * 7 + j, none⟩ = some v := by
      rcases HA.out with h | h
      · omega
      · exact h
    obtain ⟨cs, ⟨hcl, hck⟩, hcc0⟩ := hrow k hlt.1
    clear hrow
    match cs, hcl with
    | [v0, v1, v2, v3, v4, v5, v6], _ =>
    obtain ⟨kd, rfl, wkd⟩ := hck 0 _ _ rfl rfl
    obtain ⟨pt, rfl, wpt⟩ := hck 1 _ _ rfl rfl
    obtain ⟨ni, rfl, wnw⟩ := hck 2 _ _ rfl rfl
    obtain ⟨td, rfl, wtd⟩ := hck 3 _ _ rfl rfl
    obtain ⟨fd, rfl, wfd⟩ := hck 4 _ _ rfl rfl
    obtain ⟨ty, rfl, wty⟩ := hck 5 _ _ rfl rfl
    obtain ⟨da, rfl, wda⟩ := hck 6 _ _ rfl rfl
    have x0 := later hb (hcc0 0 _ rfl)
    have x1 := later hb (hcc0 1 _ rfl)
    have x2 := later hb (hcc0 2 _ rfl)
    have x3 := later hb (hcc0 3 _ rfl)
    have x4 := later hb (hcc0 4 _ rfl)
    have x5 := later hb (hcc0 5 _ rfl)
    have x6 := later hb (hcc0 6 _ rfl)
    rw [Nat.add_zero] at x0
    clear hcc0 hck
    have hdM : da.size ≤ maxLen := by unfold maxLen; omega
    have hk1 : (k : Int) < (n : Int) := by omega
    have hk2 : (k : Int) < 60 := by omega
    have hk3 : (0 : Int) ≤ (k : Int) := by omega
    have q1 := bel1 wr (.cells #[.int .i64 kd, .int .i64 pt, .int .i64 ni, .int .i64 td, .int .i64 fd, .int .i64 ty, .string da] 36)
    have hAct := At.box wr #[.int .i64 kd, .int .i64 pt, .int .i64 ni, .int .i64 td, .int .i64 fd, .int .i64 ty, .string da] 36
    have hKw : K + 1 < wr.heap.size := hT.lt
    go_upto_region 10 with fail
    replace hA := hA.later q1
    replace hM := hM.later q1
    replace hH := hH.later q1
    replace hT := hT.later q1
    replace hb := bt hb q1
    obtain ⟨Ab, hAb⟩ : ∃ x, x = wr.heap.size := ⟨_, rfl⟩
    rw [← hAb] at hAct hKw
    rw [← hAb]
    have hsz1 : Ab < (wr.alloc (.cells #[.int .i64 kd, .int .i64 pt, .int .i64 ni, .int .i64 td, .int .i64 fd, .int .i64 ty, .string da] 36)).heap.size := hAct.1
    clear x0 x1 x2 x3 x4 x5 x6 q1 hAb
    generalize wr.alloc (.cells #[.int .i64 kd, .int .i64 pt, .int .i64 ni, .int .i64 td, .int .i64 fd, .int .i64 ty, .string da] 36) = w1 at *
    have a1 : w1.cell? ⟨Ab, 1, none⟩ = some (.int .i64 pt) := (hAct.2 1 _ rfl).1
    have a2 : w1.cell? ⟨Ab, 2, none⟩ = some (.int .i64 ni) := (hAct.2 2 _ rfl).1
    have a3 : w1.cell? ⟨Ab, 3, none⟩ = some (.int .i64 td) := (hAct.2 3 _ rfl).1
    have a4 : w1.cell? ⟨Ab, 4, none⟩ = some (.int .i64 fd) := (hAct.2 4 _ rfl).1
    have a5 : w1.cell? ⟨Ab, 5, none⟩ = some (.int .i64 ty) := (hAct.2 5 _ rfl).1
    have a6 : w1.cell? ⟨Ab, 6, none⟩ = some (.string da) := (hAct.2 6 _ rfl).1
    go_wp2_with fail
    refine (among_any ni 9 w1 (by decide) (by decide)).mono ?_
    rintro e w2 ⟨rfl, rfl⟩
    have hn0 : 0 ≤ ni % 9 := Int.emod_nonneg _ (by decide)
    have hn1 : ni % 9 < 9 := Int.emod_lt_of_pos _ (by decide)
    generalize ni % 9 = dn at *
    go_wp2_with fail
    refine (among_any pt 4 _ (by decide) (by decide)).mono ?_
    rintro e w2 ⟨rfl, rfl⟩
    have hp0 : 0 ≤ pt % 4 := Int.emod_nonneg _ (by decide)
    have hp1 : pt % 4 < 4 := Int.emod_lt_of_pos _ (by decide)
    generalize pt % 4 = port at *
    obtain ⟨now', hnw⟩ : ∃ x, x = now + dn := ⟨_, rfl⟩
    rw [← hnw]
    have hN1 : la ≤ now' := by omega
    have hN2 : now' ≤ 9 * (k : Int) + 8 := by omega
    have hN3 : now ≤ now' := by omega
    clear hnw
    have hAg' := hAg.mono hN3
    have hP : hasP 4 port = true := by unfold hasP; rw [decide_eq_true hp0, decide_eq_true hp1]; rfl
    have hTk : tickB la now' = true := decide_eq_true ⟨hN1, by omega⟩
    cases hmy : mayB td fd ty da.size with
    | false =>
      go_wp2_with fail
      refine (take_3 B M 4 20 1024 la port td fd ty now' da l w2 hA hM hdM hP hTk hmy).mono ?_
      rintro e w5 ⟨rfl, hb5⟩
      replace a3 := later hb5 a3
      replace a4 := later hb5 a4
      replace a5 := later hb5 a5
      replace a6 := later hb5 a6
      go_wp2_with fail
      refine (check_any td fd ty da w5 hdM).mono ?_
      rintro e w6 ⟨rfl, hb6⟩
      rw [hmy, show codeE false = 30 from rfl]
      have hbb := bt hb5 hb6
      have hA6 := hA.later hbb
      have hM6 := hM.later hbb
      have hH6 := hH.later hbb
      have hT6 := hT.later hbb
      have hb6' := bt hb hbb
      clear hA hM hH hT hb
      go_wp2
      go_roundw
      case rel => exact ⟨k + 1, l, now', cc, la, gh, ga, by omega, by omega, by simp, rfl, hA6, hM6, hH6, hT6, hAg', by omega, by omega, by omega, by omega, by omega, hpo, hb6'⟩
      case measure => simp [intOf]; omega
    | true =>
      have hmq := of_decide_eq_true hmy
      go_wp2_with fail
      refine (take_4 B M 4 20 1024 la port td fd ty now' da l w2 hA hM hdM hP hTk hmy (by decide) (by decide) (by decide) (by decide) hla0 (by omega)).mono ?_
      rintro e w5 ⟨u, rfl, hI5, hA5, hM5, ht5⟩
      have hol : (oldL 20 now' l).length ≤ l.length := List.length_filter_le _ _
      have hlr : learnL 1024 (oldL 20 now' l) (fd, port, now') = putL (oldL 20 now' l) (fd, port, now') := by
        unfold learnL
        rw [decide_eq_true (show ((oldL 20 now' l).length : Int) < 1024 by omega), Bool.or_true]
        rfl
      rw [hlr] at hI5 hM5
      have hAg5 := hAg'.learn hM.2.1 hM5.2.1 (by omega)
      have hlen5 : (putL (oldL 20 now' l) (fd, port, now')).length ≤ k + 1 := by have := len_put (l := oldL 20 now' l) (fd, port, now'); omega
      have hpo5 : ∀ e ∈ putL (oldL 20 now' l) (fd, port, now'), 0 ≤ e.2.1 ∧ e.2.1 < 4 := fun e he => by
        rcases mem_ins.1 he with rfl | h
        · exact ⟨hp0, hp1⟩
        · exact hpo e (List.mem_filter.1 (List.mem_filter.1 h).1).1
      have hfr5 : ∀ x p t, lk (putL (oldL 20 now' l) (fd, port, now')) x = some (p, t) → ¬ t + 20 ≤ now' := by
        intro x p t hx
        rcases mem_ins.1 (lk_mem hx) with h | h
        · cases h; omega
        · have := (List.mem_filter.1 (List.mem_filter.1 h).1).2
          simpa using this
      generalize putL (oldL 20 now' l) (fd, port, now') = l5 at *
      have hH5 := hH.turn ht5 (by omega)
      have hT5 := hT.turn ht5 (by omega)
      have hAct5 := hAct.turn ht5 (by omega)
      have hs5 := ht5.size
      have hb5 : Below w.heap.size w w5 := hb.trans (ht5.below hb.size (fun j hj he => by omega))
      obtain ⟨au, cu, rfl, -⟩ := hI5.row
      clear hA hM hH hT hb hAct hAg hAg' a1 a2 hpo hlr
      replace a3 : w5.cell? ⟨Ab, 3, none⟩ = some (.int .i64 td) := (hAct5.2 3 _ rfl).1
      replace a4 : w5.cell? ⟨Ab, 4, none⟩ = some (.int .i64 fd) := (hAct5.2 4 _ rfl).1
      replace a5 : w5.cell? ⟨Ab, 5, none⟩ = some (.int .i64 ty) := (hAct5.2 5 _ rfl).1
      replace a6 : w5.cell? ⟨Ab, 6, none⟩ = some (.string da) := (hAct5.2 6 _ rfl).1
      go_wp2_with fail
      refine (check_any td fd ty da w5 hdM).mono ?_
      rintro e w6 ⟨rfl, hb6⟩
      rw [hmy, show codeE true = 0 from rfl]
      have hH6 := hH5.later hb6
      have hT6 := hT5.later hb6
      have hAct6 := hAct5.later hb6
      have hA6 := hA5.later hb6
      have hM6 := hM5.later hb6
      have hI6 : Ints w6 _ _ _ := hI5.turn (S := fun _ => False) (Turn.of_below hb6) (fun _ _ h => h)
      have hb6' := bt hb5 hb6
      have hwp : (Lit.int .i64 port).wf = true := WalkArith.wf_i64 (by omega)
      have hwn : (Lit.int .i64 now').wf = true := WalkArith.wf_i64 (by omega)
      clear hA5 hM5 hH5 hT5 hAct5 hI5 hb5
      have b3 : w6.cell? ⟨Ab, 3, none⟩ = some (.int .i64 td) := (hAct6.2 3 _ rfl).1
      have b4 : w6.cell? ⟨Ab, 4, none⟩ = some (.int .i64 fd) := (hAct6.2 4 _ rfl).1
      obtain ⟨W3, hW3⟩ : ∃ W3 : Nat → World, ∀ n, (Instr.mapUpdate 48 (.map (some K)) (.int .i64 fd) (.int .i64 port)).run Try.prog (w6.drewN n) = .ok () (W3 n) ∧ IM (W3 n) K (cc + 1) (fun x => if x = fd then some port else gh x) ∧ Turn (fun j => j = K) (w6.drewN n) (W3 n) :=
        Classical.axiomOfChoice fun n => IM.put (w := w6.drewN n) hH6 (by unfold maxLen; omega) wfd hwp
      obtain ⟨W4, hW4⟩ : ∃ W4 : Nat × Nat → World, ∀ p : Nat × Nat, (Instr.mapUpdate 48 (.map (some (K + 1))) (.int .i64 fd) (.int .i64 now')).run Try.prog ((W3 p.1).drewN p.2) = .ok () (W4 p) ∧ IM (W4 p) (K + 1) (cc + 1) (fun x => if x = fd then some now' else ga x) ∧ Turn (fun j => j = K + 1) ((W3 p.1).drewN p.2) (W4 p) :=
        Classical.axiomOfChoice fun (p : Nat × Nat) => IM.put (w := (W3 p.1).drewN p.2) (g := ga) (K := K + 1) (n := cc) (show IM (W3 p.1) (K + 1) cc ga from IM.turn (w := w6.drewN p.1) hT6 (hW3 p.1).2.2 (by omega)) (by unfold maxLen; omega) wfd hwn
      have hr3 := fun n => (hW3 n).1
      have hr4 : ∀ n m, (Instr.mapUpdate 48 (.map (some (K + 1))) (.int .i64 fd) (.int .i64 now')).run Try.prog ((W3 n).drewN m) = .ok () (W4 (n, m)) := fun n m => (hW4 (n, m)).1
      have hc3 : ∀ n, (W3 n).cell? ⟨Ab, 4, none⟩ = some (.int .i64 fd) := fun n => by
        have h1 : At (w6.drewN n) Ab #[.int .i64 kd, .int .i64 pt, .int .i64 ni, .int .i64 td, .int .i64 fd, .int .i64 ty, .string da] := hAct6
        exact ((h1.turn (hW3 n).2.2 (by omega)).2 4 _ rfl).1
      have hfin : ∀ p : Nat × Nat, IM (W4 p) K (cc + 1) (fun x => if x = fd then some port else gh x) ∧ IM (W4 p) (K + 1) (cc + 1) (fun x => if x = fd then some now' else ga x) ∧ At (W4 p) Ab #[.int .i64 kd, .int .i64 pt, .int .i64 ni, .int .i64 td, .int .i64 fd, .int .i64 ty, .string da] ∧ At (W4 p) B (brV 4 20 1024 now' M) ∧ Lrn (W4 p) M l5 ∧ Ints (W4 p) w2.heap.size (.slice au (waysL 4 l5 port td).length cu) (waysL 4 l5 port td) ∧ Below w.heap.size w (W4 p) := fun p => by
        have t1 := (hW3 p.1).2.2
        have t2 := (hW4 p).2.2
        have hx : At (w6.drewN p.1) Ab #[.int .i64 kd, .int .i64 pt, .int .i64 ni, .int .i64 td, .int .i64 fd, .int .i64 ty, .string da] := hAct6
        have hy : At (w6.drewN p.1) B (brV 4 20 1024 now' M) := hA6
        have hz : Lrn (w6.drewN p.1) M l5 := hM6
        have hi : Ints (w6.drewN p.1) w2.heap.size (.slice au (waysL 4 l5 port td).length cu) (waysL 4 l5 port td) := hI6
        have hbd : Below w.heap.size w (w6.drewN p.1) := below_drewN hb6' _
        have hb3 : Below w.heap.size w (W3 p.1) := hbd.trans (t1.below hbd.size (fun j hj he => by omega))
        have hb3' : Below w.heap.size w ((W3 p.1).drewN p.2) := below_drewN hb3 _
        have e1 : IM ((W3 p.1).drewN p.2) K (cc + 1) (fun x => if x = fd then some port else gh x) := (hW3 p.1).2.1
        have e2 : At ((W3 p.1).drewN p.2) Ab #[.int .i64 kd, .int .i64 pt, .int .i64 ni, .int .i64 td, .int .i64 fd, .int .i64 ty, .string da] := (show At (W3 p.1) Ab #[.int .i64 kd, .int .i64 pt, .int .i64 ni, .int .i64 td, .int .i64 fd, .int .i64 ty, .string da] from hx.turn t1 (by omega))
        have e3 : At ((W3 p.1).drewN p.2) B (brV 4 20 1024 now' M) := (show At (W3 p.1) B (brV 4 20 1024 now' M) from hy.turn t1 (by omega))
        have e4 : Lrn ((W3 p.1).drewN p.2) M l5 := (show Lrn (W3 p.1) M l5 from hz.turn t1 (by omega))
        have e5 : Ints ((W3 p.1).drewN p.2) w2.heap.size (.slice au (waysL 4 l5 port td).length cu) (waysL 4 l5 port td) := (show Ints (W3 p.1) w2.heap.size (.slice au (waysL 4 l5 port td).length cu) (waysL 4 l5 port td) from hi.turn t1 (fun j hj he => by omega))
        exact ⟨e1.turn t2 (by omega), (hW4 p).2.1, e2.turn t2 (by omega), e3.turn t2 (by omega), e4.turn t2 (by omega), e5.turn t2 (fun j hj he => by omega), hb3'.trans (t2.below hb3'.size (fun j hj he => by omega))⟩
      have hr3' : (Instr.mapUpdate 48 (.map (some K)) (.int .i64 fd) (.int .i64 port)).run Try.prog w6.drew = .ok () (W3 1) := hr3 1
      have hr4' : (Instr.mapUpdate 48 (.map (some (K + 1))) (.int .i64 fd) (.int .i64 now')).run Try.prog (W3 1) = .ok () (W4 (1, 0)) := hr4 1 0
      have hc3' := hc3 1
      clear hW3 hW4 hr3 hr4 hc3
      go_upto_region 16 with fail
      go_region
      obtain ⟨hH8, hT8, hAct8, hA8, hM8, hI8, hb8⟩ := hfin (1, 0)
      clear hfin hr3' hr4' hc3' hA6 hM6 hH6 hT6 hAct6 hI6
      generalize W4 (1, 0) = w8 at *
      generalize (fun x => if x = fd then some port else gh x) = gH at *
      generalize (fun x => if x = fd then some now' else ga x) = gA at *
      have a3 : w8.cell? ⟨Ab, 3, none⟩ = some (.int .i64 td) := (hAct8.2 3 _ rfl).1
      have hmac : macB td = true := decide_eq_true hmq.1
      have hb89 : Below w8.heap.size w8 w8 := Below.refl _ _
      go_wp2_with fail
      refine (pgroup_any td w8).mono ?_
      rintro e w9 ⟨rfl, rfl⟩
      rw [hmac, Bool.true_and, show codeB true = 0 from rfl]
      have hw4 : waysL 4 l5 port td = match lk l5 td with | some c => if (macB td && grpB td) = true then othL port 4 else if c.1 = port then [] else [c.1] | none => othL port 4 := rfl
      rw [hmac, Bool.true_and] at hw4
      cases hg : grpB td with
      | true =>
        have hW : waysL 4 l5 port td = othL port 4 := by rw [hw4, hg]; cases lk l5 td <;> rfl
        rw [hW] at hI8 ⊢
        obtain ⟨hl3, hF0⟩ := oth_four hp0 hp1
        rw [hl3] at hI8 ⊢
        have hrow : Row w9 au (othL port 4) := row_of hI8
        have hFine : Hid (Fine (othL port 4) port) := hF0
        have hZL : Hid ((othL port 4).length = 3) := hl3
        clear hF0 hl3 hI8 hw4 hW
        generalize othL port 4 = zs at *
        go_upto_region 19 with (first
          | (at_lookup; refine wpList_lookup_im rfl _ _ rfl (K + 1) (cc + 1) gA td wtd rfl hT8 rfl ?_)
          | go_in)
        go_wp2
        go_loopw [171] (fun i wi => ∃ j : Nat, j ≤ 3 ∧ i = .int .i64 (j : Int) ∧ Below w9.heap.size w9 wi) (fun i _ => 3 - (intOf i).toNat)
        case atStart => exact ⟨0, Nat.zero_le _, rfl, Below.refl _ _⟩
        case round =>
          obtain ⟨j, hj, rfl, hbi⟩ := hrel
          by_cases hjl : j < 3
          · have hjl' : j < zs.length := by rw [hZL.out]; exact hjl
            have hF := hFine.out j hjl'
            obtain ⟨b, off, rfl, hc⟩ : ∃ b off, au = some ⟨b, off, none⟩ ∧ ∀ j, j < zs.length → w9.cell? ⟨b, off + j, none⟩ = some (.int .i64 (zs.getD j 0)) := by
              rcases hrow with h | h
              · rw [h] at hjl'; simp at hjl'
              · exact h
            have g0 := later hbi (hc j hjl')
            have hjz : (j : Int) < 3 := by omega
            obtain ⟨f1, f2, f3, f4⟩ := hF
            obtain ⟨z, hz⟩ : ∃ z, zs.getD j 0 = z := ⟨_, rfl⟩
            rw [hz] at g0 f1 f2 f3 f4
            clear hz
            have f1' : (z == port) = false := by simp [f1]
            have f2' : ¬ z < 0 := by omega
            have f3' : ¬ 3 < z := by omega
            by_cases hj0 : 0 < j
            · have g1 := later hbi (hc (j - 1) (by omega))
              have f5 := f4 hj0
              clear f4 hc
              obtain ⟨y, hy⟩ : ∃ y, zs.getD (j - 1) 0 = y := ⟨_, rfl⟩
              rw [hy] at g1 f5
              clear hy hjl'
              have hj0' : (0 : Int) < (j : Int) := by omega
              obtain ⟨i, rfl⟩ : ∃ i : Nat, j = i + 1 := ⟨j - 1, by omega⟩
              rw [show i + 1 - 1 = i by omega] at g1
              have f6 : ¬ z ≤ y := by omega
              have hix : ((i + 1 : Nat) : Int) - 1 = (i : Int) := by omega
              have hix2 : (i : Int) < 3 := by omega
              go_wp2
              go_roundw
              case rel => exact ⟨i + 1 + 1, by omega, by simp, hbi⟩
              case measure => simp [intOf]; omega
            · obtain rfl : j = 0 := by omega
              rw [Nat.add_zero] at g0
              clear f4 hc hjl'
              go_wp2
              go_roundw
              case rel => exact ⟨1, by omega, by simp, hbi⟩
              case measure => simp [intOf]
          · clear hFine
            have hb9 := bt hb89 hbi
            have r1 := hA8.later hb9
            have r2 := hM8.later hb9
            have r3 := hH8.later hb9
            have r4 := hT8.later hb9
            have r5 := bt hb8 hb9
            clear hA8 hM8 hH8 hT8 hb8
            go_wp2
            go_roundw
            case rel => exact ⟨k + 1, l5, now', cc + 1, now', _, _, by omega, by omega, by simp, rfl, r1, r2, r3, r4, hAg5, by omega, by omega, by omega, by omega, hlen5, hpo5, r5⟩
            case measure => simp [intOf]; omega
      | false =>
        rw [hg] at hw4
        cases hq : lk l5 td with
        | none =>
          have hW : waysL 4 l5 port td = othL port 4 := by rw [hw4, hq]
          cases hga : gA td with
          | none =>
            rw [hW] at hI8 ⊢
            obtain ⟨hl3, hF0⟩ := oth_four hp0 hp1
            rw [hl3] at hI8 ⊢
            have hrow : Row w9 au (othL port 4) := row_of hI8
            have hFine : Hid (Fine (othL port 4) port) := hF0
            have hZL : Hid ((othL port 4).length = 3) := hl3
            clear hF0 hl3 hI8 hw4 hW
            generalize othL port 4 = zs at *
            go_upto_region 19 with (first
              | (at_lookup; refine wpList_lookup_im rfl _ _ rfl (K + 1) (cc + 1) gA td wtd rfl hT8 rfl ?_)
              | go_in)
            try rw [hga, Option.getD_none, Option.isSome_none]
            go_wp2
            go_loopw [171] (fun i wi => ∃ j : Nat, j ≤ 3 ∧ i = .int .i64 (j : Int) ∧ Below w9.heap.size w9 wi) (fun i _ => 3 - (intOf i).toNat)
            case atStart => exact ⟨0, Nat.zero_le _, rfl, Below.refl _ _⟩
            case round =>
              obtain ⟨j, hj, rfl, hbi⟩ := hrel
              by_cases hjl : j < 3
              · have hjl' : j < zs.length := by rw [hZL.out]; exact hjl
                have hF := hFine.out j hjl'
                obtain ⟨b, off, rfl, hc⟩ : ∃ b off, au = some ⟨b, off, none⟩ ∧ ∀ j, j < zs.length → w9.cell? ⟨b, off + j, none⟩ = some (.int .i64 (zs.getD j 0)) := by
                  rcases hrow with h | h
                  · rw [h] at hjl'; simp at hjl'
                  · exact h
                have g0 := later hbi (hc j hjl')
                have hjz : (j : Int) < 3 := by omega
                obtain ⟨f1, f2, f3, f4⟩ := hF
                obtain ⟨z, hz⟩ : ∃ z, zs.getD j 0 = z := ⟨_, rfl⟩
                rw [hz] at g0 f1 f2 f3 f4
                clear hz
                have f1' : (z == port) = false := by simp [f1]
                have f2' : ¬ z < 0 := by omega
                have f3' : ¬ 3 < z := by omega
                by_cases hj0 : 0 < j
                · have g1 := later hbi (hc (j - 1) (by omega))
                  have f5 := f4 hj0
                  clear f4 hc
                  obtain ⟨y, hy⟩ : ∃ y, zs.getD (j - 1) 0 = y := ⟨_, rfl⟩
                  rw [hy] at g1 f5
                  clear hy hjl'
                  have hj0' : (0 : Int) < (j : Int) := by omega
                  obtain ⟨i, rfl⟩ : ∃ i : Nat, j = i + 1 := ⟨j - 1, by omega⟩
                  rw [show i + 1 - 1 = i by omega] at g1
                  have f6 : ¬ z ≤ y := by omega
                  have hix : ((i + 1 : Nat) : Int) - 1 = (i : Int) := by omega
                  have hix2 : (i : Int) < 3 := by omega
                  go_wp2
                  go_roundw
                  case rel => exact ⟨i + 1 + 1, by omega, by simp, hbi⟩
                  case measure => simp [intOf]; omega
                · obtain rfl : j = 0 := by omega
                  rw [Nat.add_zero] at g0
                  clear f4 hc hjl'
                  go_wp2
                  go_roundw
                  case rel => exact ⟨1, by omega, by simp, hbi⟩
                  case measure => simp [intOf]
              · clear hFine
                have hb9 := bt hb89 hbi
                have r1 := hA8.later hb9
                have r2 := hM8.later hb9
                have r3 := hH8.later hb9
                have r4 := hT8.later hb9
                have r5 := bt hb8 hb9
                clear hA8 hM8 hH8 hT8 hb8
                go_wp2
                go_roundw
                case rel => exact ⟨k + 1, l5, now', cc + 1, now', _, _, by omega, by omega, by simp, rfl, r1, r2, r3, r4, hAg5, by omega, by omega, by omega, by omega, hlen5, hpo5, r5⟩
                case measure => simp [intOf]; omega
          | some t =>
            have ht1 := hAg5.2.1 td hq t hga
            have ht2 := hAg5.2.2 td t hga
            have ht3 : ¬ now' - t < 20 := by omega
            rw [hW] at hI8 ⊢
            obtain ⟨hl3, hF0⟩ := oth_four hp0 hp1
            rw [hl3] at hI8 ⊢
            have hrow : Row w9 au (othL port 4) := row_of hI8
            have hFine : Hid (Fine (othL port 4) port) := hF0
            have hZL : Hid ((othL port 4).length = 3) := hl3
            clear hF0 hl3 hI8 hw4 hW
            generalize othL port 4 = zs at *
            go_upto_region 19 with (first
              | (at_lookup; refine wpList_lookup_im rfl _ _ rfl (K + 1) (cc + 1) gA td wtd rfl hT8 rfl ?_)
              | go_in)
            try rw [hga, Option.getD_some, Option.isSome_some]
            go_wp2
            go_loopw [171] (fun i wi => ∃ j : Nat, j ≤ 3 ∧ i = .int .i64 (j : Int) ∧ Below w9.heap.size w9 wi) (fun i _ => 3 - (intOf i).toNat)
            case atStart => exact ⟨0, Nat.zero_le _, rfl, Below.refl _ _⟩
            case round =>
              obtain ⟨j, hj, rfl, hbi⟩ := hrel
              by_cases hjl : j < 3
              · have hjl' : j < zs.length := by rw [hZL.out]; exact hjl
                have hF := hFine.out j hjl'
                obtain ⟨b, off, rfl, hc⟩ : ∃ b off, au = some ⟨b, off, none⟩ ∧ ∀ j, j < zs.length → w9.cell? ⟨b, off + j, none⟩ = some (.int .i64 (zs.getD j 0)) := by
                  rcases hrow with h | h
                  · rw [h] at hjl'; simp at hjl'
                  · exact h
                have g0 := later hbi (hc j hjl')
                have hjz : (j : Int) < 3 := by omega
                obtain ⟨f1, f2, f3, f4⟩ := hF
                obtain ⟨z, hz⟩ : ∃ z, zs.getD j 0 = z := ⟨_, rfl⟩
                rw [hz] at g0 f1 f2 f3 f4
                clear hz
                have f1' : (z == port) = false := by simp [f1]
                have f2' : ¬ z < 0 := by omega
                have f3' : ¬ 3 < z := by omega
                by_cases hj0 : 0 < j
                · have g1 := later hbi (hc (j - 1) (by omega))
                  have f5 := f4 hj0
                  clear f4 hc
                  obtain ⟨y, hy⟩ : ∃ y, zs.getD (j - 1) 0 = y := ⟨_, rfl⟩
                  rw [hy] at g1 f5
                  clear hy hjl'
                  have hj0' : (0 : Int) < (j : Int) := by omega
                  obtain ⟨i, rfl⟩ : ∃ i : Nat, j = i + 1 := ⟨j - 1, by omega⟩
                  rw [show i + 1 - 1 = i by omega] at g1
                  have f6 : ¬ z ≤ y := by omega
                  have hix : ((i + 1 : Nat) : Int) - 1 = (i : Int) := by omega
                  have hix2 : (i : Int) < 3 := by omega
                  go_wp2
                  go_roundw
                  case rel => exact ⟨i + 1 + 1, by omega, by simp, hbi⟩
                  case measure => simp [intOf]; omega
                · obtain rfl : j = 0 := by omega
                  rw [Nat.add_zero] at g0
                  clear f4 hc hjl'
                  go_wp2
                  go_roundw
                  case rel => exact ⟨1, by omega, by simp, hbi⟩
                  case measure => simp [intOf]
              · clear hFine
                have hb9 := bt hb89 hbi
                have r1 := hA8.later hb9
                have r2 := hM8.later hb9
                have r3 := hH8.later hb9
                have r4 := hT8.later hb9
                have r5 := bt hb8 hb9
                clear hA8 hM8 hH8 hT8 hb8
                go_wp2
                go_roundw
                case rel => exact ⟨k + 1, l5, now', cc + 1, now', _, _, by omega, by omega, by simp, rfl, r1, r2, r3, r4, hAg5, by omega, by omega, by omega, by omega, hlen5, hpo5, r5⟩
                case measure => simp [intOf]; omega
        | some c =>
          obtain ⟨p, t⟩ := c
          obtain ⟨hgh, hga⟩ := hAg5.1 td p t hq
          have ht1 := hfr5 td p t hq
          have ht2 := hAg5.2.2 td t hga
          have ht3 : now' - t < 20 := by omega
          have hpp := hpo5 _ (lk_mem hq)
          dsimp only at hpp
          have hW : waysL 4 l5 port td = if p = port then [] else [p] := by rw [hw4, hq]; rfl
          have hlook := hH8.look wtd
          rw [hgh, Option.getD_some] at hlook
          by_cases hpq : p = port
          · rw [if_pos hpq] at hW
            rw [hW, show ([] : List Int).length = 0 from rfl] at hI8 ⊢
            have hrow : Row w9 au [] := Or.inl rfl
            have hFine : Hid (Fine [] port) := fine_nil port
            have hZL : Hid (([] : List Int).length = 0) := rfl
            clear hI8 hw4 hW
            subst hpq
            generalize hzs : ([] : List Int) = zs at hrow hFine hZL
            clear hzs
            go_upto_region 19 with (first
              | (at_lookup; refine wpList_lookup_im rfl _ _ rfl (K + 1) (cc + 1) gA td wtd rfl hT8 rfl ?_)
              | go_in)
            try rw [hga, Option.getD_some, Option.isSome_some]
            go_wp2
            go_loopw [171] (fun i wi => ∃ j : Nat, j ≤ 0 ∧ i = .int .i64 (j : Int) ∧ Below w9.heap.size w9 wi) (fun i _ => 0 - (intOf i).toNat)
            case atStart => exact ⟨0, Nat.zero_le _, rfl, Below.refl _ _⟩
            case round =>
              obtain ⟨j, hj, rfl, hbi⟩ := hrel
              have hjl : ¬ j < 0 := Nat.not_lt_zero _
              clear hFine
              have hb9 := bt hb89 hbi
              have r1 := hA8.later hb9
              have r2 := hM8.later hb9
              have r3 := hH8.later hb9
              have r4 := hT8.later hb9
              have r5 := bt hb8 hb9
              clear hA8 hM8 hH8 hT8 hb8
              go_wp2
              go_roundw
              case rel => exact ⟨k + 1, l5, now', cc + 1, now', _, _, by omega, by omega, by simp, rfl, r1, r2, r3, r4, hAg5, by omega, by omega, by omega, by omega, hlen5, hpo5, r5⟩
              case measure => simp [intOf]; omega
          · rw [if_neg hpq] at hW
            rw [hW, show ([p] : List Int).length = 1 from rfl] at hI8 ⊢
            have hFine : Hid (Fine [p] port) := fine_one hpq (by omega) (by omega)
            have hZL : Hid (([p] : List Int).length = 1) := rfl
            clear hw4 hW
            have hpq2 : (p == port) = false := by simp [hpq]
            have hpq3 : (p != port) = true := by simp [hpq]
            go_upto_region 19 with (first
              | (at_lookup; refine wpList_lookup_im rfl _ _ rfl (K + 1) (cc + 1) gA td wtd rfl hT8 rfl ?_)
              | go_in)
            try rw [hga, Option.getD_some, Option.isSome_some]
            have q9 := bel1 w9 (.cells #[.int .i64 p] 3)
            have r1 := (row_of hI8).later q9
            have r2 := row_of (ints_one w9 p)
            go_wp2_with fail
            refine (same_any au cu _ 1 [p] _ (by simp) r1 r2).mono ?_
            rintro e w10 ⟨rfl, hb10⟩
            replace hb89 := bt q9 hb10
            have hrow : Row w10 au [p] := r1.later hb10
            clear r1 r2 q9 hb10 hI8
            generalize hzs : [p] = zs at hrow hFine hZL
            clear hzs
            go_wp2
            go_loopw [171] (fun i wi => ∃ j : Nat, j ≤ 1 ∧ i = .int .i64 (j : Int) ∧ Below w10.heap.size w10 wi) (fun i _ => 1 - (intOf i).toNat)
            case atStart => exact ⟨0, Nat.zero_le _, rfl, Below.refl _ _⟩
            case round =>
              obtain ⟨j, hj, rfl, hbi⟩ := hrel
              by_cases hjl : j < 1
              · have hjl' : j < zs.length := by rw [hZL.out]; exact hjl
                have hF := hFine.out j hjl'
                obtain ⟨b, off, rfl, hc⟩ : ∃ b off, au = some ⟨b, off, none⟩ ∧ ∀ j, j < zs.length → w10.cell? ⟨b, off + j, none⟩ = some (.int .i64 (zs.getD j 0)) := by
                  rcases hrow with h | h
                  · rw [h] at hjl'; simp at hjl'
                  · exact h
                have g0 := later hbi (hc j hjl')
                have hjz : (j : Int) < 1 := by omega
                obtain ⟨f1, f2, f3, f4⟩ := hF
                obtain ⟨z, hz⟩ : ∃ z, zs.getD j 0 = z := ⟨_, rfl⟩
                rw [hz] at g0 f1 f2 f3 f4
                clear hz
                have f1' : (z == port) = false := by simp [f1]
                have f2' : ¬ z < 0 := by omega
                have f3' : ¬ 3 < z := by omega
                by_cases hj0 : 0 < j
                · exfalso; omega
                · obtain rfl : j = 0 := by omega
                  rw [Nat.add_zero] at g0
                  clear f4 hc hjl'
                  go_wp2
                  go_roundw
                  case rel => exact ⟨1, by omega, by simp, hbi⟩
                  case measure => simp [intOf]
              · clear hFine
                have hb9 := bt hb89 hbi
                have r1 := hA8.later hb9
                have r2 := hM8.later hb9
                have r3 := hH8.later hb9
                have r4 := hT8.later hb9
                have r5 := bt hb8 hb9
                clear hA8 hM8 hH8 hT8 hb8
                go_wp2
                go_roundw
                case rel => exact ⟨k + 1, l5, now', cc + 1, now', _, _, by omega, by omega, by simp, rfl, r1, r2, r3, r4, hAg5, by omega, by omega, by omega, by omega, hlen5, hpo5, r5⟩
                case measure => simp [intOf]; omega
end Go.Proofs.Ytajknafmlghcgaa
