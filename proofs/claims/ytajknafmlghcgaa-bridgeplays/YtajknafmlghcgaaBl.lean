/- BridgePlays, walked. -/
import Derived.Test.YtajknafmlghcgaaRf
import Derived.Test.YtajknafmlghcgaaRg
import Derived.Test.YtajknafmlghcgaaRh
import Derived.Test.YtajknafmlghcgaaFlat
import Derived.Deep.Cut
import Derived.Deep.CutRange
namespace Go.Proofs.Ytajknafmlghcgaa
open Go.RowKit Go.Maps
set_option maxRecDepth 100000
set_option linter.unusedVariables false
set_option linter.unusedSimpArgs false

theorem ne_of {w : World} {B M : Nat} {vs : Array Value} {x : Value} {l : List En} (hA : At w B vs) (h0 : vs[0]? = some x) (hL : Lrn w M l) : B ≠ M := by
  intro e
  subst e
  obtain ⟨⟨es, clock, hb, -⟩, -⟩ := hL
  have := (hA.2 0 x h0).1
  simp [World.cell?, hb] at this
/-- A bridge and the document's, which hold the same. -/
def Two (w : World) (B M R base : Nat) (po ag ro : Int) (l L : List En) (la : Int) (v : Value) : Prop :=
  At w B (brV po ag ro la M) ∧ Lrn w M l ∧ At w R (rbV po ag ro la v) ∧ HR w base v L ∧ L.Perm l ∧ (l.length : Int) ≤ ro ∧ 0 ≤ la ∧ ∀ e ∈ l, 0 ≤ e.2.1 ∧ e.2.1 < po
theorem Two.turn {S : Nat → Prop} {w w' : World} {B M R base : Nat} {po ag ro : Int} {l L : List En} {la : Int} {v : Value} (h : Two w B M R base po ag ro l L la v) (ht : Turn S w w') (hB : ¬ S B) (hM : ¬ S M) (hR : ¬ S R) (hv : ∀ k, v.ownBlock = some k → ¬ S k) : Two w' B M R base po ag ro l L la v :=
  ⟨h.1.turn ht hB, h.2.1.turn ht hM, h.2.2.1.turn ht hR, h.2.2.2.1.turn ht hv, h.2.2.2.2⟩
theorem Two.later {w w' : World} {B M R base : Nat} {po ag ro : Int} {l L : List En} {la : Int} {v : Value} (h : Two w B M R base po ag ro l L la v) (hb : Below w.heap.size w w') : Two w' B M R base po ag ro l L la v :=
  h.turn (S := fun _ => False) (Turn.of_below hb) (fun h => h) (fun h => h) (fun h => h) (fun _ _ h => h)
theorem Two.ok {w : World} {B M R base : Nat} {po ag ro : Int} {l L : List En} {la : Int} {v : Value} (h : Two w B M R base po ag ro l L la v) : ∀ e ∈ L, okE e := fun e he => h.2.1.2.2 e (h.2.2.2.2.1.mem_iff.1 he)
theorem Two.len {w : World} {B M R base : Nat} {po ag ro : Int} {l L : List En} {la : Int} {v : Value} (h : Two w B M R base po ag ro l L la v) : L.length = l.length := h.2.2.2.2.1.length_eq
theorem HR.lt {w : World} {base : Nat} {v : Value} {l : List En} (h : HR w base v l) : ∀ k, v.ownBlock = some k → k < w.heap.size := fun k hk => (World.ownsRow.lt h k hk).2
theorem Ints.lt {w : World} {base : Nat} {v : Value} {zs : List Int} (h : Ints w base v zs) : ∀ k, v.ownBlock = some k → k < w.heap.size := fun k hk => (World.ownsRow.lt h k hk).2
theorem HR.nilV {w : World} {base : Nat} : HR w base (.slice none 0 0) [] := HR.nil w base
theorem fresh_all {q : List En} {ag ro now : Int} {e : En} (he : e.2.2 = now) (hg : 1 ≤ ag) : ∀ x ∈ learnL ro (oldL ag now q) e, ¬ x.2.2 + ag ≤ now := by
  intro x hx
  rcases mem_learn hx with rfl | h
  · omega
  · have := (List.mem_filter.1 h).2
    simpa using this
theorem Turn.undrew {S : Nat → Prop} {w w' : World} (h : Turn S w.drew w') : Turn S w w' := ⟨h.os, h.tape, h.output, h.size, h.block⟩
theorem bel_undrew {w w' : World} (h : Below w.drew.heap.size w.drew w') : Below w.heap.size w w' := ⟨h.os, h.tape, h.output, h.size, h.block⟩
theorem plays_f (po ag ro : Int) (a : Option Addr) (n cap : Nat) (w : World) (hr : Flat.Rows w a n 7 [.i, .i, .i, .i, .i, .i, .s]) (h : newOk po ag ro = false) :
    Calls Try.prog 3 #[.agg #[.int .i64 po, .int .i64 ag, .int .i64 ro], .slice a n cap] w fun e w' => e = .returned (.bool true) ∧ Below w.heap.size w w' := by
  have hb1 := bel1 w (.cells #[.int .i64 po, .int .i64 ag, .int .i64 ro] 23)
  go_enter Try.func3, Try.ntmps3
  go_wp2_with fail
  refine (new_f po ag ro _ h).mono ?_
  rintro e w1 ⟨rfl, rfl⟩
  go_wp2_with fail
  refine (rnew_f po ag ro _ h).mono ?_
  rintro e w1 ⟨rfl, rfl⟩
  go_wp2_with fail
  refine (works_any _).mono ?_
  rintro e w3 ⟨rfl, hb3⟩
  go_wp2
  refine wp_loop_rounds 1 ?_
  rw [rounds_succ]
  go_wp2
  go_ret
  exact ⟨rfl, bt hb1 hb3⟩
set_option maxHeartbeats 8000000 in
theorem plays_t (po ag ro : Int) (a : Option Addr) (n cap : Nat) (w : World) (hr : Flat.Rows w a n 7 [.i, .i, .i, .i, .i, .i, .s]) (h : newOk po ag ro = true) (hz : n < 1000000000000000) :
    Calls Try.prog 3 #[.agg #[.int .i64 po, .int .i64 ag, .int .i64 ro], .slice a n cap] w fun e w' => e = .returned (.bool true) ∧ Below w.heap.size w w' := by
  have HA : Hid (Flat.Rows w a n 7 [.i, .i, .i, .i, .i, .i, .s]) := hr
  clear hr
  have hnew := of_decide_eq_true h
  obtain ⟨⟨h0, h1⟩, ⟨hg0, hg1⟩, hro0, hro1⟩ := hnew
  have hb1 := bel1 w (.cells #[.int .i64 po, .int .i64 ag, .int .i64 ro] 23)
  have hS := At.box w #[.int .i64 po, .int .i64 ag, .int .i64 ro] 23
  go_enter Try.func3, Try.ntmps3
  go_upto_region 1 with fail
  generalize w.alloc (.cells #[.int .i64 po, .int .i64 ag, .int .i64 ro] 23) = w0 at *
  have s0 : w0.cell? ⟨w.heap.size, 0, none⟩ = some (.int .i64 po) := (hS.2 0 _ rfl).1
  have s1 : w0.cell? ⟨w.heap.size, 1, none⟩ = some (.int .i64 ag) := (hS.2 1 _ rfl).1
  have s2 : w0.cell? ⟨w.heap.size, 2, none⟩ = some (.int .i64 ro) := (hS.2 2 _ rfl).1
  go_wp2_with fail
  refine (new_t po ag ro _ h).mono ?_
  rintro e w1 ⟨B, M, rfl, hBb, hMb, hA1, hM1, hb2⟩
  replace s0 := later hb2 s0
  replace s1 := later hb2 s1
  replace s2 := later hb2 s2
  go_wp2_with fail
  refine (rnew_t po ag ro _ h).mono ?_
  rintro e w2 ⟨R, rfl, hRb, hR2, hb3⟩
  go_wp2_with fail
  refine (works_any _).mono ?_
  rintro e w3 ⟨rfl, hb4⟩
  have hBM := ne_of hA1 rfl hM1
  have hB1 := hA1.1
  have hM1' := hM1.1.lt
  have hRB : R ≠ B := by omega
  have hRM : R ≠ M := by omega
  have hA3 := (hA1.later hb3).later hb4
  have hM3 := (hM1.later hb3).later hb4
  have hR3 := hR2.later hb4
  have hbw0 := bt hb1 (bt hb2 (bt hb3 hb4))
  have hT3 : Two w3 B M R w3.heap.size po ag ro [] [] 0 (.slice none 0 0) := ⟨hA3, hM3, hR3, HR.nil _ _, List.Perm.refl _, by simp; omega, by decide, fun e he => by cases he⟩
  have hlB := hA3.1
  have hlM := hM3.1.lt
  have hlR := hR3.1
  have hwB : w.heap.size ≤ B := Nat.le_trans hb1.size hBb
  have hwM : w.heap.size ≤ M := Nat.le_trans hb1.size hMb
  have hwR : w.heap.size ≤ R := Nat.le_trans (bt hb1 hb2).size hRb
  have hwb : w.heap.size ≤ w3.heap.size := hbw0.size
  obtain ⟨base, hbase⟩ : ∃ x, x = w3.heap.size := ⟨_, rfl⟩
  rw [← hbase] at hT3 hlB hlM hlR hwb
  have hs3 : base ≤ w3.heap.size := by omega
  clear hA1 hM1 hR2 hA3 hM3 hR3 hb1 hb2 hb3 hb4 hS s0 s1 s2 hbase hB1 hM1' hBb hMb hRb
  go_wp2
  go_loopw [9] (fun i wr => ∃ k : Nat, k ≤ n ∧ k ≤ 60 ∧ i = .int .i64 (k : Int) ∧ (∃ l L la v, Two wr B M R base po ag ro l L la v) ∧ base ≤ wr.heap.size ∧ Below w.heap.size w wr) (fun i _ => n - (intOf i).toNat)
  case atStart => exact ⟨0, Nat.zero_le _, by decide, rfl, ⟨_, _, _, _, hT3⟩, hs3, hbw0⟩
  case round =>
    clear hT3 hbw0 hs3
    obtain ⟨k, hkn, hk60, rfl, hTT, hsr, hbr⟩ := hrel
    by_cases hlt : k < n ∧ k < 60
    rotate_left
    · go_wp2
      all_goals (go_ret; exact ⟨rfl, hbr⟩)
    obtain ⟨ab, off, rfl, hrow⟩ : ∃ b off, a = some ⟨b, off, none⟩ ∧ ∀ k, k < n → ∃ cs : List Value, Flat.Ok [.i, .i, .i, .i, .i, .i, .s] cs ∧ ∀ j v, cs[j]? = some v → w.cell? ⟨b, off + k * 7 + j, none⟩ = some v := by
      rcases HA.out with h | h
      · omega
      · exact h
    obtain ⟨cs, ⟨hcl, hck⟩, hcc⟩ := hrow k hlt.1
    clear hrow
    match cs, hcl with
    | [v0, v1, v2, v3, v4, v5, v6], _ =>
    obtain ⟨kd, rfl, wkd⟩ := hck 0 _ _ rfl rfl
    obtain ⟨pt, rfl, wpt⟩ := hck 1 _ _ rfl rfl
    obtain ⟨nw, rfl, wnw⟩ := hck 2 _ _ rfl rfl
    obtain ⟨td, rfl, wtd⟩ := hck 3 _ _ rfl rfl
    obtain ⟨fd, rfl, wfd⟩ := hck 4 _ _ rfl rfl
    obtain ⟨ty, rfl, wty⟩ := hck 5 _ _ rfl rfl
    obtain ⟨da, rfl, wda⟩ := hck 6 _ _ rfl rfl
    have x0 := later hbr (hcc 0 _ rfl)
    have x1 := later hbr (hcc 1 _ rfl)
    have x2 := later hbr (hcc 2 _ rfl)
    have x3 := later hbr (hcc 3 _ rfl)
    have x4 := later hbr (hcc 4 _ rfl)
    have x5 := later hbr (hcc 5 _ rfl)
    have x6 := later hbr (hcc 6 _ rfl)
    rw [Nat.add_zero] at x0
    clear hcc hck
    have hdM : da.size ≤ maxLen := by unfold maxLen; omega
    have hk1 : (k : Int) < (n : Int) := by omega
    have hk2 : (k : Int) < 60 := by omega
    have hk3 : (0 : Int) ≤ (k : Int) := by omega
    have q1 := bel1 wr (.cells #[.int .i64 kd, .int .i64 pt, .int .i64 nw, .int .i64 td, .int .i64 fd, .int .i64 ty, .string da] 36)
    have hAct := At.box wr #[.int .i64 kd, .int .i64 pt, .int .i64 nw, .int .i64 td, .int .i64 fd, .int .i64 ty, .string da] 36
    go_upto_region 9 with fail
    obtain ⟨l, L, la, v, hTw⟩ := hTT
    have hTwo := hTw.later q1
    have hbw := bt hbr q1
    obtain ⟨Ab, hAb⟩ : ∃ x, x = wr.heap.size := ⟨_, rfl⟩
    rw [← hAb] at hAct
    have hsA : base ≤ Ab := by omega
    have hs1 : base ≤ (wr.alloc (.cells #[.int .i64 kd, .int .i64 pt, .int .i64 nw, .int .i64 td, .int .i64 fd, .int .i64 ty, .string da] 36)).heap.size := Nat.le_trans hsr q1.size
    rw [← hAb]
    clear x0 x1 x2 x3 x4 x5 x6 hTw q1 hAb hsr hbr
    generalize wr.alloc (.cells #[.int .i64 kd, .int .i64 pt, .int .i64 nw, .int .i64 td, .int .i64 fd, .int .i64 ty, .string da] 36) = w1 at *
    have a0 : w1.cell? ⟨Ab, 0, none⟩ = some (.int .i64 kd) := (hAct.2 0 _ rfl).1
    have a1 : w1.cell? ⟨Ab, 1, none⟩ = some (.int .i64 pt) := (hAct.2 1 _ rfl).1
    have a2 : w1.cell? ⟨Ab, 2, none⟩ = some (.int .i64 nw) := (hAct.2 2 _ rfl).1
    have a3 : w1.cell? ⟨Ab, 3, none⟩ = some (.int .i64 td) := (hAct.2 3 _ rfl).1
    have a4 : w1.cell? ⟨Ab, 4, none⟩ = some (.int .i64 fd) := (hAct.2 4 _ rfl).1
    have a5 : w1.cell? ⟨Ab, 5, none⟩ = some (.int .i64 ty) := (hAct.2 5 _ rfl).1
    have a6 : w1.cell? ⟨Ab, 6, none⟩ = some (.string da) := (hAct.2 6 _ rfl).1
    go_wp2_with fail
    refine (among_any kd 2 w1 (by decide) (by decide)).mono ?_
    rintro e w2 ⟨rfl, rfl⟩
    go_upto_if 77 with fail
    go_cut [11, 12, 13, 14] from 56 to 162 (fun c1 c2 c3 c4 W => (∃ l L la v, Two W B M R base po ag ro l L la v) ∧ At W Ab #[.int .i64 kd, .int .i64 pt, .int .i64 nw, .int .i64 td, .int .i64 fd, .int .i64 ty, .string da] ∧ Below w.heap.size w W)
    case first =>
      have hTok := hTwo.ok
      have hTlen := hTwo.len
      have hT2 := hTwo
      obtain ⟨hA, hM, hR, hH, hp, hlen, hla, hpo⟩ := hT2
      have hln : l.length < 4000 := by omega
      by_cases hk : kd % 2 = 1
      · rw [hk]
        cases hpp : hasP po pt with
        | true =>
          go_wp2_with fail
          go_region_with (first
            | (go_at_call 11; refine (down_t B M po ag ro la pt l _ (by exact hA) (by exact hM) hg0 hg1 hpp).mono ?_; rintro e w5 ⟨rfl, hM5, ht5'⟩; have ht5 : Turn (fun k => k = M) w2 w5 := (by first | exact ht5' | exact ht5'.undrew | exact ht5'.undrew.undrew | exact ht5'.undrew.undrew.undrew); have hA5 := hA.turn ht5 hBM; have hR5 := hR.turn ht5 hRM; have hH5 := hH.turn ht5 (fun k hk he => by have := hH.ge k hk; omega); have hAct5 := hAct.turn ht5 (by omega); have hb5 : Below w.heap.size w w5 := hbw.trans (ht5.below hbw.size (fun k hk he => by omega)); have a15 : w5.cell? ⟨Ab, 1, none⟩ = some (.int .i64 pt) := (hAct5.2 1 _ rfl).1; have hs5 := ht5.size)
            | (go_at_call 12; refine (rdown_t R base po ag ro la pt v L _ (by exact hR5) (by exact hH5) hlR (by first | omega | (show base ≤ w5.heap.size; omega)) (by omega) hpp).mono ?_; rintro e w6 ⟨v6, rfl, hR6, hH6, ht6'⟩; have ht6 : Turn (fun k => k = R) w5 w6 := (by first | exact ht6' | exact ht6'.undrew | exact ht6'.undrew.undrew | exact ht6'.undrew.undrew.undrew)))
          all_goals
            have hA6 := hA5.turn ht6 hRB.symm
            have hM6 := hM5.turn ht6 hRM.symm
            have hAct6 := hAct5.turn ht6 (by omega)
            have hb6 : Below w.heap.size w w6 := hb5.trans (ht6.below hb5.size (fun k hk he => by omega))
            have hT6 : Two w6 B M R base po ag ro (l.filter (fun e => !(e.2.1 == pt))) (L.filter (fun e => e.2.1 != pt)) la v6 := ⟨hA6, hM6, hR6, hH6, hp.filter _, by have := List.length_filter_le (fun e : En => !(e.2.1 == pt)) l; omega, hla, fun e he => hpo e (List.mem_filter.1 he).1⟩
            clear hA hM hR hH hA5 hM5 hR5 hH5 hTwo
            go_wp2
            go_meet
            case rel => exact ⟨⟨_, _, _, _, hT6⟩, hAct6, hb6⟩
        | false =>
          go_wp2_with fail
          go_region_with (first
            | (go_at_call 11; refine (down_f B M po ag ro la pt l _ (by exact hA) (by exact hM) hg0 hg1 hpp).mono ?_; rintro e w5 ⟨rfl, hb5q⟩; have hb5' : Below w2.heap.size w2 w5 := (by first | exact hb5q | exact bel_undrew hb5q | exact bel_undrew (bel_undrew hb5q) | exact bel_undrew (bel_undrew (bel_undrew hb5q))); have hR5 := hR.later hb5'; have hAct5 := hAct.later hb5'; have hb5 := bt hbw hb5'; have a15 : w5.cell? ⟨Ab, 1, none⟩ = some (.int .i64 pt) := (hAct5.2 1 _ rfl).1)
            | (go_at_call 12; refine (rdown_f R po ag ro la pt v _ (by exact hR5) hpp).mono ?_; rintro e w6 ⟨rfl, rfl⟩))
          all_goals
            have hT6 := hTwo.later hb5'
            clear hA hM hR hH hR5 hTwo
            go_wp2
            go_meet
            case rel => exact ⟨⟨_, _, _, _, hT6⟩, hAct5, hb5⟩
      · have hk0 : kd % 2 = 0 := by omega
        rw [hk0]
        cases hpp : hasP po pt with
        | false =>
          go_wp2_with fail
          refine (take_1 B M po ag ro la pt td fd ty nw da l w2 hA hM hdM hpp).mono ?_
          rintro e w5 ⟨rfl, hb5⟩
          replace a1 := later hb5 a1
          replace a2 := later hb5 a2
          replace a3 := later hb5 a3
          replace a4 := later hb5 a4
          replace a5 := later hb5 a5
          replace a6 := later hb5 a6
          have hR5 := hR.later hb5
          have hH5 := hH.later hb5
          go_wp2_with fail
          refine (rtake_1 R base po ag ro la pt td fd ty nw da v L w5 hR5 hH5 hdM hpp).mono ?_
          rintro e w6 ⟨rfl, hb6⟩
          go_wp2_with fail
          refine (same_any none 0 none 0 [] w6 (by decide) (Or.inl rfl) (Or.inl rfl)).mono ?_
          rintro e w7 ⟨rfl, hb7⟩
          go_wp2_with fail
          refine (spoil_any w7.heap.size (.slice none 0 0) [] w7 (Ints.nil _ _) (by decide)).mono ?_
          rintro e w8 ⟨rfl, ht8⟩
          have hb8 : Below w7.heap.size w7 w8 := ht8.below (Nat.le_refl _) (fun k hk h => by cases h)
          have hbb := bt hb5 (bt hb6 (bt hb7 hb8))
          have hT8 := hTwo.later hbb
          have hA8 := hAct.later hbb
          have hb9 := bt hbw hbb
          clear hA hM hR hH hR5 hH5 hTwo
          go_wp2
          go_meet
          case rel => exact ⟨⟨l, L, la, v, hT8⟩, hA8, hb9⟩
        | true =>
          cases htt : tickB la nw with
          | false =>
            go_wp2_with fail
            refine (take_2 B M po ag ro la pt td fd ty nw da l w2 hA hM hdM hpp htt).mono ?_
            rintro e w5 ⟨rfl, hb5⟩
            replace a1 := later hb5 a1
            replace a2 := later hb5 a2
            replace a3 := later hb5 a3
            replace a4 := later hb5 a4
            replace a5 := later hb5 a5
            replace a6 := later hb5 a6
            have hR5 := hR.later hb5
            have hH5 := hH.later hb5
            go_wp2_with fail
            refine (rtake_2 R base po ag ro la pt td fd ty nw da v L w5 hR5 hH5 hdM hpp htt).mono ?_
            rintro e w6 ⟨rfl, hb6⟩
            go_wp2_with fail
            refine (same_any none 0 none 0 [] w6 (by decide) (Or.inl rfl) (Or.inl rfl)).mono ?_
            rintro e w7 ⟨rfl, hb7⟩
            go_wp2_with fail
            refine (spoil_any w7.heap.size (.slice none 0 0) [] w7 (Ints.nil _ _) (by decide)).mono ?_
            rintro e w8 ⟨rfl, ht8⟩
            have hb8 : Below w7.heap.size w7 w8 := ht8.below (Nat.le_refl _) (fun k hk h => by cases h)
            have hbb := bt hb5 (bt hb6 (bt hb7 hb8))
            have hT8 := hTwo.later hbb
            have hA8 := hAct.later hbb
            have hb9 := bt hbw hbb
            clear hA hM hR hH hR5 hH5 hTwo
            go_wp2
            go_meet
            case rel => exact ⟨⟨l, L, la, v, hT8⟩, hA8, hb9⟩
          | true =>
            cases hmm : mayB td fd ty da.size with
            | false =>
              go_wp2_with fail
              refine (take_3 B M po ag ro la pt td fd ty nw da l w2 hA hM hdM hpp htt hmm).mono ?_
              rintro e w5 ⟨rfl, hb5⟩
              replace a1 := later hb5 a1
              replace a2 := later hb5 a2
              replace a3 := later hb5 a3
              replace a4 := later hb5 a4
              replace a5 := later hb5 a5
              replace a6 := later hb5 a6
              have hR5 := hR.later hb5
              have hH5 := hH.later hb5
              go_wp2_with fail
              refine (rtake_3 R base po ag ro la pt td fd ty nw da v L w5 hR5 hH5 hdM hpp htt hmm).mono ?_
              rintro e w6 ⟨rfl, hb6⟩
              go_wp2_with fail
              refine (same_any none 0 none 0 [] w6 (by decide) (Or.inl rfl) (Or.inl rfl)).mono ?_
              rintro e w7 ⟨rfl, hb7⟩
              go_wp2_with fail
              refine (spoil_any w7.heap.size (.slice none 0 0) [] w7 (Ints.nil _ _) (by decide)).mono ?_
              rintro e w8 ⟨rfl, ht8⟩
              have hb8 : Below w7.heap.size w7 w8 := ht8.below (Nat.le_refl _) (fun k hk h => by cases h)
              have hbb := bt hb5 (bt hb6 (bt hb7 hb8))
              have hT8 := hTwo.later hbb
              have hA8 := hAct.later hbb
              have hb9 := bt hbw hbb
              clear hA hM hR hH hR5 hH5 hTwo
              go_wp2
              go_meet
              case rel => exact ⟨⟨l, L, la, v, hT8⟩, hA8, hb9⟩
            | true =>
              have htk := of_decide_eq_true htt
              have hmy := of_decide_eq_true hmm
              have hpq : 0 ≤ pt ∧ pt < po := by unfold hasP at hpp; simpa using hpp
              go_wp2_with fail
              refine (take_4 B M po ag ro la pt td fd ty nw da l w2 hA hM hdM hpp htt hmm h0 h1 hg0 hg1 hla (by omega)).mono ?_
              rintro e w5 ⟨u, rfl, hI5, hA5, hM5, ht5⟩
              have hR5 := hR.turn ht5 (by omega)
              have hH5 := hH.turn ht5 (fun k hk he => by have := hH.ge k hk; omega)
              have hAct5 := hAct.turn ht5 (by omega)
              have hs5 := ht5.size
              have hb5 : Below w.heap.size w w5 := hbw.trans (ht5.below hbw.size (fun k hk he => by omega))
              replace a1 : w5.cell? ⟨Ab, 1, none⟩ = some (.int .i64 pt) := (hAct5.2 1 _ rfl).1
              replace a2 : w5.cell? ⟨Ab, 2, none⟩ = some (.int .i64 nw) := (hAct5.2 2 _ rfl).1
              replace a3 : w5.cell? ⟨Ab, 3, none⟩ = some (.int .i64 td) := (hAct5.2 3 _ rfl).1
              replace a4 : w5.cell? ⟨Ab, 4, none⟩ = some (.int .i64 fd) := (hAct5.2 4 _ rfl).1
              replace a5 : w5.cell? ⟨Ab, 5, none⟩ = some (.int .i64 ty) := (hAct5.2 5 _ rfl).1
              replace a6 : w5.cell? ⟨Ab, 6, none⟩ = some (.string da) := (hAct5.2 6 _ rfl).1
              obtain ⟨b1, c1, rfl, -⟩ := hI5.row
              go_wp2_with fail
              refine (rtake_4 R base po ag ro la pt td fd ty nw da v L w5 hR5 hH5 hdM hlR (by omega) hpp htt hmm h0 h1 hg0 hg1 hla (by omega) hTok).mono ?_
              rintro e w6 ⟨u2, v6, rfl, hI6, hR6, hH6, ht6⟩
              have hol : ((oldL ag nw l).length : Int) ≤ ro := by have := List.length_filter_le (fun e : En => !(decide (e.2.2 + ag ≤ nw))) l; unfold oldL; omega
              have hpL := rlearn_is hp ag ro (fd, pt, nw) hlen
              dsimp only at hpL
              have hpo6 : ∀ e ∈ learnL ro (oldL ag nw l) (fd, pt, nw), 0 ≤ e.2.1 ∧ e.2.1 < po := fun e he => by
                rcases mem_learn he with rfl | h
                · exact hpq
                · exact hpo e (List.mem_filter.1 h).1
              have hlen6 := learn_len (e := (fd, pt, nw)) hol hro0
              rw [rport_is hM5.2.1 hpL ag td nw, rways_is (fresh_all rfl hg0) hpo6] at hI6
              have hwl : (waysL po (learnL ro (oldL ag nw l) (fd, pt, nw)) pt td).length < 1000000 := by
                unfold waysL
                have := oth_len pt po.toNat
                split
                · split
                  · omega
                  · split
                    · simp
                    · simp
                · omega
              generalize waysL po (learnL ro (oldL ag nw l) (fd, pt, nw)) pt td = zs at *
              have hI5' := hI5.turn ht6 (fun k hk he => by omega)
              have hA6 := hA5.turn ht6 hRB.symm
              have hM6 := hM5.turn ht6 hRM.symm
              have hAct6 := hAct5.turn ht6 (by omega)
              have hb6 : Below w.heap.size w w6 := hb5.trans (ht6.below hb5.size (fun k hk he => by omega))
              have hT6 : Two w6 B M R base po ag ro (learnL ro (oldL ag nw l) (fd, pt, nw)) (rlearnL ag ro L (fd, pt, nw)) nw v6 := ⟨hA6, hM6, hR6, hH6.low (by omega), hpL, hlen6, by omega, hpo6⟩
              obtain ⟨b2, c2, rfl, hr2⟩ := hI6.row
              have hr1 : Row w6 b1 zs := row_of hI5'
              have hsW2 : base ≤ w2.heap.size := by omega
              have hAl : Ab < w2.heap.size := hAct.1
              have hlt5 := hI5.lt
              have hge6 := hH6.ge
              clear hA hM hR hH hA5 hM5 hR5 hH5 hTwo hI5 hAct5 hAct
              go_wp2_with fail
              refine (same_any b1 c1 b2 c2 zs w6 (by omega) hr1 hr2).mono ?_
              rintro e w7 ⟨rfl, hb7⟩
              have hI7 := hI5'.later hb7
              go_wp2_with fail
              refine (spoil_any w2.heap.size _ zs w7 hI7 hwl).mono ?_
              rintro e w8 ⟨rfl, ht8⟩
              have hT8 := (hT6.later hb7).turn ht8 (fun h => by have := own_ge hI7 _ h; omega) (fun h => by have := own_ge hI7 _ h; omega) (fun h => by have := own_ge hI7 _ h; omega) (fun k hk h => by have := hlt5 _ h; have := hge6 _ hk; omega)
              have hAct8 := (hAct6.later hb7).turn ht8 (fun h => by have := own_ge hI7 _ h; omega)
              have hb8 : Below w.heap.size w w8 := (bt hb6 hb7).trans (ht8.below (bt hb6 hb7).size (fun k hk h => by have := own_ge hI7 _ h; have := hbw.size; omega))
              clear hT6 hAct6 hI6 hI7 hr1 hr2 hA6 hM6 hR6 hH6
              go_wp2
              go_meet
              case rel => exact ⟨⟨_, _, _, _, hT8⟩, hAct8, hb8⟩
    case rest =>
      obtain ⟨hTT, hAct, hbw⟩ := hcut
      obtain ⟨l, L, la, v, hT⟩ := hTT
      have hTok := hT.ok
      have hTlen := hT.len
      obtain ⟨hA, hM, hR, hH, hp, hlen, hla, hpo⟩ := hT
      have hln : l.length < 4000 := by omega
      have a2 : wc.cell? ⟨Ab, 2, none⟩ = some (.int .i64 nw) := (hAct.2 2 _ rfl).1
      have a3 : wc.cell? ⟨Ab, 3, none⟩ = some (.int .i64 td) := (hAct.2 3 _ rfl).1
      obtain ⟨w4, hw4⟩ : ∃ x, x = wc := ⟨wc, rfl⟩
      subst hw4
      have hTwo : Two w4 B M R base po ag ro l L la v := ⟨hA, hM, hR, hH, hp, hlen, hla, hpo⟩
      go_wp2_with fail
      refine (port_any B M po ag ro la td nw l w4 hA hM hg0 hg1 wtd).mono ?_
      rintro e w5 ⟨rfl, hb5⟩
      replace a2 := later hb5 a2
      replace a3 := later hb5 a3
      have hR5 := hR.later hb5
      have hH5 := hH.later hb5
      go_wp2_with fail
      refine (rport_any R base po ag ro la td nw v L w5 hR5 hH5 (by omega) hTok hg0 hg1).mono ?_
      rintro e w6 ⟨rfl, hb6⟩
      rw [rport_is hM.2.1 hp ag td nw]
      generalize portL l ag td nw = pk at *
      obtain ⟨pp, pb⟩ := pk
      replace a2 := later hb6 a2
      have hA6 := hA.later (bt hb5 hb6)
      have hM6 := hM.later (bt hb5 hb6)
      go_wp2_with fail
      refine (known_any B M po ag ro la nw l w6 hA6 hM6 hg0 hg1 (by omega)).mono ?_
      rintro e w7 ⟨u, rfl, hI7, hb7⟩
      replace a2 := later hb7 a2
      have hR7 := hR.later (bt hb5 (bt hb6 hb7))
      have hH7 := hH.later (bt hb5 (bt hb6 hb7))
      go_wp2_with fail
      refine (rknown_any R base po ag ro la nw v L w7 hR7 hH7 (by omega) hTok hg0 hg1).mono ?_
      rintro e w8 ⟨u2, rfl, hI8, hb8⟩
      rw [rknown_is hM.2.1 hp ag nw] at hI8
      have hkl : (knownL ag nw l).length < 100000 := by
        unfold knownL
        rw [List.length_map]
        have := List.length_filter_le (fun e : En => !(decide (e.2.2 + ag ≤ nw))) l
        unfold oldL
        omega
      generalize knownL ag nw l = zs at *
      have hI7' := hI7.later hb8
      obtain ⟨b1, c1, rfl, hr1⟩ := hI7'.row
      obtain ⟨b2, c2, rfl, hr2⟩ := hI8.row
      go_wp2_with fail
      refine (same_any b1 c1 b2 c2 zs w8 (by omega) hr1 hr2).mono ?_
      rintro e w9 ⟨rfl, hb9⟩
      have hI9 := hI7'.later hb9
      go_wp2_with fail
      refine (spoil_any w6.heap.size _ zs w9 hI9 (by omega)).mono ?_
      rintro e w10 ⟨rfl, ht10⟩
      have hbb := bt hb5 (bt hb6 (bt hb7 (bt hb8 hb9)))
      have hT9 := hTwo.later hbb
      have hsz6 : w4.heap.size ≤ w6.heap.size := (bt hb5 hb6).size
      have hlB := hA.1
      have hlM := hM.1.lt
      have hlR := hR.1
      have hT10 := hT9.turn ht10 (fun h => by have := own_ge hI9 _ h; omega) (fun h => by have := own_ge hI9 _ h; omega) (fun h => by have := own_ge hI9 _ h; omega) (fun k hk h => by have := own_ge hI9 _ h; have := hH.lt k hk; omega)
      have hb10 : Below w.heap.size w w10 := (bt hbw hbb).trans (ht10.below (bt hbw hbb).size (fun k hk h => by have := own_ge hI9 _ h; have := hbw.size; omega))
      have hs10 : base ≤ w10.heap.size := by have := ht10.size; have := hbb.size; have := hAct.1; omega
      clear hA hM hR hH hR5 hH5 hA6 hM6 hR7 hH7 hI7 hI7' hI8 hI9 hr1 hr2 hTwo hT9
      go_wp2
      go_roundw
      case rel => exact ⟨k + 1, by omega, by omega, by simp, ⟨l, L, la, v, hT10⟩, hs10, hb10⟩
      case measure => simp [intOf]; omega
end Go.Proofs.Ytajknafmlghcgaa
