/- The document's Take, in four cases. -/
import Derived.Test.YtajknafmlghcgaaRe
namespace Go.Proofs.Ytajknafmlghcgaa
open Go.RowKit Go.Maps
set_option maxRecDepth 100000
set_option linter.unusedVariables false
set_option linter.unusedSimpArgs false

theorem rtake_1 (B base : Nat) (po ag ro la : Int) (port td fd ty now : Int) (da : ByteArray) (v : Value) (l : List En) (w : World) (hB : At w B (rbV po ag ro la v)) (hL : HR w base v l) (hd : da.size ≤ maxLen) (hp : hasP po port = false) :
    Calls Try.prog 14 #[.pointer (some ⟨B, 0, none⟩), .int .i64 port, .agg #[.int .i64 td, .int .i64 fd, .int .i64 ty, .string da], .int .i64 now] w fun e w' => e = .returned (.tuple #[.slice none 0 0, .int .i64 100]) ∧ Below w.heap.size w w' := by
  have hb1 := bel1 w (.cells #[.int .i64 td, .int .i64 fd, .int .i64 ty, .string da] 34)
  have hF := At.box w #[.int .i64 td, .int .i64 fd, .int .i64 ty, .string da] 34
  have hB1 := hB.later hb1
  have hL1 := hL.later hb1
  go_enter Try.func14, Try.ntmps14
  go_upto_region 1 with fail
  generalize w.alloc (.cells #[.int .i64 td, .int .i64 fd, .int .i64 ty, .string da] 34) = w1 at *
  have d0 : w1.cell? ⟨B, 0, none⟩ = some (.int .i64 po) := (hB1.2 0 _ rfl).1
  have d3 : w1.cell? ⟨B, 3, none⟩ = some (.int .i64 la) := (hB1.2 3 _ rfl).1
  have f0 : w1.cell? ⟨w.heap.size, 0, none⟩ = some (.int .i64 td) := (hF.2 0 _ rfl).1
  have f1 : w1.cell? ⟨w.heap.size, 1, none⟩ = some (.int .i64 fd) := (hF.2 1 _ rfl).1
  have f2 : w1.cell? ⟨w.heap.size, 2, none⟩ = some (.int .i64 ty) := (hF.2 2 _ rfl).1
  have f3 : w1.cell? ⟨w.heap.size, 3, none⟩ = some (.string da) := (hF.2 3 _ rfl).1
  by_cases h0 : port < 0
  · go_wp2
    go_ret2
    exact ⟨rfl, hb1⟩
  · have h1 : po ≤ port := by
      unfold hasP at hp
      rw [decide_eq_true (by omega)] at hp
      simpa using hp
    go_wp2
    go_ret2
    exact ⟨rfl, hb1⟩
theorem rtake_2 (B base : Nat) (po ag ro la : Int) (port td fd ty now : Int) (da : ByteArray) (v : Value) (l : List En) (w : World) (hB : At w B (rbV po ag ro la v)) (hL : HR w base v l) (hd : da.size ≤ maxLen) (hp : hasP po port = true) (ht : tickB la now = false) :
    Calls Try.prog 14 #[.pointer (some ⟨B, 0, none⟩), .int .i64 port, .agg #[.int .i64 td, .int .i64 fd, .int .i64 ty, .string da], .int .i64 now] w fun e w' => e = .returned (.tuple #[.slice none 0 0, .int .i64 1]) ∧ Below w.heap.size w w' := by
  have hp' : 0 ≤ port ∧ port < po := by unfold hasP at hp; simpa using hp
  have hp0 : ¬ port < 0 := by omega
  have hp1 : ¬ po ≤ port := by omega
  have hb1 := bel1 w (.cells #[.int .i64 td, .int .i64 fd, .int .i64 ty, .string da] 34)
  have hF := At.box w #[.int .i64 td, .int .i64 fd, .int .i64 ty, .string da] 34
  have hB1 := hB.later hb1
  have hL1 := hL.later hb1
  go_enter Try.func14, Try.ntmps14
  go_upto_region 1 with fail
  generalize w.alloc (.cells #[.int .i64 td, .int .i64 fd, .int .i64 ty, .string da] 34) = w1 at *
  have d0 : w1.cell? ⟨B, 0, none⟩ = some (.int .i64 po) := (hB1.2 0 _ rfl).1
  have d3 : w1.cell? ⟨B, 3, none⟩ = some (.int .i64 la) := (hB1.2 3 _ rfl).1
  have f0 : w1.cell? ⟨w.heap.size, 0, none⟩ = some (.int .i64 td) := (hF.2 0 _ rfl).1
  have f1 : w1.cell? ⟨w.heap.size, 1, none⟩ = some (.int .i64 fd) := (hF.2 1 _ rfl).1
  have f2 : w1.cell? ⟨w.heap.size, 2, none⟩ = some (.int .i64 ty) := (hF.2 2 _ rfl).1
  have f3 : w1.cell? ⟨w.heap.size, 3, none⟩ = some (.string da) := (hF.2 3 _ rfl).1
  have ht' := of_decide_eq_false ht
  by_cases hl : now < la
  · go_wp2
    go_ret2
    exact ⟨rfl, hb1⟩
  · have hl2 : 1099511627776 < now := by omega
    go_wp2
    go_ret2
    exact ⟨rfl, hb1⟩
theorem rtake_3 (B base : Nat) (po ag ro la : Int) (port td fd ty now : Int) (da : ByteArray) (v : Value) (l : List En) (w : World) (hB : At w B (rbV po ag ro la v)) (hL : HR w base v l) (hd : da.size ≤ maxLen) (hp : hasP po port = true) (ht : tickB la now = true) (hm : mayB td fd ty da.size = false) :
    Calls Try.prog 14 #[.pointer (some ⟨B, 0, none⟩), .int .i64 port, .agg #[.int .i64 td, .int .i64 fd, .int .i64 ty, .string da], .int .i64 now] w fun e w' => e = .returned (.tuple #[.slice none 0 0, .int .i64 30]) ∧ Below w.heap.size w w' := by
  have hp' : 0 ≤ port ∧ port < po := by unfold hasP at hp; simpa using hp
  have hp0 : ¬ port < 0 := by omega
  have hp1 : ¬ po ≤ port := by omega
  have ht' := of_decide_eq_true ht
  have hl1 : ¬ now < la := by omega
  have hl2 : ¬ 1099511627776 < now := by omega
  have hb1 := bel1 w (.cells #[.int .i64 td, .int .i64 fd, .int .i64 ty, .string da] 34)
  have hF := At.box w #[.int .i64 td, .int .i64 fd, .int .i64 ty, .string da] 34
  have hB1 := hB.later hb1
  have hL1 := hL.later hb1
  go_enter Try.func14, Try.ntmps14
  go_upto_region 1 with fail
  generalize w.alloc (.cells #[.int .i64 td, .int .i64 fd, .int .i64 ty, .string da] 34) = w1 at *
  have d0 : w1.cell? ⟨B, 0, none⟩ = some (.int .i64 po) := (hB1.2 0 _ rfl).1
  have d3 : w1.cell? ⟨B, 3, none⟩ = some (.int .i64 la) := (hB1.2 3 _ rfl).1
  have f0 : w1.cell? ⟨w.heap.size, 0, none⟩ = some (.int .i64 td) := (hF.2 0 _ rfl).1
  have f1 : w1.cell? ⟨w.heap.size, 1, none⟩ = some (.int .i64 fd) := (hF.2 1 _ rfl).1
  have f2 : w1.cell? ⟨w.heap.size, 2, none⟩ = some (.int .i64 ty) := (hF.2 2 _ rfl).1
  have f3 : w1.cell? ⟨w.heap.size, 3, none⟩ = some (.string da) := (hF.2 3 _ rfl).1
  go_wp2_with fail
  refine (rcheck_any td fd ty da w1 hd).mono ?_
  rintro e w4 ⟨rfl, hb4⟩
  rw [hm]
  rw [show codeE false = 30 from rfl]
  go_wp2
  go_ret2
  exact ⟨rfl, bt hb1 hb4⟩
theorem rlearn_ok {ag ro : Int} {l : List En} {e : En} (hok : ∀ x ∈ l, okE x) (he : okE e) : ∀ x ∈ rlearnL ag ro l e, okE x := by
  intro x hx
  unfold rlearnL at hx
  split at hx
  · rcases List.mem_append.1 hx with h | h
    · exact hok x (List.mem_filter.1 h).1
    · rw [List.mem_singleton.1 h]; exact he
  · exact hok x (List.mem_filter.1 hx).1
theorem rlearn_len {ag ro : Int} {l : List En} {e : En} : (rlearnL ag ro l e).length ≤ l.length + 1 := by
  unfold rlearnL
  have := List.length_filter_le (fun x : En => decide (e.2.2 < x.2.2 + ag) && x.1 != e.1) l
  split
  · rw [List.length_append]; simp; omega
  · omega
set_option maxHeartbeats 2000000 in
theorem rtake_4 (B base : Nat) (po ag ro la : Int) (port td fd ty now : Int) (da : ByteArray) (v : Value) (l : List En) (w : World) (hB : At w B (rbV po ag ro la v)) (hL : HR w base v l) (hd : da.size ≤ maxLen) (hbB : B < base) (hbw : base ≤ w.heap.size) (hp : hasP po port = true) (ht : tickB la now = true) (hm : mayB td fd ty da.size = true) (h0 : 1 ≤ po) (h1 : po ≤ 16) (hg0 : 1 ≤ ag) (hg1 : ag ≤ 1048576) (hla : 0 ≤ la) (hn : l.length < 4000) (hok : ∀ e ∈ l, okE e) :
    Calls Try.prog 14 #[.pointer (some ⟨B, 0, none⟩), .int .i64 port, .agg #[.int .i64 td, .int .i64 fd, .int .i64 ty, .string da], .int .i64 now] w fun e w' => ∃ u v', e = .returned (.tuple #[u, .int .i64 0]) ∧ Ints w' w.heap.size u (rwaysL po (macB td && grpB td) (rportL ag td now (rlearnL ag ro l (fd, port, now))) port po.toNat) ∧ At w' B (rbV po ag ro now v') ∧ HR w' w.heap.size v' (rlearnL ag ro l (fd, port, now)) ∧ Turn (fun k => k = B) w w' := by
  have hmm := of_decide_eq_true hm
  have hp' : 0 ≤ port ∧ port < po := by unfold hasP at hp; simpa using hp
  have hp0 : ¬ port < 0 := by omega
  have hp1 : ¬ po ≤ port := by omega
  have ht' := of_decide_eq_true ht
  have hl1 : ¬ now < la := by omega
  have hl2 : ¬ 1099511627776 < now := by omega
  have hb1 := bel1 w (.cells #[.int .i64 td, .int .i64 fd, .int .i64 ty, .string da] 34)
  have hF := At.box w #[.int .i64 td, .int .i64 fd, .int .i64 ty, .string da] 34
  have hB1 := hB.later hb1
  have hL1 := hL.later hb1
  go_enter Try.func14, Try.ntmps14
  go_upto_region 1 with fail
  generalize w.alloc (.cells #[.int .i64 td, .int .i64 fd, .int .i64 ty, .string da] 34) = w1 at *
  have d0 : w1.cell? ⟨B, 0, none⟩ = some (.int .i64 po) := (hB1.2 0 _ rfl).1
  have d3 : w1.cell? ⟨B, 3, none⟩ = some (.int .i64 la) := (hB1.2 3 _ rfl).1
  have f0 : w1.cell? ⟨w.heap.size, 0, none⟩ = some (.int .i64 td) := (hF.2 0 _ rfl).1
  have f1 : w1.cell? ⟨w.heap.size, 1, none⟩ = some (.int .i64 fd) := (hF.2 1 _ rfl).1
  have f2 : w1.cell? ⟨w.heap.size, 2, none⟩ = some (.int .i64 ty) := (hF.2 2 _ rfl).1
  have f3 : w1.cell? ⟨w.heap.size, 3, none⟩ = some (.string da) := (hF.2 3 _ rfl).1
  have g3 : w1.frozen? ⟨B, 3, none⟩ = false := (hB1.2 3 _ rfl).2
  have hBw : B < w.heap.size := hB.1
  go_wp2_with fail
  refine (rcheck_any td fd ty da w1 hd).mono ?_
  rintro e w4 ⟨rfl, hb4⟩
  rw [hm]
  rw [show codeE true = 0 from rfl]
  replace d0 := later hb4 d0
  replace d3 := later hb4 d3
  replace f0 := later hb4 f0
  replace f1 := later hb4 f1
  have hB4 := hB1.later hb4
  have hL4 := hL1.later hb4
  have hF4 := hF.later hb4
  have hbb := bt hb1 hb4
  have g3' : w4.frozen? ⟨B, 3, none⟩ = false := (hB4.2 3 _ rfl).2
  clear g3 f2 f3 hB1 hL1 hF hb4
  have ts := turn_set w4 B 3 (.int .i64 now)
  have hB5 : At (w4.setCell ⟨B, 3, none⟩ (.int .i64 now)) B (rbV po ag ro now v) := hB4.set 3 _
  have hL5 := hL4.turn ts (fun k hk he => by have := hL4.ge k hk; omega)
  have hF5 := hF4.turn ts (by omega)
  have ht5 := (Turn.of_below hbb).trans ts
  have hsz5 : w4.heap.size ≤ (w4.setCell ⟨B, 3, none⟩ (.int .i64 now)).heap.size := ts.size
  go_upto_region 9 with fail
  generalize w4.setCell ⟨B, 3, none⟩ (.int .i64 now) = w5 at *
  have p0 : w5.cell? ⟨w.heap.size, 0, none⟩ = some (.int .i64 td) := (hF5.2 0 _ rfl).1
  have p1 : w5.cell? ⟨w.heap.size, 1, none⟩ = some (.int .i64 fd) := (hF5.2 1 _ rfl).1
  have hsw : w.heap.size ≤ w5.heap.size := ht5.size
  go_wp2_with fail
  refine (rlearn_any B base po ag ro now fd port now v l w5 hB5 hL5 hbB (by omega) (by omega) hok hg0 hg1).mono ?_
  rintro e w6 ⟨v6, rfl, hB6, hL6, ht6⟩
  have hok6 : ∀ x ∈ rlearnL ag ro l (fd, port, now), okE x := rlearn_ok hok ⟨WalkArith.wf_i64 (by dsimp only; omega), by unfold okH; dsimp only; omega⟩
  have hn6 := @rlearn_len ag ro l (fd, port, now)
  obtain ⟨l6, hl6⟩ : ∃ x, rlearnL ag ro l (fd, port, now) = x := ⟨_, rfl⟩
  rw [hl6] at hL6 hok6 hn6
  have H6 : Hid (rlearnL ag ro l (fd, port, now) = l6) := hl6
  clear hl6
  have hF6 := hF5.turn ht6 (by omega)
  have q0 : w6.cell? ⟨w.heap.size, 0, none⟩ = some (.int .i64 td) := (hF6.2 0 _ rfl).1
  have ht06 := ht5.trans ht6
  go_wp2_with fail
  refine (rpgroup_any td w6).mono ?_
  rintro e w7 ⟨rfl, rfl⟩
  go_wp2_with fail
  refine (rport_any B w5.heap.size po ag ro now td now v6 l6 w7 hB6 hL6 (by omega) hok6 hg0 hg1).mono ?_
  rintro e w8 ⟨rfl, hb8⟩
  have hB8 := hB6.later hb8
  have hL8 := hL6.later hb8
  have ht8 := ht06.later hb8
  obtain ⟨pk, hpk⟩ : ∃ x, rportL ag td now l6 = x := ⟨_, rfl⟩
  rw [hpk]
  have H7 : Hid (rportL ag td now l6 = pk) := hpk
  clear hpk
  obtain ⟨pp, pb⟩ := pk
  obtain ⟨gb, hgb⟩ : ∃ x, (macB td && grpB td) = x := ⟨_, rfl⟩
  rw [hgb]
  have H8 : Hid ((macB td && grpB td) = gb) := hgb
  clear hgb
  clear hL hB d0 d3 f0 f1 p0 p1 q0 hF4 hF5 hF6 hB4 hL4 hB5 hL5 hB6 hL6
  have hs8 : w.heap.size ≤ w8.heap.size := ht8.size
  go_wp2
  go_loopw [15, 16] (fun out c wr => ∃ (k : Nat) (u : Value), u = out ∧ k ≤ po.toNat ∧ c = .int .i64 (k : Int) ∧ Ints wr w8.heap.size u (rwaysL po gb (pp, pb) port k) ∧ Below w8.heap.size w8 wr) (fun _ c _ => po.toNat - (intOf c).toNat)
  case atStart => exact ⟨0, _, rfl, Nat.zero_le _, rfl, Ints.nil _ _, Below.refl _ _⟩
  case round =>
    obtain ⟨k, u, rfl, hk, rfl, hI, hb⟩ := hrel
    have hlen := rways_len po gb (pp, pb) port k
    have e0 : wr.cell? ⟨B, 0, none⟩ = some (.int .i64 po) := ((hB8.later hb).2 0 _ rfl).1
    by_cases hlt : (k : Int) < po
    · have hstep : ∀ u2 w2, Ints w2 w8.heap.size u2 (rwaysL po gb (pp, pb) port k ++ [(k : Int)]) → ((k : Int) != port && (gb || !pb || (k : Int) == pp)) = true → Ints w2 w8.heap.size u2 (rwaysL po gb (pp, pb) port (k + 1)) := fun u2 w2 h hc => by
        rw [rways_succ, if_pos hc]; exact h
      have hskip : ((k : Int) != port && (gb || !pb || (k : Int) == pp)) = false → Ints wr w8.heap.size u (rwaysL po gb (pp, pb) port (k + 1)) := fun hc => by
        rw [rways_succ, if_neg (by rw [hc]; simp)]; exact hI
      by_cases hf : (k : Int) = port
      · have hs := hskip (by simp [hf])
        clear hstep hskip
        subst hf
        go_wp2
        go_roundw
        case rel => exact ⟨k + 1, _, rfl, by omega, by simp, hs, hb⟩
        case measure => simp [intOf]; omega
      · cases gb with
        | true =>
          have hs := fun u2 w2 h => hstep u2 w2 h (by simp [hf])
          clear hstep hskip
          go_wp2_with (first
            | (at_builtin; refine wpList_append1 rfl _ _ rfl w8.heap.size u _ (k : Int) rfl hI rfl hb.size (by omega) ?_; intro v2 w2 hI2 hb2 ht2)
            | go_in)
          go_roundw
          case rel => exact ⟨k + 1, _, rfl, by omega, by simp, hs _ _ hI2, hb.trans hb2⟩
          case measure => simp [intOf]; omega
        | false =>
          cases pb with
          | false =>
            have hs := fun u2 w2 h => hstep u2 w2 h (by simp [hf])
            clear hstep hskip
            go_wp2_with (first
              | (at_builtin; refine wpList_append1 rfl _ _ rfl w8.heap.size u _ (k : Int) rfl hI rfl hb.size (by omega) ?_; intro v2 w2 hI2 hb2 ht2)
              | go_in)
            go_roundw
            case rel => exact ⟨k + 1, _, rfl, by omega, by simp, hs _ _ hI2, hb.trans hb2⟩
            case measure => simp [intOf]; omega
          | true =>
            by_cases hq : (k : Int) = pp
            · subst hq
              have hs := fun u2 w2 h => hstep u2 w2 h (by simp [hf])
              clear hstep hskip
              go_wp2_with (first
                | (at_builtin; refine wpList_append1 rfl _ _ rfl w8.heap.size u _ (k : Int) rfl hI rfl hb.size (by omega) ?_; intro v2 w2 hI2 hb2 ht2)
                | go_in)
              go_roundw
              case rel => exact ⟨k + 1, _, rfl, by omega, by simp, hs _ _ hI2, hb.trans hb2⟩
              case measure => simp [intOf]; omega
            · have hs := hskip (by simp [hf, hq])
              have hq2 : ((k : Int) == pp) = false := by simpa using hq
              clear hstep hskip
              go_wp2
              go_roundw
              case rel => exact ⟨k + 1, _, rfl, by omega, by simp, hs, hb⟩
              case measure => simp [intOf]; omega
    · have hkp : po.toNat = k := by omega
      have hR := hI.below hs8
      have hA := hB8.later hb
      have hH := (hL8.later hb).low hsw
      have htt := ht8.later hb
      go_wp2
      go_ret2
      rw [H8.out, H6.out, H7.out]
      exact ⟨_, rfl, hR, _, hA, hH, htt⟩
end Go.Proofs.Ytajknafmlghcgaa
