/- BridgeDown, walked. -/
import Derived.Test.YtajknafmlghcgaaBm
import Derived.Test.YtajknafmlghcgaaBj
import Derived.Test.YtajknafmlghcgaaRl
import Derived.Test.YtajknafmlghcgaaFlat
import Derived.Deep.Cut
import Derived.Deep.CutRange
import Derived.Deep.RegionWith
namespace Go.Proofs.Ytajknafmlghcgaa
open Go.RowKit Go.Maps
set_option maxRecDepth 100000
set_option linter.unusedVariables false
set_option linter.unusedSimpArgs false

theorem ne_of' {w : World} {B M : Nat} {vs : Array Value} {x : Value} {l : List En} (hA : At w B vs) (h0 : vs[0]? = some x) (hL : Lrn w M l) : B ≠ M := by
  intro e
  subst e
  obtain ⟨⟨es, clock, hb, -⟩, -⟩ := hL
  have := (hA.2 0 x h0).1
  simp [World.cell?, hb] at this
/-- Take of any frame at a port that is one, at a tick that may be. -/
theorem take_go (B M : Nat) (po ag ro la : Int) (port td fd ty now : Int) (da : ByteArray) (l : List En) (w : World) (hB : At w B (brV po ag ro la M)) (hM : Lrn w M l) (hd : da.size ≤ maxLen) (hp : hasP po port = true) (ht : tickB la now = true) (h0 : 1 ≤ po) (h1 : po ≤ 16) (hg0 : 1 ≤ ag) (hg1 : ag ≤ 1048576) (hla : 0 ≤ la) (hn : l.length < 5000) :
    Calls Try.prog 13 #[.pointer (some ⟨B, 0, none⟩), .int .i64 port, .agg #[.int .i64 td, .int .i64 fd, .int .i64 ty, .string da], .int .i64 now] w fun e w' => ∃ v c la', e = .returned (.tuple #[v, .int .i64 c]) ∧ At w' B (brV po ag ro la' M) ∧ Lrn w' M (if mayB td fd ty da.size = true then learnL ro (oldL ag now l) (fd, port, now) else l) ∧ (la' = la ∨ la' = now) ∧ Turn (fun k => k = M ∨ k = B) w w' := by
  cases hm : mayB td fd ty da.size with
  | false =>
    refine (take_3 B M po ag ro la port td fd ty now da l w hB hM hd hp ht hm).mono ?_
    rintro e w' ⟨rfl, hb⟩
    exact ⟨_, _, la, rfl, hB.later hb, by simpa using hM.later hb, Or.inl rfl, Turn.of_below hb⟩
  | true =>
    refine (take_4 B M po ag ro la port td fd ty now da l w hB hM hd hp ht hm h0 h1 hg0 hg1 hla hn).mono ?_
    rintro e w' ⟨v, rfl, hI, hA, hL, hT⟩
    exact ⟨_, _, now, rfl, hA, by simpa using hL, Or.inr rfl, hT⟩
theorem Turn.undrew' {S : Nat → Prop} {w w' : World} (h : Turn S w.drew w') : Turn S w w' := ⟨h.os, h.tape, h.output, h.size, h.block⟩
theorem known_all {w : World} {M : Nat} {l : List En} (h : Lrn w M l) {now : Int} (hn : now < 1000) : knownL 1000 now l = l.map (·.1) := by unfold knownL; rw [old_none h hn]
theorem lk_filter {l : List En} (hr : Rise l) {k p t port : Int} (hm : (k, p, t) ∈ l) : lk (l.filter fun e => !(e.2.1 == port)) k = if p = port then none else some (p, t) := by
  have hr' : Rise (l.filter fun e => !(e.2.1 == port)) := List.Pairwise.filter _ hr
  by_cases h : p = port
  · rw [if_pos h]
    cases hq : lk (l.filter fun e => !(e.2.1 == port)) k with
    | none => rfl
    | some c =>
      have h1 := lk_mem (p := c.1) (t := c.2) hq
      have h2 := List.mem_filter.1 h1
      have := uniq hr h2.1 hm rfl
      cases this
      simp [h] at h2
  · rw [if_neg h]
    exact lk_of_mem hr' (List.mem_filter.2 ⟨hm, by simp [h]⟩)
theorem portL_of {l : List En} {k p t : Int} {now : Int} (h : lk l k = some (p, t)) (ht : 0 ≤ t) (hn : now < 1000) : portL l 1000 k now = (p, true) := by
  unfold portL; rw [h]; simp; omega
theorem portL_no {l : List En} {k : Int} {now ag : Int} (h : lk l k = none) : portL l ag k now = (0, false) := by unfold portL; rw [h]
theorem Rise.keys {l : List En} (hr : Rise l) {i j : Nat} {e e' : En} (hi : l[i]? = some e) (hj : l[j]? = some e') (hk : e.1 = e'.1) : e = e' := uniq hr (List.mem_of_getElem? hi) (List.mem_of_getElem? hj) hk
set_option maxHeartbeats 8000000 in
theorem down_law (a : Option Addr) (n cap : Nat) (port : Int) (w : World) (hr : Flat.Rows w a n 7 [.i, .i, .i, .i, .i, .i, .s]) (hz : n < 1000000000000000) :
    Calls Try.prog 6 #[.slice a n cap, .int .i64 port] w fun e w' => e = .returned (.bool true) ∧ Below w.heap.size w w' := by
  have HA : Hid (Flat.Rows w a n 7 [.i, .i, .i, .i, .i, .i, .s]) := hr
  clear hr
  have hmm := @run_makeMap Try.prog
  go_enter Try.func6, Try.ntmps6
  go_wp2_with fail
  refine (new_t 4 1000 200 _ (by decide)).mono ?_
  rintro e w1 ⟨B, M, rfl, hBb, hMb, hA1, hM1, hb2⟩
  go_wp2_with fail
  refine (works_any _).mono ?_
  rintro e w3 ⟨rfl, hb4⟩
  go_wp2_with fail
  refine (among_any port 4 w3 (by decide) (by decide)).mono ?_
  rintro e w3 ⟨rfl, rfl⟩
  have hp0 : 0 ≤ port % 4 := Int.emod_nonneg _ (by decide)
  have hp1 : port % 4 < 4 := Int.emod_lt_of_pos _ (by decide)
  generalize port % 4 = pt0 at *
  have hBM := ne_of' hA1 rfl hM1
  have hA3 := hA1.later hb4
  have hM3 := hM1.later hb4
  have hb0 := bt hb2 hb4
  clear hA1 hM1 hb2 hb4
  go_wp2
  go_loopw [7] (fun i wr => ∃ (k : Nat) (l : List En) (la : Int), k ≤ n ∧ k ≤ 40 ∧ i = .int .i64 (k : Int) ∧ At wr B (brV 4 1000 200 la M) ∧ Lrn wr M l ∧ 0 ≤ la ∧ la ≤ (k : Int) ∧ l.length ≤ 200 ∧ Below w.heap.size w wr) (fun i _ => n - (intOf i).toNat)
  case atStart => exact ⟨0, [], 0, Nat.zero_le _, by decide, rfl, hA3, hM3, by decide, by decide, by simp, hb0⟩
  case round =>
    clear hA3 hM3 hb0
    obtain ⟨k, l, la, hkn, hk40, rfl, hA, hM, hla0, hla1, hlen, hb⟩ := hrel
    by_cases hlt : k < n ∧ k < 40
    · obtain ⟨ab, off, rfl, hrow⟩ : ∃ b off, a = some ⟨b, off, none⟩ ∧ ∀ k, k < n → ∃ cs : List Value, Flat.Ok [.i, .i, .i, .i, .i, .i, .s] cs ∧ ∀ j v, cs[j]? = some v → w.cell? ⟨b, off + k * 7 + j, none⟩ = some v := by
        rcases HA.out with h | h
        · omega
        · exact h
      obtain ⟨cs, ⟨hcl, hck⟩, hcc⟩ := hrow k hlt.1
      clear hrow
      match cs, hcl with
      | [v0, v1, v2, v3, v4, v5, v6], _ =>
      obtain ⟨kd, rfl, wkd⟩ := hck 0 _ _ rfl rfl
      obtain ⟨pt, rfl, wpt⟩ := hck 1 _ _ rfl rfl
      obtain ⟨nw, rfl, wnw⟩ := hck 2 _ _ rfl rfl
      obtain ⟨td, rfl, wtd⟩ := hck 3 _ _ rfl rfl
      obtain ⟨fd, rfl, wfd⟩ := hck 4 _ _ rfl rfl
      obtain ⟨ty, rfl, wty⟩ := hck 5 _ _ rfl rfl
      obtain ⟨da, rfl, wda⟩ := hck 6 _ _ rfl rfl
      have x1 := later hb (hcc 1 _ rfl)
      have x3 := later hb (hcc 3 _ rfl)
      have x4 := later hb (hcc 4 _ rfl)
      have x5 := later hb (hcc 5 _ rfl)
      have x6 := later hb (hcc 6 _ rfl)
      clear hcc hck
      have hdM : da.size ≤ maxLen := by unfold maxLen; omega
      have hk1 : (k : Int) < (n : Int) := by omega
      have hk2 : (k : Int) < 40 := by omega
      have hk3 : (0 : Int) ≤ (k : Int) := by omega
      have hq0 : 0 ≤ pt % 4 := Int.emod_nonneg _ (by decide)
      have hq1 : pt % 4 < 4 := Int.emod_lt_of_pos _ (by decide)
      have hP : hasP 4 (pt % 4) = true := by unfold hasP; rw [decide_eq_true hq0, decide_eq_true hq1]; rfl
      have hT : tickB la (k : Int) = true := decide_eq_true ⟨hla1, by omega⟩
      go_upto_region 8 with fail
      go_region_with (first
        | (go_at_call 10; refine (among_any pt 4 _ (by decide) (by decide)).mono ?_; rintro e w' ⟨rfl, rfl⟩)
        | (go_at_call 13; refine (take_go B M 4 1000 200 la (pt % 4) td fd ty (k : Int) da l _ (by exact hA) (by exact hM) hdM hP hT (by decide) (by decide) (by decide) (by decide) hla0 (by omega)).mono ?_; rintro e w5 ⟨v5, c5, la5, rfl, hA5, hM5, hl5, ht5'⟩))
      all_goals
        have ht5 : Turn (fun k => k = M ∨ k = B) wr w5 := (by first | exact ht5' | exact ht5'.undrew' | exact ht5'.undrew'.undrew' | exact ht5'.undrew'.undrew'.undrew')
        have hb5 : Below w.heap.size w w5 := hb.trans (ht5.below hb.size (fun j hj he => by omega))
        rw [old_none hM (by omega)] at hM5
        have hlen5 : (if mayB td fd ty da.size = true then learnL 200 l (fd, pt % 4, (k : Int)) else l).length ≤ 200 := by
          split
          · have := learn_len (q := l) (ro := 200) (e := (fd, pt % 4, (k : Int))) (by omega) (by decide)
            omega
          · exact hlen
        clear hA hM hb
        go_wp2
        go_roundw
        case rel => exact ⟨k + 1, _, la5, by omega, by omega, by simp, hA5, hM5, by omega, by omega, hlen5, hb5⟩
        case measure => simp [intOf]; omega
    · clear HA
      have q1 := bel1 wr (.map #[] 0)
      have hA1 := hA.later q1
      have hM1 := hM.later q1
      have hI1 := IM.made wr
      have hb1 := bt hb q1
      have hBK : B < wr.heap.size := hA.1
      have hMK : M < wr.heap.size := hM.1.lt
      have hwK : w.heap.size ≤ wr.heap.size := hb.size
      have hK1 : wr.heap.size < (wr.alloc (.map #[] 0)).heap.size := by simp
      clear hA hM hb q1
      go_wp2_with fail
      all_goals
        generalize wr.alloc (.map #[] 0) = w1 at *
        generalize wr.heap.size = K at *
        refine (known_any B M 4 1000 200 la 50 l w1 hA1 hM1 (by decide) (by decide) (by omega)).mono ?_
        rintro e w2 ⟨u, rfl, hu, hb2⟩
        rw [known_all hM1 (by decide)] at hu
        have hA2 := hA1.later hb2
        have hM2 := hM1.later hb2
        have hI2 := hI1.later hb2
        have hbw2 := bt hb1 hb2
        have hrl : Rise l := hM1.2.1
        have hok : ∀ e ∈ l, okE e := hM1.2.2
        have hs2 : w1.heap.size ≤ w2.heap.size := hb2.size
        obtain ⟨au, cu, rfl, -⟩ := hu.row
        rw [List.length_map] at hu ⊢
        clear hA1 hM1 hI1 hb1
        go_wp2
        go_loopw [63] (fun i wr => ∃ (k : Nat) (g : Int → Option Int), k ≤ l.length ∧ i = .int .i64 (k : Int) ∧ At wr B (brV 4 1000 200 la M) ∧ Lrn wr M l ∧ IM wr K k g ∧ Hid (∀ j e, j < k → l[j]? = some e → g e.1 = some e.2.1) ∧ Ints wr w1.heap.size (.slice au l.length cu) (l.map (·.1)) ∧ Below w.heap.size w wr) (fun i _ => l.length - (intOf i).toNat)
        case atStart => exact ⟨0, _, Nat.zero_le _, rfl, hA2, hM2, hI2, fun j e hj => by omega, hu, hbw2⟩
        case round =>
          clear hA2 hM2 hI2 hu hbw2
          obtain ⟨k, g, hk, rfl, hA, hM, hI, hG, hU, hb⟩ := hrel
          by_cases hkl : k < l.length
          · obtain ⟨e, he⟩ : ∃ e, l[k]? = some e := ⟨_, List.getElem?_eq_getElem hkl⟩
            have hmem := List.mem_of_getElem? he
            have hoe := hok e hmem
            have HE : Hid (l[k]? = some e) := he
            obtain ⟨b, off, rfl, hc⟩ : ∃ b off, au = some ⟨b, off, none⟩ ∧ ∀ j, j < (l.map (·.1)).length → wr.cell? ⟨b, off + j, none⟩ = some (.int .i64 ((l.map (·.1)).getD j 0)) := by
              rcases row_of hU with h | h
              · rw [List.map_eq_nil_iff] at h; subst h; simp at hkl
              · exact h
            have hc0 := hc k (by simpa using hkl)
            rw [show (l.map (·.1)).getD k 0 = e.1 by simp [List.getD, he]] at hc0
            clear hc he
            obtain ⟨ea, ep, et⟩ := e
            have hlk := lk_of_mem hrl hmem
            have hpo := portL_of (now := 50) hlk hoe.2.2.1 (by decide)
            have hkz : (k : Int) < (l.length : Int) := by omega
            go_wp2_with fail
            refine (port_any B M 4 1000 200 la ea 50 l _ hA hM (by decide) (by decide) hoe.1).mono ?_
            rintro e w5 ⟨rfl, hb5⟩
            rw [hpo]
            have hA5 := hA.later hb5
            have hM5 := hM.later hb5
            have hI5 := hI.later hb5
            have hU5 : Ints w5 _ _ _ := hU.turn (S := fun _ => False) (Turn.of_below hb5) (fun _ _ h => h)
            have hb05 := bt hb hb5
            have hwp : (Lit.int .i64 ep).wf = true := by have := hoe.2.1; exact WalkArith.wf_i64 (by dsimp only at this; omega)
            have hn5 : k < maxLen := by unfold maxLen; omega
            obtain ⟨w6, hput, hI6, ht6⟩ := hI5.put hn5 hoe.1 hwp
            have hA6 := hA5.turn ht6 (by omega)
            have hM6 := hM5.turn ht6 (by omega)
            have hU6 := hU5.turn ht6 (fun j hj he => by omega)
            have hb06 : Below w.heap.size w w6 := hb05.trans (ht6.below hb05.size (fun j hj he => by omega))
            clear hA hM hI hU hb hA5 hM5 hI5 hU5 hb05
            go_wp2
            go_roundw
            case rel =>
              refine ⟨k + 1, _, by omega, by simp, hA6, hM6, hI6, fun j e hj he => ?_, hU6, hb06⟩
              by_cases hx : e.1 = ea
              · have := hrl.keys he HE.out hx
                subst this
                simp
              · simp only [hx, if_false]
                by_cases hjk : j = k
                · subst hjk
                  rw [HE.out] at he
                  cases he
                  exact absurd rfl hx
                · exact hG.out j e (by omega) he
            case measure => simp [intOf]; omega
          · have hke : k = l.length := by omega
            subst hke
            have hP : hasP 4 pt0 = true := by unfold hasP; rw [decide_eq_true hp0, decide_eq_true hp1]; rfl
            go_wp2_with fail
            refine (down_t B M 4 1000 200 la pt0 l wr hA hM (by decide) (by decide) hP).mono ?_
            rintro e w7 ⟨rfl, hM7, ht7⟩
            have hA7 := hA.turn ht7 hBM
            have hI7 := hI.turn ht7 (by omega)
            have hU7 := hU.turn ht7 (fun j hj he => by omega)
            have hb7 : Below w.heap.size w w7 := hb.trans (ht7.below hb.size (fun j hj he => by omega))
            clear hA hM hI hU hb
            go_wp2
            go_loopw [12, 82] (fun s i wr => ∃ (k : Nat), k ≤ l.length ∧ i = .int .i64 (k : Int) ∧ s = .int .i64 (((l.take k).filter fun e => !(e.2.1 == pt0)).length : Int) ∧ At wr B (brV 4 1000 200 la M) ∧ Lrn wr M (l.filter fun e => !(e.2.1 == pt0)) ∧ IM wr K l.length g ∧ Ints wr w1.heap.size (.slice au l.length cu) (l.map (·.1)) ∧ Below w.heap.size w wr) (fun _ i _ => l.length - (intOf i).toNat)
            case atStart => exact ⟨0, Nat.zero_le _, rfl, by simp, hA7, hM7, hI7, hU7, hb7⟩
            case round =>
              clear hA7 hM7 hI7 hU7 hb7
              obtain ⟨k, hk, rfl, rfl, hA, hM, hI, hU, hb⟩ := hrel
              by_cases hkl : k < l.length
              · obtain ⟨e, he⟩ : ∃ e, l[k]? = some e := ⟨_, List.getElem?_eq_getElem hkl⟩
                have hmem := List.mem_of_getElem? he
                have hoe := hok e hmem
                have hge := hG.out k e hkl he
                have hsn := congrArg (fun q => (q.filter fun e : En => !(e.2.1 == pt0)).length) (takeE_snoc he)
                simp only [List.filter_append, List.length_append] at hsn
                obtain ⟨b, off, rfl, hc⟩ : ∃ b off, au = some ⟨b, off, none⟩ ∧ ∀ j, j < (l.map (·.1)).length → wr.cell? ⟨b, off + j, none⟩ = some (.int .i64 ((l.map (·.1)).getD j 0)) := by
                  rcases row_of hU with h | h
                  · rw [List.map_eq_nil_iff] at h; subst h; simp at hkl
                  · exact h
                have hc0 := hc k (by simpa using hkl)
                rw [show (l.map (·.1)).getD k 0 = e.1 by simp [List.getD, he]] at hc0
                clear hc he
                obtain ⟨ea, ep, et⟩ := e
                have hlook := hI.look hoe.1
                rw [hge, Option.getD_some] at hlook
                have hlf := lk_filter (port := pt0) hrl hmem
                have hkz : (k : Int) < (l.length : Int) := by omega
                have hll : (l.filter fun e => !(e.2.1 == pt0)).length ≤ l.length := List.length_filter_le _ _
                have hlk2 : ((l.take k).filter fun e => !(e.2.1 == pt0)).length ≤ k := Nat.le_trans (List.length_filter_le _ _) (by rw [List.length_take]; omega)
                generalize ((l.take k).filter fun e => !(e.2.1 == pt0)).length = c at *
                have HS : Hid (((l.take (k + 1)).filter fun e => !(e.2.1 == pt0)).length = c + ([(ea, ep, et)].filter fun e : En => !(e.2.1 == pt0)).length) := hsn
                clear hsn hge
                go_wp2_with fail
                refine (port_any B M 4 1000 200 la ea 50 _ _ hA hM (by decide) (by decide) hoe.1).mono ?_
                rintro e w5 ⟨rfl, hb5⟩
                have hA5 := hA.later hb5
                have hM5 := hM.later hb5
                have hI5 := hI.later hb5
                have hU5 : Ints w5 _ _ _ := hU.turn (S := fun _ => False) (Turn.of_below hb5) (fun _ _ h => h)
                have hb05 := bt hb hb5
                clear hA hM hI hU hb
                by_cases hpp : ep = pt0
                · rw [if_pos hpp] at hlf
                  rw [portL_no hlf]
                  subst hpp
                  go_wp2
                  go_roundw
                  case rel => exact ⟨k + 1, by omega, by simp, by rw [HS.out]; simp, hA5, hM5, hI5, hU5, hb05⟩
                  case measure => simp [intOf]; omega
                · rw [if_neg hpp] at hlf
                  rw [portL_of hlf hoe.2.2.1 (by decide)]
                  have hne1 : (ep != pt0) = true := by simp [hpp]
                  have hne2 : (ep == pt0) = false := by simp [hpp]
                  go_wp2
                  go_roundw
                  case rel => exact ⟨k + 1, by omega, by simp, by rw [HS.out]; simp [hpp], hA5, hM5, hI5, hU5, hb05⟩
                  case measure => simp [intOf]; omega
              · have hke : k = l.length := by omega
                subst hke
                rw [List.take_length]
                go_wp2_with fail
                refine (known_any B M 4 1000 200 la 50 _ wr hA hM (by decide) (by decide) (by have := List.length_filter_le (fun e : En => !(e.2.1 == pt0)) l; omega)).mono ?_
                rintro e w8 ⟨u8, rfl, hu8, hb8⟩
                rw [known_all hM (by decide)] at hu8
                obtain ⟨a8, c8, rfl, -⟩ := hu8.row
                rw [List.length_map]
                go_wp2
                go_ret
                exact ⟨rfl, bt hb hb8⟩
end Go.Proofs.Ytajknafmlghcgaa
