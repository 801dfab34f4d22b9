/- The document's learn. -/
import Derived.Test.YtajknafmlghcgaaRc
namespace Go.Proofs.Ytajknafmlghcgaa
open Go.RowKit Go.Maps
set_option maxRecDepth 100000
set_option linter.unusedVariables false
set_option linter.unusedSimpArgs false

def rlearnL (ag ro : Int) (l : List En) (e : En) : List En :=
  if ((l.filter fun x => decide (e.2.2 < x.2.2 + ag) && x.1 != e.1).length : Int) < ro then (l.filter fun x => decide (e.2.2 < x.2.2 + ag) && x.1 != e.1) ++ [e] else l.filter fun x => decide (e.2.2 < x.2.2 + ag) && x.1 != e.1
theorem HR.low {w : World} {b b' : Nat} {v : Value} {l : List En} (h : HR w b v l) (hb : b' ≤ b) : HR w b' v l := by
  obtain ⟨h1, h2⟩ := h
  refine ⟨h1, ?_⟩
  rcases h2 with h | ⟨g, cap, cur, a1, a2, a3⟩
  · exact Or.inl h
  · exact Or.inr ⟨g, cap, cur, a1, Nat.le_trans hb a2, a3⟩
theorem HR.later {w w' : World} {b : Nat} {v : Value} {l : List En} (h : HR w b v l) (hb : Below w.heap.size w w') : HR w' b v l := h.turn (S := fun _ => False) (Turn.of_below hb) (fun _ _ h => h)
theorem HR.shape {w : World} {b : Nat} {v : Value} {l : List En} (h : HR w b v l) : ∃ a c, v = .slice a l.length c := by
  rcases h.2 with ⟨rfl, h0⟩ | ⟨g, cap, cur, rfl, -⟩
  · exact ⟨none, 0, by rw [h0]⟩
  · exact ⟨_, _, rfl⟩
set_option maxHeartbeats 2000000 in
theorem rlearn_any (B base : Nat) (po ag ro la : Int) (k0 port now : Int) (v : Value) (l : List En) (w : World) (hB : At w B (rbV po ag ro la v)) (hL : HR w base v l) (hbB : B < base) (hbw : base ≤ w.heap.size) (hn : l.length < 5000) (hok : ∀ e ∈ l, okE e) (hg0 : 1 ≤ ag) (hg1 : ag ≤ 1048576) :
    Calls Try.prog 31 #[.pointer (some ⟨B, 0, none⟩), .int .i64 k0, .int .i64 port, .int .i64 now] w fun e w' => ∃ v', e = .returned (.tuple #[]) ∧ At w' B (rbV po ag ro la v') ∧ HR w' w.heap.size v' (rlearnL ag ro l (k0, port, now)) ∧ Turn (fun k => k = B) w w' := by
  obtain ⟨a0, cap0, rfl⟩ := hL.shape
  go_enter Try.func31, Try.ntmps31
  go_wp2
  go_loopw [8, 9] (fun out c wr => ∃ (k : Nat) (u : Value), u = out ∧ k ≤ l.length ∧ c = .int .i64 (k : Int) ∧ HR wr w.heap.size u ((l.take k).filter fun x => decide (now < x.2.2 + ag) && x.1 != k0) ∧ Below w.heap.size w wr) (fun _ c _ => l.length - (intOf c).toNat)
  case atStart => exact ⟨0, _, rfl, Nat.zero_le _, rfl, HR.nil _ _, Below.refl _ _⟩
  case round =>
    obtain ⟨k, u, rfl, hk, rfl, hU, hb⟩ := hrel
    have hB1 := hB.later hb
    have c4 : wr.cell? ⟨B, 4, none⟩ = some (.slice a0 l.length cap0) := (hB1.2 4 _ rfl).1
    have hul : ((l.take k).filter fun x => decide (now < x.2.2 + ag) && x.1 != k0).length < 1000000 := by
      have := List.length_filter_le (fun x : En => decide (now < x.2.2 + ag) && x.1 != k0) (l.take k)
      rw [List.length_take] at this
      omega
    by_cases hlt : k < l.length
    · obtain ⟨e, he⟩ : ∃ e, l[k]? = some e := ⟨_, List.getElem?_eq_getElem hlt⟩
      obtain ⟨g, cap, hv, hg, hr⟩ := hL.cells he
      cases hv
      have hoe := (hok e (List.mem_of_getElem? he)).2
      obtain ⟨ea, ep, et⟩ := e
      have hkl : (k : Int) < (l.length : Int) := by omega
      have r0 : wr.cell? ⟨g, k * 3, none⟩ = some (.int .i64 ea) := later hb (hr 0 _ rfl)
      have r1 : wr.cell? ⟨g, k * 3 + 1, none⟩ = some (.int .i64 ep) := later hb (hr 1 _ rfl)
      have r2 : wr.cell? ⟨g, k * 3 + 2, none⟩ = some (.int .i64 et) := later hb (hr 2 _ rfl)
      go_wp2_with fail
      refine (rfresh_any B po ag ro la _ ea ep et now wr hB1 hoe hg0 hg1).mono ?_
      rintro e w2 ⟨rfl, hb2⟩
      have hb3 := bt hb hb2
      have hU2 := hU.later hb2
      replace c4 := later hb2 c4
      replace r0 := later hb2 r0
      replace r1 := later hb2 r1
      replace r2 := later hb2 r2
      by_cases hf : now < et + ag
      · rw [decide_eq_true hf]
        by_cases hq : ea = k0
        · subst hq
          go_wp2
          go_roundw
          case rel => exact ⟨k + 1, _, rfl, by omega, by simp, by rw [takeE_snoc he, List.filter_append]; simpa using hU2, hb3⟩
          case measure => simp [intOf]; omega
        · go_wp2_with (first
            | (at_builtin; refine wpList_append3 rfl _ _ rfl w.heap.size u _ (ea, ep, et) rfl hU2 rfl hb3.size hul ?_; intro u2 w4 hU4 hb4 ht4)
            | go_in)
          go_roundw
          case rel => exact ⟨k + 1, _, rfl, by omega, by simp, by rw [takeE_snoc he, List.filter_append]; simpa [hq, hf] using hU4, hb3.trans hb4⟩
          case measure => simp [intOf]; omega
      · have hz : List.filter (fun x : En => decide (now < x.2.2 + ag) && x.1 != k0) [(ea, ep, et)] = [] := by simp [hf]
        rw [decide_eq_false hf]
        go_wp2
        go_roundw
        case rel => exact ⟨k + 1, _, rfl, by omega, by simp, by rw [takeE_snoc he, List.filter_append, hz, List.append_nil]; exact hU2, hb3⟩
        case measure => simp [intOf]; omega
    · have hkl : k = l.length := by omega
      subst hkl
      rw [List.take_length] at hU hul
      have c2 : wr.cell? ⟨B, 2, none⟩ = some (.int .i64 ro) := (hB1.2 2 _ rfl).1
      have f4 : wr.frozen? ⟨B, 4, none⟩ = false := (hB1.2 4 _ rfl).2
      obtain ⟨au, cu, rfl⟩ := hU.shape
      generalize hfl : (l.filter fun x : En => decide (now < x.2.2 + ag) && x.1 != k0) = fl at *
      by_cases hs : (fl.length : Int) < ro
      · have hR : rlearnL ag ro l (k0, port, now) = fl ++ [(k0, port, now)] := by unfold rlearnL; rw [hfl, if_pos hs]
        go_wp2_with (first
          | (at_builtin; refine wpList_append3 rfl _ _ rfl w.heap.size (.slice au fl.length cu) fl (k0, port, now) rfl hU rfl hb.size hul ?_; intro u2 w4 hU4 hb4 ht4; obtain ⟨a4, q4, rfl⟩ := hU4.shape; have hB4 := hB1.turn ht4 (fun he => by have := hU.ge B he; omega); have c4b : w4.cell? ⟨B, 4, none⟩ = some (.slice a0 l.length cap0) := (hB4.2 4 _ rfl).1; have f4b : w4.frozen? ⟨B, 4, none⟩ = false := (hB4.2 4 _ rfl).2)
          | go_in)
        go_end0
        have hl1 : (fl ++ [(k0, port, now)]).length = fl.length + 1 := by simp
        rw [hl1] at hU4
        have ts := turn_set w4 B 4 (.slice a4 (fl.length + 1) q4)
        refine ⟨_, rfl, hB4.set 4 _, ?_, (Turn.of_below (hb.trans hb4)).trans ts⟩
        rw [hR]
        exact hU4.turn ts (fun k hk he => by have := hU4.ge k hk; omega)
      · have hR : rlearnL ag ro l (k0, port, now) = fl := by unfold rlearnL; rw [hfl, if_neg hs]
        go_wp2
        go_end0
        have ts := turn_set wr B 4 (.slice au fl.length cu)
        exact ⟨rfl, .slice au fl.length cu, hB1.set 4 _, hU.turn ts (fun k hk he => by have := hU.ge k hk; omega), (Turn.of_below hb).trans ts⟩
end Go.Proofs.Ytajknafmlghcgaa
