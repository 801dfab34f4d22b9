/- The document's Down. -/
import Derived.Test.YtajknafmlghcgaaRb
namespace Go.Proofs.Ytajknafmlghcgaa
open Go.RowKit Go.Maps
set_option maxRecDepth 100000
set_option linter.unusedVariables false
set_option linter.unusedSimpArgs false

theorem sizeH : (Try.prog.info? 68).map (·.size) = some 3 := by kernel_rfl
theorem takeE_snoc {l : List En} {k : Nat} {e : En} (h : l[k]? = some e) : l.take (k + 1) = l.take k ++ [e] := by
  obtain ⟨hk, rfl⟩ := List.getElem?_eq_some_iff.1 h
  rw [List.take_succ_eq_append_getElem hk]
set_option maxHeartbeats 2000000 in
theorem rdown_t (B base : Nat) (po ag ro la : Int) (port : Int) (v : Value) (l : List En) (w : World) (hB : At w B (rbV po ag ro la v)) (hL : HR w base v l) (hbB : B < base) (hbw : base ≤ w.heap.size) (hn : l.length < 5000) (hp : hasP po port = true) :
    Calls Try.prog 12 #[.pointer (some ⟨B, 0, none⟩), .int .i64 port] w fun e w' => ∃ v', e = .returned (.int .i64 0) ∧ At w' B (rbV po ag ro la v') ∧ HR w' base v' (l.filter fun e => e.2.1 != port) ∧ Turn (fun k => k = B) w w' := by
  have hp' : 0 ≤ port ∧ port < po := by unfold hasP at hp; simpa using hp
  have c0 : w.cell? ⟨B, 0, none⟩ = some (.int .i64 po) := (hB.2 0 _ rfl).1
  obtain ⟨a0, cap0, hve⟩ : ∃ a c, v = .slice a l.length c := by
    rcases hL.2 with ⟨rfl, h0⟩ | ⟨g, cap, cur, rfl, -⟩
    · exact ⟨none, 0, by rw [h0]⟩
    · exact ⟨_, _, rfl⟩
  subst hve
  go_enter Try.func12, Try.ntmps12
  go_wp2
  go_loopw [5, 6] (fun out c wr => ∃ (k : Nat) (u : Value), u = out ∧ k ≤ l.length ∧ c = .int .i64 (k : Int) ∧ HR wr w.heap.size u ((l.take k).filter fun e => e.2.1 != port) ∧ Below w.heap.size w wr) (fun _ c _ => l.length - (intOf c).toNat)
  case atStart => exact ⟨0, _, rfl, Nat.zero_le _, rfl, HR.nil _ _, Below.refl _ _⟩
  case round =>
    obtain ⟨k, u, rfl, hk, rfl, hU, hb⟩ := hrel
    have c4 : wr.cell? ⟨B, 4, none⟩ = some (.slice a0 l.length cap0) := ((hB.later hb).2 4 _ rfl).1
    have f4 : wr.frozen? ⟨B, 4, none⟩ = false := ((hB.later hb).2 4 _ rfl).2
    by_cases hlt : k < l.length
    · obtain ⟨e, he⟩ : ∃ e, l[k]? = some e := ⟨_, List.getElem?_eq_getElem hlt⟩
      obtain ⟨g, cap, hv, hg, hr⟩ := hL.cells he
      cases hv
      obtain ⟨ea, ep, et⟩ := e
      have r0 : wr.cell? ⟨g, k * 3, none⟩ = some (.int .i64 ea) := later hb (hr 0 _ rfl)
      have r1 : wr.cell? ⟨g, k * 3 + 1, none⟩ = some (.int .i64 ep) := later hb (hr 1 _ rfl)
      have r2 : wr.cell? ⟨g, k * 3 + 2, none⟩ = some (.int .i64 et) := later hb (hr 2 _ rfl)
      have hul : ((l.take k).filter fun e => e.2.1 != port).length < 1000000 := by
        have := List.length_filter_le (fun e : En => e.2.1 != port) (l.take k)
        rw [List.length_take] at this
        omega
      have hkl : (k : Int) < (l.length : Int) := by omega
      by_cases hq : ep = port
      · subst hq
        go_wp2
        go_roundw
        case rel => exact ⟨k + 1, _, rfl, by omega, by simp, by rw [takeE_snoc he, List.filter_append]; simpa using hU, hb⟩
        case measure => simp [intOf]; omega
      · go_wp2_with (first
          | (at_builtin; refine wpList_append3 rfl _ _ rfl w.heap.size u _ (ea, ep, et) rfl hU rfl hb.size hul ?_; intro u2 w2 hU2 hb2 ht2)
          | go_in)
        go_roundw
        case rel => exact ⟨k + 1, _, rfl, by omega, by simp, by rw [takeE_snoc he, List.filter_append]; simpa [hq] using hU2, hb.trans hb2⟩
        case measure => simp [intOf]; omega
    · have hkl : k = l.length := by omega
      subst hkl
      rw [List.take_length] at hU
      have hB1 := hB.later hb
      obtain ⟨au, nu, cu, rfl⟩ : ∃ a n c, u = .slice a n c := by
        rcases hU.2 with ⟨rfl, h0⟩ | ⟨g, cap, cur, rfl, -⟩
        · exact ⟨_, _, _, rfl⟩
        · exact ⟨_, _, _, rfl⟩
      go_wp2
      go_ret
      have ts := turn_set wr B 4 (.slice au nu cu)
      refine ⟨_, rfl, hB1.set 4 (.slice au nu cu), ?_, (Turn.of_below hb).trans ts⟩
      have h1 : HR wr base (.slice au nu cu) (l.filter fun e => e.2.1 != port) := by
        obtain ⟨i1, i2⟩ := hU
        refine ⟨i1, ?_⟩
        rcases i2 with h | ⟨g, cap, cur, a1, a2, a3⟩
        · exact Or.inl h
        · exact Or.inr ⟨g, cap, cur, a1, by omega, a3⟩
      exact h1.turn ts (fun k hk he => by have := hU.ge k hk; omega)
end Go.Proofs.Ytajknafmlghcgaa
