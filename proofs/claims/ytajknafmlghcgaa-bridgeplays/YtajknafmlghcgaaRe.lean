/- The document's Port; Down of a port that is none. -/
import Derived.Test.YtajknafmlghcgaaRl
namespace Go.Proofs.Ytajknafmlghcgaa
open Go.RowKit Go.Maps
set_option maxRecDepth 100000
set_option linter.unusedVariables false
set_option linter.unusedSimpArgs false

theorem find_at {p : En → Bool} {L : List En} {k : Nat} {e : En} (h : (L.take k).find? p = none) (he : L[k]? = some e) (hp : p e = true) : L.find? p = some e := by
  obtain ⟨hk, rfl⟩ := List.getElem?_eq_some_iff.1 he
  have e : L.find? p = (L.take k ++ L.drop k).find? p := by rw [List.take_append_drop]
  rw [e, List.find?_append, h, List.drop_eq_getElem_cons hk, Option.none_or, List.find?_cons_of_pos hp]
theorem find_on {p : En → Bool} {L : List En} {k : Nat} {e : En} (h : (L.take k).find? p = none) (he : L[k]? = some e) (hp : p e = false) : (L.take (k + 1)).find? p = none := by
  rw [takeE_snoc he, List.find?_append, h]
  simp [hp]
set_option maxHeartbeats 2000000 in
theorem rport_any (B base : Nat) (po ag ro la : Int) (k0 now : Int) (v : Value) (l : List En) (w : World) (hB : At w B (rbV po ag ro la v)) (hL : HR w base v l) (hn : l.length < 5000) (hok : ∀ e ∈ l, okE e) (hg0 : 1 ≤ ag) (hg1 : ag ≤ 1048576) :
    Calls Try.prog 18 #[.pointer (some ⟨B, 0, none⟩), .int .i64 k0, .int .i64 now] w fun e w' => e = .returned (.tuple #[.int .i64 (rportL ag k0 now l).1, .bool (rportL ag k0 now l).2]) ∧ Below w.heap.size w w' := by
  obtain ⟨a0, cap0, rfl⟩ := hL.shape
  go_enter Try.func18, Try.ntmps18
  go_wp2
  go_loopw [8] (fun c wr => ∃ (k : Nat), k ≤ l.length ∧ c = .int .i64 (k : Int) ∧ Hid ((l.take k).find? (fun e => e.1 == k0 && decide (now < e.2.2 + ag)) = none) ∧ Below w.heap.size w wr) (fun c _ => l.length - (intOf c).toNat)
  case atStart => exact ⟨0, Nat.zero_le _, rfl, rfl, Below.refl _ _⟩
  case round =>
    obtain ⟨k, hk, rfl, hF, hb⟩ := hrel
    have hB1 := hB.later hb
    have c4 : wr.cell? ⟨B, 4, none⟩ = some (.slice a0 l.length cap0) := (hB1.2 4 _ rfl).1
    by_cases hlt : k < l.length
    · obtain ⟨e, he⟩ : ∃ e, l[k]? = some e := ⟨_, List.getElem?_eq_getElem hlt⟩
      obtain ⟨g, cap, hv, hg, hr⟩ := hL.cells he
      cases hv
      have hoe := (hok e (List.mem_of_getElem? he)).2
      obtain ⟨ea, ep, et⟩ := e
      have hkl : (k : Int) < (l.length : Int) := by omega
      have r0 : wr.cell? ⟨g, k * 3, none⟩ = some (.int .i64 ea) := later hb (hr 0 _ rfl)
      have r1 : wr.cell? ⟨g, k * 3 + 1, none⟩ = some (.int .i64 ep) := later hb (hr 1 _ rfl)
      have r2 : wr.cell? ⟨g, k * 3 + 2, none⟩ = some (.int .i64 et) := later hb (hr 2 _ rfl)
      by_cases hq : ea = k0
      · subst hq
        go_wp2_with fail
        refine (rfresh_any B po ag ro la _ ea ep et now wr hB1 hoe hg0 hg1).mono ?_
        rintro e w2 ⟨rfl, hb2⟩
        have hb3 := bt hb hb2
        replace c4 := later hb2 c4
        replace r0 := later hb2 r0
        replace r1 := later hb2 r1
        replace r2 := later hb2 r2
        by_cases hf : now < et + ag
        · have hR : rportL ag ea now l = (ep, true) := by unfold rportL; rw [find_at hF.out he (by simp [hf])]
          rw [decide_eq_true hf]
          go_wp2
          go_ret2
          rw [hR]
          exact ⟨rfl, hb3⟩
        · rw [decide_eq_false hf]
          go_wp2
          go_roundw
          case rel => exact ⟨k + 1, by omega, by simp, find_on hF.out he (by simp [hf]), hb3⟩
          case measure => simp [intOf]; omega
      · go_wp2
        go_roundw
        case rel => exact ⟨k + 1, by omega, by simp, find_on hF.out he (by simp [hq]), hb⟩
        case measure => simp [intOf]; omega
    · have hkl : k = l.length := by omega
      subst hkl
      have hR : rportL ag k0 now l = (0, false) := by
        have := hF.out
        rw [List.take_length] at this
        unfold rportL; rw [this]
      clear hF
      go_wp2
      go_ret2
      rw [hR]
      exact ⟨rfl, hb⟩
theorem rdown_f (B : Nat) (po ag ro la : Int) (port : Int) (v : Value) (w : World) (hB : At w B (rbV po ag ro la v)) (hp : hasP po port = false) :
    Calls Try.prog 12 #[.pointer (some ⟨B, 0, none⟩), .int .i64 port] w fun e w' => e = .returned (.int .i64 100) ∧ w' = w := by
  have c0 : w.cell? ⟨B, 0, none⟩ = some (.int .i64 po) := (hB.2 0 _ rfl).1
  go_enter Try.func12, Try.ntmps12
  by_cases h0 : port < 0
  · go_wp2
    go_ret
    exact ⟨rfl, rfl⟩
  · have h1 : po ≤ port := by
      unfold hasP at hp
      rw [decide_eq_true (by omega)] at hp
      simpa using hp
    go_wp2
    go_ret
    exact ⟨rfl, rfl⟩
end Go.Proofs.Ytajknafmlghcgaa
