/- the texts Oh, in part, merged by program -/
import Derived.Test.YtkpdmgoldngdaaaGreatDoorProg
import Derived.Test.YtkpdmgoldngdaaaGreatDoorRows
import Derived.WalkKit
import Derived.WalkSpells
import Derived.RegionTactic
import Derived.Below
import Derived.Laws.OwnMore
import Derived.Laws.AppendOwn
import Derived.Laws.AppendOwnNone
import Derived.Deep.LoopGhost
import Derived.Deep.RegionHeld3
import Derived.Deep.QuietTactic
import Derived.BigQuiet
import Derived.WalkSmall
import Derived.Laws.StructEq
import Derived.Shelf.Strings.Repeat
import Derived.Test.YtkpdmgoldngdaaaGreatDoorMA01
import Derived.Test.YtkpdmgoldngdaaaGreatDoorMA04
import Derived.Test.YtkpdmgoldngdaaaGreatDoorMD01
import Derived.Test.YtkpdmgoldngdaaaGreatDoorMD02
import Derived.Test.YtkpdmgoldngdaaaGreatDoorMG01
import Derived.Test.YtkpdmgoldngdaaaGreatDoorMG03
import Derived.Test.YtkpdmgoldngdaaaGreatDoorMH01
import Derived.Test.YtkpdmgoldngdaaaGreatDoorMH02
import Derived.Test.YtkpdmgoldngdaaaGreatDoorMO01
namespace Go.Proofs.YtkpdmgoldngdaaaGreatDoor
open Go.RowKit
set_option maxRecDepth 100000

set_option maxRecDepth 100000 in
set_option maxHeartbeats 4000000 in
theorem rsame_any (m c t ec : Int) (sd ok sp : Bool) (v : Value) (rs : List (Int × Int)) (m' c' t' ec' : Int) (sd' ok' sp' : Bool) (v' : Value) (rs' : List (Int × Int)) (w : World) (hv : Rgs w v rs) (hv' : Rgs w v' rs') (hn : rs.length ≤ 17592186044416) (hn' : rs'.length ≤ 17592186044416) :
    Calls Tryz.prog 67 #[.agg #[.int .i64 m, .int .i64 c, .int .i64 t, .int .i64 ec, .bool sd, .bool ok, .bool sp, v], .agg #[.int .i64 m', .int .i64 c', .int .i64 t', .int .i64 ec', .bool sd', .bool ok', .bool sp', v']] w fun e w' => e = .returned (.bool (sameO m c t ec sd ok sp rs m' c' t' ec' sd' ok' sp' rs')) ∧ Below w.heap.size w w' := by
  obtain ⟨a, cap, rfl, -, h⟩ := hv
  obtain ⟨a', cap', rfl, -, h'⟩ := hv'
  unfold sameO
  have hni : (rs.length : Int) ≤ 17592186044416 := by omega
  have hni' : (rs'.length : Int) ≤ 17592186044416 := by omega
  have hb1 := bel1 w (.cells #[.int .i64 m, .int .i64 c, .int .i64 t, .int .i64 ec, .bool sd, .bool ok, .bool sp, (.slice a rs.length cap)] 32)
  have hb2 := bel1 (w.alloc (.cells #[.int .i64 m, .int .i64 c, .int .i64 t, .int .i64 ec, .bool sd, .bool ok, .bool sp, (.slice a rs.length cap)] 32)) (.cells #[.int .i64 m', .int .i64 c', .int .i64 t', .int .i64 ec', .bool sd', .bool ok', .bool sp', (.slice a' rs'.length cap')] 32)
  have hA := (At.box w #[.int .i64 m, .int .i64 c, .int .i64 t, .int .i64 ec, .bool sd, .bool ok, .bool sp, (.slice a rs.length cap)] 32).later hb2
  have hB := At.box2 w (.cells #[.int .i64 m, .int .i64 c, .int .i64 t, .int .i64 ec, .bool sd, .bool ok, .bool sp, (.slice a rs.length cap)] 32) #[.int .i64 m', .int .i64 c', .int .i64 t', .int .i64 ec', .bool sd', .bool ok', .bool sp', (.slice a' rs'.length cap')] 32
  obtain ⟨⟨c0, c1, c2, c3, c4, c5, c6, c7⟩, -, -⟩ := hA.eight
  obtain ⟨⟨d0, d1, d2, d3, d4, d5, d6, d7⟩, -, -⟩ := hB.eight
  have HL0 : Hid (Below w.heap.size w ((w.alloc (.cells #[.int .i64 m, .int .i64 c, .int .i64 t, .int .i64 ec, .bool sd, .bool ok, .bool sp, (.slice a rs.length cap)] 32)).alloc (.cells #[.int .i64 m', .int .i64 c', .int .i64 t', .int .i64 ec', .bool sd', .bool ok', .bool sp', (.slice a' rs'.length cap')] 32))) := bt hb1 hb2
  by_cases hlen : rs.length = rs'.length
  · have HX0 : Hid (rs = [] ∨ ∃ b off, a = some ⟨b, off, none⟩ ∧ ∀ j r, rs[j]? = some r → ((w.alloc (.cells #[.int .i64 m, .int .i64 c, .int .i64 t, .int .i64 ec, .bool sd, .bool ok, .bool sp, (.slice a rs.length cap)] 32)).alloc (.cells #[.int .i64 m', .int .i64 c', .int .i64 t', .int .i64 ec', .bool sd', .bool ok', .bool sp', (.slice a' rs'.length cap')] 32)).cell? ⟨b, off + j * 2, none⟩ = some (.int .i64 r.1) ∧ ((w.alloc (.cells #[.int .i64 m, .int .i64 c, .int .i64 t, .int .i64 ec, .bool sd, .bool ok, .bool sp, (.slice a rs.length cap)] 32)).alloc (.cells #[.int .i64 m', .int .i64 c', .int .i64 t', .int .i64 ec', .bool sd', .bool ok', .bool sp', (.slice a' rs'.length cap')] 32)).cell? ⟨b, off + j * 2 + 1, none⟩ = some (.int .i64 r.2)) := by
      rcases h with h | ⟨b, off, h, hx⟩
      · exact .inl h
      · exact .inr ⟨b, off, h, fun j r hr => ⟨later HL0.out (hx j r hr).1, later HL0.out (hx j r hr).2⟩⟩
    have HY0 : Hid (rs' = [] ∨ ∃ b off, a' = some ⟨b, off, none⟩ ∧ ∀ j r, rs'[j]? = some r → ((w.alloc (.cells #[.int .i64 m, .int .i64 c, .int .i64 t, .int .i64 ec, .bool sd, .bool ok, .bool sp, (.slice a rs.length cap)] 32)).alloc (.cells #[.int .i64 m', .int .i64 c', .int .i64 t', .int .i64 ec', .bool sd', .bool ok', .bool sp', (.slice a' rs'.length cap')] 32)).cell? ⟨b, off + j * 2, none⟩ = some (.int .i64 r.1) ∧ ((w.alloc (.cells #[.int .i64 m, .int .i64 c, .int .i64 t, .int .i64 ec, .bool sd, .bool ok, .bool sp, (.slice a rs.length cap)] 32)).alloc (.cells #[.int .i64 m', .int .i64 c', .int .i64 t', .int .i64 ec', .bool sd', .bool ok', .bool sp', (.slice a' rs'.length cap')] 32)).cell? ⟨b, off + j * 2 + 1, none⟩ = some (.int .i64 r.2)) := by
      rcases h' with h | ⟨b, off, h, hx⟩
      · exact .inl h
      · exact .inr ⟨b, off, h, fun j r hr => ⟨later HL0.out (hx j r hr).1, later HL0.out (hx j r hr).2⟩⟩
    have HA0 : Hid (At ((w.alloc (.cells #[.int .i64 m, .int .i64 c, .int .i64 t, .int .i64 ec, .bool sd, .bool ok, .bool sp, (.slice a rs.length cap)] 32)).alloc (.cells #[.int .i64 m', .int .i64 c', .int .i64 t', .int .i64 ec', .bool sd', .bool ok', .bool sp', (.slice a' rs'.length cap')] 32)) w.heap.size #[.int .i64 m, .int .i64 c, .int .i64 t, .int .i64 ec, .bool sd, .bool ok, .bool sp, (.slice a rs.length cap)]) := hA
    have HB0 : Hid (At ((w.alloc (.cells #[.int .i64 m, .int .i64 c, .int .i64 t, .int .i64 ec, .bool sd, .bool ok, .bool sp, (.slice a rs.length cap)] 32)).alloc (.cells #[.int .i64 m', .int .i64 c', .int .i64 t', .int .i64 ec', .bool sd', .bool ok', .bool sp', (.slice a' rs'.length cap')] 32)) (w.heap.size + 1) #[.int .i64 m', .int .i64 c', .int .i64 t', .int .i64 ec', .bool sd', .bool ok', .bool sp', (.slice a' rs'.length cap')]) := hB
    clear h h' hb1 hb2 hA hB
    have hleni : ((rs.length : Int) != (rs'.length : Int)) = false := by simp; omega
    have HLEN : Hid (rs.length = rs'.length) := hlen
    clear hlen
    go_enter Tryz.func67, Tryz.ntmps67
    go_wp2
    clear c0 c1 c2 c3 c4 c5 c6 c7 d0 d1 d2 d3 d4 d5 d6 d7
    generalize ((w.alloc (.cells #[.int .i64 m, .int .i64 c, .int .i64 t, .int .i64 ec, .bool sd, .bool ok, .bool sp, (.slice a rs.length cap)] 32)).alloc (.cells #[.int .i64 m', .int .i64 c', .int .i64 t', .int .i64 ec', .bool sd', .bool ok', .bool sp', (.slice a' rs'.length cap')] 32)) = w2 at *
    have HX := HX0
    have HY := HY0
    have HA := HA0
    have HB := HB0
    have HL := HL0
    clear HX0 HY0 HA0 HB0 HL0
    have hlen := HLEN.out
    go_loopw [5] (fun i W => ∃ k : Nat, k ≤ rs.length ∧ i = .int .i64 k ∧ rs.take k = rs'.take k ∧ Below w2.heap.size w2 W) (fun i _ => rs.length - (intOf i).toNat)
    case atStart => exact ⟨0, Nat.zero_le _, rfl, by simp, Below.refl _ _⟩
    case round =>
      obtain ⟨k, hk, rfl, heq, hbl⟩ := hrel
      by_cases hlt : k < rs.length
      · obtain ⟨r, hr⟩ : ∃ r, rs[k]? = some r := ⟨rs[k], List.getElem?_eq_getElem hlt⟩
        obtain ⟨r', hr'⟩ : ∃ r', rs'[k]? = some r' := ⟨rs'[k]'(by omega), List.getElem?_eq_getElem (by omega)⟩
        have HE : Hid (rs.take k = rs'.take k) := heq
        have HR : Hid (rs[k]? = some r) := hr
        have HR' : Hid (rs'[k]? = some r') := hr'
        obtain ⟨b, off, rfl, x1, x2⟩ : ∃ b off, a = some ⟨b, off, none⟩ ∧ w2.cell? ⟨b, off + k * 2, none⟩ = some (.int .i64 r.1) ∧ w2.cell? ⟨b, off + k * 2 + 1, none⟩ = some (.int .i64 r.2) := by
          rcases HX.out with h | ⟨b, off, h, hx⟩
          · rw [h] at hr; simp at hr
          · exact ⟨b, off, h, hx k r hr⟩
        obtain ⟨b', off', rfl, y1, y2⟩ : ∃ b off, a' = some ⟨b, off, none⟩ ∧ w2.cell? ⟨b, off + k * 2, none⟩ = some (.int .i64 r'.1) ∧ w2.cell? ⟨b, off + k * 2 + 1, none⟩ = some (.int .i64 r'.2) := by
          rcases HY.out with h | ⟨b, off, h, hx⟩
          · rw [h] at hr'; simp at hr'
          · exact ⟨b, off, h, hx k r' hr'⟩
        replace x1 := later hbl x1
        replace x2 := later hbl x2
        replace y1 := later hbl y1
        replace y2 := later hbl y2
        clear HX HY hr hr' heq
        have l0 : (0 : Int) ≤ (k : Int) := by omega
        have l1 : (k : Int) < (rs.length : Int) := by omega
        have l2 : (k : Int) < (rs'.length : Int) := by omega
        obtain ⟨X, Y⟩ := r
        obtain ⟨X', Y'⟩ := r'
        simp only at x1 x2 y1 y2
        by_cases h1 : X = X'
        · subst h1
          by_cases h2 : Y = Y'
          · subst h2
            obtain ⟨⟨c0, c1, c2, c3, c4, c5, c6, c7⟩, -, -⟩ := (HA.out.later hbl).eight
            obtain ⟨⟨d0, d1, d2, d3, d4, d5, d6, d7⟩, -, -⟩ := (HB.out.later hbl).eight
            go_wp2
            go_quiet (fail)
            have hbl2 := below_drewN hbl nq
            go_wp2
            go_roundw
            case rel => exact ⟨k + 1, by omega, by go_num, take_same rs rs' k _ HR.out HR'.out HE.out, hbl2⟩
            case measure => simp [intOf]; omega
          · have HD : Hid (decide (rs = rs') = false) := take_other rs rs' k _ _ HR.out HR'.out (by intro e; cases e; exact h2 rfl)
            obtain ⟨⟨c0, c1, c2, c3, c4, c5, c6, c7⟩, -, -⟩ := (HA.out.later hbl).eight
            obtain ⟨⟨d0, d1, d2, d3, d4, d5, d6, d7⟩, -, -⟩ := (HB.out.later hbl).eight
            go_wp2
            go_quiet (fail)
            have hbl2 := below_drewN hbl nq
            go_wp2
            go_ret
            exact ⟨by rw [HD.out]; simp, bt HL.out hbl2⟩
        · have HD : Hid (decide (rs = rs') = false) := take_other rs rs' k _ _ HR.out HR'.out (by intro e; cases e; exact h1 rfl)
          obtain ⟨⟨c0, c1, c2, c3, c4, c5, c6, c7⟩, -, -⟩ := (HA.out.later hbl).eight
          obtain ⟨⟨d0, d1, d2, d3, d4, d5, d6, d7⟩, -, -⟩ := (HB.out.later hbl).eight
          go_wp2
          go_quiet (fail)
          have hbl2 := below_drewN hbl nq
          go_wp2
          go_ret
          exact ⟨by rw [HD.out]; simp, bt HL.out hbl2⟩
      · have hk' : k = rs.length := by omega
        subst hk'
        have HE : Hid (decide (rs = rs') = true) := decide_eq_true (by rw [List.take_length, List.take_of_length_le (by omega)] at heq; exact heq)
        clear heq
        by_cases em : m = m'
        · subst em
          by_cases ec : c = c'
          · subst ec
            by_cases et : t = t'
            · subst et
              by_cases eec : ec = ec'
              · subst eec
                by_cases esd : sd = sd'
                · subst esd
                  by_cases eok : ok = ok'
                  · subst eok
                    by_cases esp : sp = sp'
                    · subst esp
                      obtain ⟨⟨c0, c1, c2, c3, c4, c5, c6, c7⟩, -, -⟩ := (HA.out.later hbl).eight
                      obtain ⟨⟨d0, d1, d2, d3, d4, d5, d6, d7⟩, -, -⟩ := (HB.out.later hbl).eight
                      go_wp2
                      go_ret
                      exact ⟨by rw [HE.out]; simp [sameN, sameM], bt HL.out hbl⟩
                    · obtain ⟨⟨c0, c1, c2, c3, c4, c5, c6, c7⟩, -, -⟩ := (HA.out.later hbl).eight
                      obtain ⟨⟨d0, d1, d2, d3, d4, d5, d6, d7⟩, -, -⟩ := (HB.out.later hbl).eight
                      have eb : (sp == sp') = false := by simpa using esp
                      go_wp2
                      go_ret
                      exact ⟨by rw [HE.out]; simp [sameN, sameM, esp], bt HL.out hbl⟩
                  · obtain ⟨⟨c0, c1, c2, c3, c4, c5, c6, c7⟩, -, -⟩ := (HA.out.later hbl).eight
                    obtain ⟨⟨d0, d1, d2, d3, d4, d5, d6, d7⟩, -, -⟩ := (HB.out.later hbl).eight
                    have eb : (ok == ok') = false := by simpa using eok
                    go_wp2
                    go_ret
                    exact ⟨by rw [HE.out]; simp [sameN, sameM, eok], bt HL.out hbl⟩
                · obtain ⟨⟨c0, c1, c2, c3, c4, c5, c6, c7⟩, -, -⟩ := (HA.out.later hbl).eight
                  obtain ⟨⟨d0, d1, d2, d3, d4, d5, d6, d7⟩, -, -⟩ := (HB.out.later hbl).eight
                  have eb : (sd == sd') = false := by simpa using esd
                  go_wp2
                  go_ret
                  exact ⟨by rw [HE.out]; simp [sameN, sameM, esd], bt HL.out hbl⟩
              · obtain ⟨⟨c0, c1, c2, c3, c4, c5, c6, c7⟩, -, -⟩ := (HA.out.later hbl).eight
                obtain ⟨⟨d0, d1, d2, d3, d4, d5, d6, d7⟩, -, -⟩ := (HB.out.later hbl).eight
                go_wp2
                go_ret
                exact ⟨by rw [HE.out]; simp [sameN, sameM, eec], bt HL.out hbl⟩
            · obtain ⟨⟨c0, c1, c2, c3, c4, c5, c6, c7⟩, -, -⟩ := (HA.out.later hbl).eight
              obtain ⟨⟨d0, d1, d2, d3, d4, d5, d6, d7⟩, -, -⟩ := (HB.out.later hbl).eight
              go_wp2
              go_ret
              exact ⟨by rw [HE.out]; simp [sameN, sameM, et], bt HL.out hbl⟩
          · obtain ⟨⟨c0, c1, c2, c3, c4, c5, c6, c7⟩, -, -⟩ := (HA.out.later hbl).eight
            obtain ⟨⟨d0, d1, d2, d3, d4, d5, d6, d7⟩, -, -⟩ := (HB.out.later hbl).eight
            go_wp2
            go_ret
            exact ⟨by rw [HE.out]; simp [sameN, sameM, ec], bt HL.out hbl⟩
        · obtain ⟨⟨c0, c1, c2, c3, c4, c5, c6, c7⟩, -, -⟩ := (HA.out.later hbl).eight
          obtain ⟨⟨d0, d1, d2, d3, d4, d5, d6, d7⟩, -, -⟩ := (HB.out.later hbl).eight
          go_wp2
          go_ret
          exact ⟨by rw [HE.out]; simp [sameN, sameM, em], bt HL.out hbl⟩
  · have hleni : ((rs.length : Int) != (rs'.length : Int)) = true := by simp; omega
    have HD : Hid (decide (rs = rs') = false) := decide_eq_false (by intro e; rw [e] at hlen; exact hlen rfl)
    clear h h' hlen
    go_enter Tryz.func67, Tryz.ntmps67
    go_wp2
    go_ret
    exact ⟨by rw [HD.out]; simp, HL0.out⟩
end Go.Proofs.YtkpdmgoldngdaaaGreatDoor
