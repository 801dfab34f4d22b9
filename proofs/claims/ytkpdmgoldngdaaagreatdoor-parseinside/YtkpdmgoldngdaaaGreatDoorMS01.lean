/- the texts Of, Og, in part, merged by program -/
import Derived.Test.YtkpdmgoldngdaaaGreatDoorProg
import Derived.Test.YtkpdmgoldngdaaaGreatDoorRows
import Derived.Deep.QuietTactic
import Derived.BigQuiet
import Derived.WalkSmall
import Derived.Laws.StructEq
import Derived.WalkKit
import Derived.WalkSpells
import Derived.RegionTactic
import Derived.Below
import Derived.Laws.OwnMore
import Derived.Laws.AppendOwn
import Derived.Laws.AppendOwnNone
import Derived.Deep.LoopGhost
import Derived.Deep.RegionHeld3
import Derived.Shelf.Strings.Repeat
import Derived.Test.YtkpdmgoldngdaaaGreatDoorMA01
import Derived.Test.YtkpdmgoldngdaaaGreatDoorMA04
import Derived.Test.YtkpdmgoldngdaaaGreatDoorMD01
import Derived.Test.YtkpdmgoldngdaaaGreatDoorMD02
import Derived.Test.YtkpdmgoldngdaaaGreatDoorMG01
import Derived.Test.YtkpdmgoldngdaaaGreatDoorMG03
import Derived.Test.YtkpdmgoldngdaaaGreatDoorMH01
import Derived.Test.YtkpdmgoldngdaaaGreatDoorMH02
import Derived.Test.YtkpdmgoldngdaaaGreatDoorMO01
namespace Go.Proofs.YtkpdmgoldngdaaaGreatDoor
open Go.RowKit
set_option maxRecDepth 100000
theorem eq57 (a b c d a' b' c' d' : Int) (w : World) : (Op.equalIn 10000 142 (.agg #[.int .i64 a, .int .i64 b, .int .i64 c, .int .i64 d]) (.agg #[.int .i64 a', .int .i64 b', .int .i64 c', .int .i64 d'])).run Tryz.prog w = .ok (decide (a = a' ∧ b = b' ∧ c = c' ∧ d = d')) w := by
  have u3 := Tryz.underlying3
  have a3 := Tryz.isAgg3
  have z3 := Tryz.sizeOf3
  rw [show (10000 : Nat) = 9999 + 1 from rfl, Op.equalIn]
  simp only [Sem.run_bind, run_underlying Tryz.underlying142, Result.andThen_ok]
  simp only [Std.Legacy.Range.forIn_eq_forIn_range', Std.Legacy.Range.size, Nat.sub_zero, Nat.add_sub_cancel, Nat.div_one, List.range'_succ, List.range'_zero, List.forIn_cons, List.forIn_nil]
  go_simp
  by_cases h1 : a = a' <;> by_cases h2 : b = b' <;> by_cases h3 : c = c' <;> by_cases h4 : d = d' <;> simp [h1, h2, h3, h4]
theorem eq59 (a b c a' b' c' : Bool) (w : World) : (Op.equalIn 10000 144 (.agg #[.bool a, .bool b, .bool c]) (.agg #[.bool a', .bool b', .bool c'])).run Tryz.prog w = .ok (decide (a = a' ∧ b = b' ∧ c = c')) w := by
  have u3 := Tryz.underlying4
  have a3 := Tryz.isAgg4
  have z3 := Tryz.sizeOf4
  rw [show (10000 : Nat) = 9999 + 1 from rfl, Op.equalIn]
  simp only [Sem.run_bind, run_underlying Tryz.underlying144, Result.andThen_ok]
  simp only [Std.Legacy.Range.forIn_eq_forIn_range', Std.Legacy.Range.size, Nat.sub_zero, Nat.add_sub_cancel, Nat.div_one, List.range'_succ, List.range'_zero, List.forIn_cons, List.forIn_nil]
  go_simp
  cases a <;> cases b <;> cases c <;> cases a' <;> cases b' <;> cases c' <;> simp
theorem numbers_any (m c t ec : Int) (sd ok sp : Bool) (v : Value) (w : World) : Calls Tryz.prog 95 #[.agg #[.int .i64 m, .int .i64 c, .int .i64 t, .int .i64 ec, .bool sd, .bool ok, .bool sp, v]] w fun e w' => e = .returned (.agg #[.int .i64 m, .int .i64 c, .int .i64 t, .int .i64 ec]) ∧ Below w.heap.size w w' := by
  obtain ⟨⟨c0, c1, c2, c3, c4, c5, c6, c7⟩, -, -⟩ := (At.box w #[.int .i64 m, .int .i64 c, .int .i64 t, .int .i64 ec, .bool sd, .bool ok, .bool sp, v] 32).eight
  go_enter Tryz.func95, Tryz.ntmps95
  go_wp2
  exact bodyPost_ret (v := .agg #[.int .i64 m, .int .i64 c, .int .i64 t, .int .i64 ec]) (by simp [results, Tryz.results95, go_sem]) rfl ⟨rfl, bt (bel1 _ _) (bel1 _ _)⟩
theorem marks_any (m c t ec : Int) (sd ok sp : Bool) (v : Value) (w : World) : Calls Tryz.prog 96 #[.agg #[.int .i64 m, .int .i64 c, .int .i64 t, .int .i64 ec, .bool sd, .bool ok, .bool sp, v]] w fun e w' => e = .returned (.agg #[.bool sd, .bool ok, .bool sp]) ∧ Below w.heap.size w w' := by
  obtain ⟨⟨c0, c1, c2, c3, c4, c5, c6, c7⟩, -, -⟩ := (At.box w #[.int .i64 m, .int .i64 c, .int .i64 t, .int .i64 ec, .bool sd, .bool ok, .bool sp, v] 32).eight
  go_enter Tryz.func96, Tryz.ntmps96
  go_wp2
  exact bodyPost_ret (v := .agg #[.bool sd, .bool ok, .bool sp]) (by simp [results, Tryz.results96, go_sem]) rfl ⟨rfl, bt (bel1 _ _) (bel1 _ _)⟩

set_option maxRecDepth 100000 in
set_option maxHeartbeats 2000000 in
theorem equal_any (v v' : Value) (rs rs' : List (Int × Int)) (w : World) (hv : Rgs w v rs) (hv' : Rgs w v' rs') (hn : rs.length ≤ 17592186044416) (hn' : rs'.length ≤ 17592186044416) :
    Calls Tryz.prog 97 #[v, v'] w fun e w' => e = .returned (.bool (decide (rs = rs'))) ∧ Below w.heap.size w w' := by
  obtain ⟨a, cap, rfl, hc, h⟩ := hv
  obtain ⟨a', cap', rfl, hc', h'⟩ := hv'
  have hni : (rs.length : Int) ≤ 17592186044416 := by omega
  have hni' : (rs'.length : Int) ≤ 17592186044416 := by omega
  by_cases hlen : rs.length = rs'.length
  · have HX : Hid (rs = [] ∨ ∃ b off, a = some ⟨b, off, none⟩ ∧ ∀ j r, rs[j]? = some r → w.cell? ⟨b, off + j * 2, none⟩ = some (.int .i64 r.1) ∧ w.cell? ⟨b, off + j * 2 + 1, none⟩ = some (.int .i64 r.2)) := h
    have HY : Hid (rs' = [] ∨ ∃ b off, a' = some ⟨b, off, none⟩ ∧ ∀ j r, rs'[j]? = some r → w.cell? ⟨b, off + j * 2, none⟩ = some (.int .i64 r.1) ∧ w.cell? ⟨b, off + j * 2 + 1, none⟩ = some (.int .i64 r.2)) := h'
    clear h h'
    have hleni : ((rs.length : Int) != (rs'.length : Int)) = false := by simp; omega
    have hleq : (rs.length : Int) = (rs'.length : Int) := by omega
    have HLEN : Hid (rs.length = rs'.length) := hlen
    go_enter Tryz.func97, Tryz.ntmps97
    clear hlen hleq
    go_wp2
    have hlen := HLEN.out
    go_loopw [13] (fun i W => ∃ k : Nat, k ≤ rs.length ∧ i = .int .i64 k ∧ rs.take k = rs'.take k ∧ Below w.heap.size w W) (fun i _ => rs.length - (intOf i).toNat)
    case atStart => exact ⟨0, Nat.zero_le _, rfl, by simp, Below.refl _ _⟩
    case round =>
      obtain ⟨k, hk, rfl, heq, hbl⟩ := hrel
      by_cases hlt : k < rs.length
      · obtain ⟨r, hr⟩ : ∃ r, rs[k]? = some r := ⟨rs[k], List.getElem?_eq_getElem hlt⟩
        obtain ⟨r', hr'⟩ : ∃ r', rs'[k]? = some r' := ⟨rs'[k]'(by omega), List.getElem?_eq_getElem (by omega)⟩
        have HE : Hid (rs.take k = rs'.take k) := heq
        have HR : Hid (rs[k]? = some r) := hr
        have HR' : Hid (rs'[k]? = some r') := hr'
        obtain ⟨b, off, rfl, x1, x2⟩ : ∃ b off, a = some ⟨b, off, none⟩ ∧ w.cell? ⟨b, off + k * 2, none⟩ = some (.int .i64 r.1) ∧ w.cell? ⟨b, off + k * 2 + 1, none⟩ = some (.int .i64 r.2) := by
          rcases HX.out with h | ⟨b, off, h, hx⟩
          · rw [h] at hr; simp at hr
          · exact ⟨b, off, h, hx k r hr⟩
        obtain ⟨b', off', rfl, y1, y2⟩ : ∃ b off, a' = some ⟨b, off, none⟩ ∧ w.cell? ⟨b, off + k * 2, none⟩ = some (.int .i64 r'.1) ∧ w.cell? ⟨b, off + k * 2 + 1, none⟩ = some (.int .i64 r'.2) := by
          rcases HY.out with h | ⟨b, off, h, hx⟩
          · rw [h] at hr'; simp at hr'
          · exact ⟨b, off, h, hx k r' hr'⟩
        replace x1 := later hbl x1
        replace x2 := later hbl x2
        replace y1 := later hbl y1
        replace y2 := later hbl y2
        clear HX HY hr hr' heq
        have l0 : (0 : Int) ≤ (k : Int) := by omega
        have l1 : (k : Int) < (rs.length : Int) := by omega
        have l2 : (k : Int) < (rs'.length : Int) := by omega
        obtain ⟨X, Y⟩ := r
        obtain ⟨X', Y'⟩ := r'
        simp only at x1 x2 y1 y2
        by_cases h1 : X = X'
        · subst h1
          by_cases h2 : Y = Y'
          · subst h2
            go_wp2
            go_quiet (fail)
            have hbl2 := below_drewN hbl nq
            go_wp2
            go_roundw
            case rel => exact ⟨k + 1, by omega, by go_num, take_same rs rs' k _ HR.out HR'.out HE.out, hbl2⟩
            case measure => simp [intOf]; omega
          · have HD : Hid (decide (rs = rs') = false) := take_other rs rs' k _ _ HR.out HR'.out (by intro e; cases e; exact h2 rfl)
            go_wp2
            go_quiet (fail)
            have hbl2 := below_drewN hbl nq
            go_wp2
            go_ret
            exact ⟨by rw [HD.out]; rfl, hbl2⟩
        · have HD : Hid (decide (rs = rs') = false) := take_other rs rs' k _ _ HR.out HR'.out (by intro e; cases e; exact h1 rfl)
          go_wp2
          go_quiet (fail)
          have hbl2 := below_drewN hbl nq
          go_wp2
          go_ret
          exact ⟨by rw [HD.out]; rfl, hbl2⟩
      · have hk' : k = rs.length := by omega
        subst hk'
        have HE : Hid (decide (rs = rs') = true) := decide_eq_true (by rw [List.take_length, List.take_of_length_le (by omega)] at heq; exact heq)
        clear heq
        go_wp2
        go_ret
        exact ⟨by rw [HE.out]; rfl, hbl⟩
  · have hleni : ((rs.length : Int) != (rs'.length : Int)) = true := by simp; omega
    have HD : Hid (decide (rs = rs') = false) := decide_eq_false (by intro e; rw [e] at hlen; exact hlen rfl)
    clear h h' hlen
    go_enter Tryz.func97, Tryz.ntmps97
    go_wp2
    go_ret
    exact ⟨by rw [HD.out]; rfl, Below.refl _ _⟩
end Go.Proofs.YtkpdmgoldngdaaaGreatDoor

namespace Go.Proofs.YtkpdmgoldngdaaaGreatDoor
open Go.RowKit
set_option maxRecDepth 100000

theorem keepS {w W x : World} {p q : Nat} {A B : Array Value} {v v' : Value} {rs rs' : List (Int × Int)} (hb : Below W.heap.size W x) (h : Below w.heap.size w W ∧ At W p A ∧ At W q B ∧ Rgs W v rs ∧ Rgs W v' rs') : Below w.heap.size w x ∧ At x p A ∧ At x q B ∧ Rgs x v rs ∧ Rgs x v' rs' :=
  ⟨bt h.1 hb, h.2.1.later hb, h.2.2.1.later hb, h.2.2.2.1.later hb, h.2.2.2.2.later hb⟩
set_option maxRecDepth 100000 in
set_option maxHeartbeats 4000000 in
theorem same_yy (m c t ec : Int) (sd ok sp : Bool) (a : Option Addr) (cap : Nat) (rs : List (Int × Int)) (m' c' t' ec' : Int) (sd' ok' sp' : Bool) (a' : Option Addr) (cap' : Nat) (rs' : List (Int × Int)) (w : World) (hv : Rgs w (.slice a rs.length cap) rs) (hv' : Rgs w (.slice a' rs'.length cap') rs') (hn : rs.length ≤ 17592186044416) (hn' : rs'.length ≤ 17592186044416) (h1 : sameN m c t ec m' c' t' ec' = true) (h2 : sameM sd ok sp sd' ok' sp' = true) :
    Calls Tryz.prog 52 #[.agg #[.int .i64 m, .int .i64 c, .int .i64 t, .int .i64 ec, .bool sd, .bool ok, .bool sp, (.slice a rs.length cap)], .agg #[.int .i64 m', .int .i64 c', .int .i64 t', .int .i64 ec', .bool sd', .bool ok', .bool sp', (.slice a' rs'.length cap')]] w fun e w' => e = .returned (.bool (decide (rs = rs'))) ∧ Below w.heap.size w w' := by
  have hb1 := bel1 w (.cells #[.int .i64 m, .int .i64 c, .int .i64 t, .int .i64 ec, .bool sd, .bool ok, .bool sp, (.slice a rs.length cap)] 32)
  have hb2 := bel1 (w.alloc (.cells #[.int .i64 m, .int .i64 c, .int .i64 t, .int .i64 ec, .bool sd, .bool ok, .bool sp, (.slice a rs.length cap)] 32)) (.cells #[.int .i64 m', .int .i64 c', .int .i64 t', .int .i64 ec', .bool sd', .bool ok', .bool sp', (.slice a' rs'.length cap')] 32)
  have hd : Below ((w.alloc (.cells #[.int .i64 m, .int .i64 c, .int .i64 t, .int .i64 ec, .bool sd, .bool ok, .bool sp, (.slice a rs.length cap)] 32)).alloc (.cells #[.int .i64 m', .int .i64 c', .int .i64 t', .int .i64 ec', .bool sd', .bool ok', .bool sp', (.slice a' rs'.length cap')] 32)).heap.size ((w.alloc (.cells #[.int .i64 m, .int .i64 c, .int .i64 t, .int .i64 ec, .bool sd, .bool ok, .bool sp, (.slice a rs.length cap)] 32)).alloc (.cells #[.int .i64 m', .int .i64 c', .int .i64 t', .int .i64 ec', .bool sd', .bool ok', .bool sp', (.slice a' rs'.length cap')] 32)) ((w.alloc (.cells #[.int .i64 m, .int .i64 c, .int .i64 t, .int .i64 ec, .bool sd, .bool ok, .bool sp, (.slice a rs.length cap)] 32)).alloc (.cells #[.int .i64 m', .int .i64 c', .int .i64 t', .int .i64 ec', .bool sd', .bool ok', .bool sp', (.slice a' rs'.length cap')] 32)).drew := (Below.refl _ _).drew
  have HS0 : Hid (Below w.heap.size w ((w.alloc (.cells #[.int .i64 m, .int .i64 c, .int .i64 t, .int .i64 ec, .bool sd, .bool ok, .bool sp, (.slice a rs.length cap)] 32)).alloc (.cells #[.int .i64 m', .int .i64 c', .int .i64 t', .int .i64 ec', .bool sd', .bool ok', .bool sp', (.slice a' rs'.length cap')] 32)).drew ∧ At ((w.alloc (.cells #[.int .i64 m, .int .i64 c, .int .i64 t, .int .i64 ec, .bool sd, .bool ok, .bool sp, (.slice a rs.length cap)] 32)).alloc (.cells #[.int .i64 m', .int .i64 c', .int .i64 t', .int .i64 ec', .bool sd', .bool ok', .bool sp', (.slice a' rs'.length cap')] 32)).drew w.heap.size #[.int .i64 m, .int .i64 c, .int .i64 t, .int .i64 ec, .bool sd, .bool ok, .bool sp, (.slice a rs.length cap)] ∧ At ((w.alloc (.cells #[.int .i64 m, .int .i64 c, .int .i64 t, .int .i64 ec, .bool sd, .bool ok, .bool sp, (.slice a rs.length cap)] 32)).alloc (.cells #[.int .i64 m', .int .i64 c', .int .i64 t', .int .i64 ec', .bool sd', .bool ok', .bool sp', (.slice a' rs'.length cap')] 32)).drew (w.heap.size + 1) #[.int .i64 m', .int .i64 c', .int .i64 t', .int .i64 ec', .bool sd', .bool ok', .bool sp', (.slice a' rs'.length cap')] ∧ Rgs ((w.alloc (.cells #[.int .i64 m, .int .i64 c, .int .i64 t, .int .i64 ec, .bool sd, .bool ok, .bool sp, (.slice a rs.length cap)] 32)).alloc (.cells #[.int .i64 m', .int .i64 c', .int .i64 t', .int .i64 ec', .bool sd', .bool ok', .bool sp', (.slice a' rs'.length cap')] 32)).drew (.slice a rs.length cap) rs ∧ Rgs ((w.alloc (.cells #[.int .i64 m, .int .i64 c, .int .i64 t, .int .i64 ec, .bool sd, .bool ok, .bool sp, (.slice a rs.length cap)] 32)).alloc (.cells #[.int .i64 m', .int .i64 c', .int .i64 t', .int .i64 ec', .bool sd', .bool ok', .bool sp', (.slice a' rs'.length cap')] 32)).drew (.slice a' rs'.length cap') rs') :=
    ⟨bt (bt hb1 hb2) hd, ((At.box w _ 32).later hb2).later hd, (At.box2 w _ _ 32).later hd, ((hv.later hb1).later hb2).later hd, ((hv'.later hb1).later hb2).later hd⟩
  have H1 : Hid (decide (m = m' ∧ c = c' ∧ t = t' ∧ ec = ec') = true) := h1
  have H2 : Hid (decide (sd = sd' ∧ ok = ok' ∧ sp = sp') = true) := h2
  clear h2
  have HN : Hid (rs.length ≤ 17592186044416) := hn
  have HN' : Hid (rs'.length ≤ 17592186044416) := hn'
  clear hb1 hb2 hd hv hv' hn hn' h1
  go_enter Tryz.func52, Tryz.ntmps52
  go_wp2
  refine wp_region_any (by kernel_rfl) ?_
  refine region_facts (fun W => Below w.heap.size w W ∧ At W w.heap.size #[.int .i64 m, .int .i64 c, .int .i64 t, .int .i64 ec, .bool sd, .bool ok, .bool sp, (.slice a rs.length cap)] ∧ At W (w.heap.size + 1) #[.int .i64 m', .int .i64 c', .int .i64 t', .int .i64 ec', .bool sd', .bool ok', .bool sp', (.slice a' rs'.length cap')] ∧ Rgs W (.slice a rs.length cap) rs ∧ Rgs W (.slice a' rs'.length cap') rs') (GV (fun i => match i with | 0 => .agg #[.int .i64 m, .int .i64 c, .int .i64 t, .int .i64 ec, .bool sd, .bool ok, .bool sp, (.slice a rs.length cap)] | 1 => .agg #[.int .i64 m, .int .i64 c, .int .i64 t, .int .i64 ec] | 2 => .agg #[.int .i64 m', .int .i64 c', .int .i64 t', .int .i64 ec', .bool sd', .bool ok', .bool sp', (.slice a' rs'.length cap')] | 3 => .agg #[.int .i64 m', .int .i64 c', .int .i64 t', .int .i64 ec'] | 4 => .bool true | 5 => .bool true | 6 => .agg #[.int .i64 m, .int .i64 c, .int .i64 t, .int .i64 ec, .bool sd, .bool ok, .bool sp, (.slice a rs.length cap)] | 7 => .agg #[.bool sd, .bool ok, .bool sp] | 8 => .agg #[.int .i64 m', .int .i64 c', .int .i64 t', .int .i64 ec', .bool sd', .bool ok', .bool sp', (.slice a' rs'.length cap')] | 9 => .agg #[.bool sd', .bool ok', .bool sp'] | 10 => .bool true | 11 => .bool true | 12 => .bool true | 13 => .pointer (some ⟨w.heap.size, 7, none⟩) | 14 => .slice a rs.length cap | 15 => .pointer (some ⟨w.heap.size + 1, 7, none⟩) | 16 => .slice a' rs'.length cap' | 17 => .bool (decide (rs = rs')) | 18 => .bool (decide (rs = rs')) | 19 => .bool (decide (rs = rs')) | _ => undef) (fun _ => none)) (n := 24) (by kernel_rfl) rfl (by kernel_rfl) (GV_later _ _) ?_ ?_ HS0.out (Nat.le_refl _)
  · clear HS0
    refine ⟨?_, ?_, ?_, ?_, ?_, ?_, ?_, ?_, ?_, ?_, ?_, ?_, ?_, ?_, ?_, ?_, ?_, ?_, ?_, ?_, trivial⟩
    · intro ac w1 hS hT hB hD K hK
      rw [if_pos (by rfl)]
      have d2 : ac.tmps.getD 2 undef = .pointer (some ⟨w.heap.size, 0, none⟩) := hB 2 (by kernel_rfl)
      clear hB hD hT
      have hc := hS.2.1.eight.1
      go_simp
      exact hK _ _ hS (Below.refl _ _) rfl
    · intro ac w1 hS hT hB hD K hK
      rw [if_pos (by rfl)]
      have d5 : ac.tmps.getD 5 undef = .agg #[.int .i64 m, .int .i64 c, .int .i64 t, .int .i64 ec, .bool sd, .bool ok, .bool sp, (.slice a rs.length cap)] := hD ⟨0, .data⟩ (by simp) rfl _ 5 rfl rfl
      clear hB hD hT
      go_simp
      refine (numbers_any _ _ _ _ _ _ _ _ _).mono ?_
      rintro e w' ⟨rfl, hb⟩
      exact hK _ _ (keepS hb hS) hb rfl
    · intro ac w1 hS hT hB hD K hK
      rw [if_pos (by rfl)]
      have d3 : ac.tmps.getD 3 undef = .pointer (some ⟨w.heap.size + 1, 0, none⟩) := hB 3 (by kernel_rfl)
      clear hB hD hT
      have hc := hS.2.2.1.eight.1
      go_simp
      exact hK _ _ hS (Below.refl _ _) rfl
    · intro ac w1 hS hT hB hD K hK
      rw [if_pos (by rfl)]
      have d7 : ac.tmps.getD 7 undef = .agg #[.int .i64 m', .int .i64 c', .int .i64 t', .int .i64 ec', .bool sd', .bool ok', .bool sp', (.slice a' rs'.length cap')] := hD ⟨2, .data⟩ (by simp) rfl _ 7 rfl rfl
      clear hB hD hT
      go_simp
      refine (numbers_any _ _ _ _ _ _ _ _ _).mono ?_
      rintro e w' ⟨rfl, hb⟩
      exact hK _ _ (keepS hb hS) hb rfl
    · intro ac w1 hS hT hB hD K hK
      rw [if_pos (by rfl)]
      have d6 : ac.tmps.getD 6 undef = .agg #[.int .i64 m, .int .i64 c, .int .i64 t, .int .i64 ec] := hD ⟨1, .data⟩ (by simp) rfl _ 6 rfl rfl
      have d8 : ac.tmps.getD 8 undef = .agg #[.int .i64 m', .int .i64 c', .int .i64 t', .int .i64 ec'] := hD ⟨3, .data⟩ (by simp) rfl _ 8 rfl rfl
      clear hB hD hT
      have hq := eq57 m c t ec m' c' t' ec' w1
      rw [H1.out] at hq
      go_simp
      exact hK _ _ hS (Below.refl _ _) rfl
    · intro ac w1 hS hT hB hD K hK
      rw [if_pos (by rfl)]
      have d9 : ac.tmps.getD 9 undef = .bool true := hD ⟨4, .data⟩ (by simp) rfl _ 9 rfl rfl
      clear hB hD hT
      go_simp
      exact hK _ _ hS (Below.refl _ _) rfl
    · intro ac w1 hS hT hB hD K hK
      have g10 : ac.tmps.getD 10 undef = .bool true := hD ⟨5, .guard⟩ (by simp) rfl _ 10 rfl rfl
      rw [if_pos (want_t (j := 5) (d := 10) rfl rfl g10)]
      clear g10
      have d2 : ac.tmps.getD 2 undef = .pointer (some ⟨w.heap.size, 0, none⟩) := hB 2 (by kernel_rfl)
      clear hB hD hT
      have hc := hS.2.1.eight.1
      go_simp
      exact hK _ _ hS (Below.refl _ _) rfl
    · intro ac w1 hS hT hB hD K hK
      have g10 : ac.tmps.getD 10 undef = .bool true := hD ⟨5, .guard⟩ (by simp) rfl _ 10 rfl rfl
      rw [if_pos (want_t (j := 5) (d := 10) rfl rfl g10)]
      clear g10
      have d11 : ac.tmps.getD 11 undef = .agg #[.int .i64 m, .int .i64 c, .int .i64 t, .int .i64 ec, .bool sd, .bool ok, .bool sp, (.slice a rs.length cap)] := hD ⟨6, .data⟩ (by simp) rfl _ 11 rfl rfl
      clear hB hD hT
      go_simp
      refine (marks_any _ _ _ _ _ _ _ _ _).mono ?_
      rintro e w' ⟨rfl, hb⟩
      exact hK _ _ (keepS hb hS) hb rfl
    · intro ac w1 hS hT hB hD K hK
      have g10 : ac.tmps.getD 10 undef = .bool true := hD ⟨5, .guard⟩ (by simp) rfl _ 10 rfl rfl
      rw [if_pos (want_t (j := 5) (d := 10) rfl rfl g10)]
      clear g10
      have d3 : ac.tmps.getD 3 undef = .pointer (some ⟨w.heap.size + 1, 0, none⟩) := hB 3 (by kernel_rfl)
      clear hB hD hT
      have hc := hS.2.2.1.eight.1
      go_simp
      exact hK _ _ hS (Below.refl _ _) rfl
    · intro ac w1 hS hT hB hD K hK
      have g10 : ac.tmps.getD 10 undef = .bool true := hD ⟨5, .guard⟩ (by simp) rfl _ 10 rfl rfl
      rw [if_pos (want_t (j := 5) (d := 10) rfl rfl g10)]
      clear g10
      have d13 : ac.tmps.getD 13 undef = .agg #[.int .i64 m', .int .i64 c', .int .i64 t', .int .i64 ec', .bool sd', .bool ok', .bool sp', (.slice a' rs'.length cap')] := hD ⟨8, .data⟩ (by simp) rfl _ 13 rfl rfl
      clear hB hD hT
      go_simp
      refine (marks_any _ _ _ _ _ _ _ _ _).mono ?_
      rintro e w' ⟨rfl, hb⟩
      exact hK _ _ (keepS hb hS) hb rfl
    · intro ac w1 hS hT hB hD K hK
      have g10 : ac.tmps.getD 10 undef = .bool true := hD ⟨5, .guard⟩ (by simp) rfl _ 10 rfl rfl
      rw [if_pos (want_t (j := 5) (d := 10) rfl rfl g10)]
      clear g10
      have d12 : ac.tmps.getD 12 undef = .agg #[.bool sd, .bool ok, .bool sp] := hD ⟨7, .data⟩ (by simp) rfl _ 12 rfl rfl
      have d14 : ac.tmps.getD 14 undef = .agg #[.bool sd', .bool ok', .bool sp'] := hD ⟨9, .data⟩ (by simp) rfl _ 14 rfl rfl
      clear hB hD hT
      have hq := eq59 sd ok sp sd' ok' sp' w1
      rw [H2.out] at hq
      go_simp
      exact hK _ _ hS (Below.refl _ _) rfl
    · intro ac w1 hS hT hB hD K hK
      rw [if_pos (by rfl)]
      have d10 : ac.tmps.getD 10 undef = .bool true := hD ⟨5, .data⟩ (by simp) rfl _ 10 rfl rfl
      have d15 : ac.tmps.getD 15 undef = .bool true := hD ⟨10, .data⟩ (by simp) rfl _ 15 rfl rfl
      clear hB hD hT
      go_simp
      exact hK _ _ hS (Below.refl _ _) rfl
    · intro ac w1 hS hT hB hD K hK
      rw [if_pos (by rfl)]
      have d16 : ac.tmps.getD 16 undef = .bool true := hD ⟨11, .data⟩ (by simp) rfl _ 16 rfl rfl
      clear hB hD hT
      go_simp
      exact hK _ _ hS (Below.refl _ _) rfl
    · intro ac w1 hS hT hB hD K hK
      have g17 : ac.tmps.getD 17 undef = .bool true := hD ⟨12, .guard⟩ (by simp) rfl _ 17 rfl rfl
      rw [if_pos (want_t (j := 12) (d := 17) rfl rfl g17)]
      clear g17
      have d2 : ac.tmps.getD 2 undef = .pointer (some ⟨w.heap.size, 0, none⟩) := hB 2 (by kernel_rfl)
      clear hB hD hT
      go_simp
      exact hK _ _ hS (Below.refl _ _) rfl
    · intro ac w1 hS hT hB hD K hK
      have g17 : ac.tmps.getD 17 undef = .bool true := hD ⟨12, .guard⟩ (by simp) rfl _ 17 rfl rfl
      rw [if_pos (want_t (j := 12) (d := 17) rfl rfl g17)]
      clear g17
      have d18 : ac.tmps.getD 18 undef = .pointer (some ⟨w.heap.size, 7, none⟩) := hD ⟨13, .data⟩ (by simp) rfl _ 18 rfl rfl
      clear hB hD hT
      have hc := hS.2.1.eight.1
      go_simp
      exact hK _ _ hS (Below.refl _ _) rfl
    · intro ac w1 hS hT hB hD K hK
      have g17 : ac.tmps.getD 17 undef = .bool true := hD ⟨12, .guard⟩ (by simp) rfl _ 17 rfl rfl
      rw [if_pos (want_t (j := 12) (d := 17) rfl rfl g17)]
      clear g17
      have d3 : ac.tmps.getD 3 undef = .pointer (some ⟨w.heap.size + 1, 0, none⟩) := hB 3 (by kernel_rfl)
      clear hB hD hT
      go_simp
      exact hK _ _ hS (Below.refl _ _) rfl
    · intro ac w1 hS hT hB hD K hK
      have g17 : ac.tmps.getD 17 undef = .bool true := hD ⟨12, .guard⟩ (by simp) rfl _ 17 rfl rfl
      rw [if_pos (want_t (j := 12) (d := 17) rfl rfl g17)]
      clear g17
      have d20 : ac.tmps.getD 20 undef = .pointer (some ⟨w.heap.size + 1, 7, none⟩) := hD ⟨15, .data⟩ (by simp) rfl _ 20 rfl rfl
      clear hB hD hT
      have hc := hS.2.2.1.eight.1
      go_simp
      exact hK _ _ hS (Below.refl _ _) rfl
    · intro ac w1 hS hT hB hD K hK
      have g17 : ac.tmps.getD 17 undef = .bool true := hD ⟨12, .guard⟩ (by simp) rfl _ 17 rfl rfl
      rw [if_pos (want_t (j := 12) (d := 17) rfl rfl g17)]
      clear g17
      have d19 : ac.tmps.getD 19 undef = .slice a rs.length cap := hD ⟨14, .data⟩ (by simp) rfl _ 19 rfl rfl
      have d21 : ac.tmps.getD 21 undef = .slice a' rs'.length cap' := hD ⟨16, .data⟩ (by simp) rfl _ 21 rfl rfl
      clear hB hD hT
      go_simp
      refine (equal_any _ _ rs rs' _ hS.2.2.2.1 hS.2.2.2.2 HN.out HN'.out).mono ?_
      rintro e w' ⟨rfl, hb⟩
      exact hK _ _ (keepS hb hS) hb rfl
    · intro ac w1 hS hT hB hD K hK
      rw [if_pos (by rfl)]
      have d17 : ac.tmps.getD 17 undef = .bool true := hD ⟨12, .data⟩ (by simp) rfl _ 17 rfl rfl
      have d22 : ac.tmps.getD 22 undef = .bool (decide (rs = rs')) := hD ⟨17, .data⟩ (by simp) rfl _ 22 rfl rfl
      clear hB hD hT
      go_simp
      exact hK _ _ hS (Below.refl _ _) rfl
    · intro ac w1 hS hT hB hD K hK
      rw [if_pos (by rfl)]
      have d23 : ac.tmps.getD 23 undef = .bool (decide (rs = rs')) := hD ⟨18, .data⟩ (by simp) rfl _ 23 rfl rfl
      clear hB hD hT
      go_simp
      exact hK _ _ hS (Below.refl _ _) rfl
  · intro a1 w1 hS hT hdf hB hF
    clear HS0
    obtain ⟨⟨l⟩, df⟩ := a1
    match l, hT with
    | x0 :: x1 :: x2 :: x3 :: x4 :: x5 :: x6 :: x7 :: x8 :: x9 :: x10 :: x11 :: x12 :: x13 :: x14 :: x15 :: x16 :: x17 :: x18 :: x19 :: x20 :: x21 :: x22 :: x23 :: [], _ =>
      have s4 : x4 = .bool (decide (rs = rs')) := hF 19 _ 4 rfl rfl
      have sd : df = [] := hdf
      subst s4 sd
      clear hB hF
      go_wp2
      go_ret
      exact ⟨rfl, hS.1⟩
set_option maxRecDepth 100000 in
set_option maxHeartbeats 4000000 in
theorem same_yn (m c t ec : Int) (sd ok sp : Bool) (a : Option Addr) (cap : Nat) (rs : List (Int × Int)) (m' c' t' ec' : Int) (sd' ok' sp' : Bool) (a' : Option Addr) (cap' : Nat) (rs' : List (Int × Int)) (w : World) (hv : Rgs w (.slice a rs.length cap) rs) (hv' : Rgs w (.slice a' rs'.length cap') rs') (hn : rs.length ≤ 17592186044416) (hn' : rs'.length ≤ 17592186044416) (h1 : sameN m c t ec m' c' t' ec' = true) (h2 : sameM sd ok sp sd' ok' sp' = false) :
    Calls Tryz.prog 52 #[.agg #[.int .i64 m, .int .i64 c, .int .i64 t, .int .i64 ec, .bool sd, .bool ok, .bool sp, (.slice a rs.length cap)], .agg #[.int .i64 m', .int .i64 c', .int .i64 t', .int .i64 ec', .bool sd', .bool ok', .bool sp', (.slice a' rs'.length cap')]] w fun e w' => e = .returned (.bool false) ∧ Below w.heap.size w w' := by
  have hb1 := bel1 w (.cells #[.int .i64 m, .int .i64 c, .int .i64 t, .int .i64 ec, .bool sd, .bool ok, .bool sp, (.slice a rs.length cap)] 32)
  have hb2 := bel1 (w.alloc (.cells #[.int .i64 m, .int .i64 c, .int .i64 t, .int .i64 ec, .bool sd, .bool ok, .bool sp, (.slice a rs.length cap)] 32)) (.cells #[.int .i64 m', .int .i64 c', .int .i64 t', .int .i64 ec', .bool sd', .bool ok', .bool sp', (.slice a' rs'.length cap')] 32)
  have hd : Below ((w.alloc (.cells #[.int .i64 m, .int .i64 c, .int .i64 t, .int .i64 ec, .bool sd, .bool ok, .bool sp, (.slice a rs.length cap)] 32)).alloc (.cells #[.int .i64 m', .int .i64 c', .int .i64 t', .int .i64 ec', .bool sd', .bool ok', .bool sp', (.slice a' rs'.length cap')] 32)).heap.size ((w.alloc (.cells #[.int .i64 m, .int .i64 c, .int .i64 t, .int .i64 ec, .bool sd, .bool ok, .bool sp, (.slice a rs.length cap)] 32)).alloc (.cells #[.int .i64 m', .int .i64 c', .int .i64 t', .int .i64 ec', .bool sd', .bool ok', .bool sp', (.slice a' rs'.length cap')] 32)) ((w.alloc (.cells #[.int .i64 m, .int .i64 c, .int .i64 t, .int .i64 ec, .bool sd, .bool ok, .bool sp, (.slice a rs.length cap)] 32)).alloc (.cells #[.int .i64 m', .int .i64 c', .int .i64 t', .int .i64 ec', .bool sd', .bool ok', .bool sp', (.slice a' rs'.length cap')] 32)).drew := (Below.refl _ _).drew
  have HS0 : Hid (Below w.heap.size w ((w.alloc (.cells #[.int .i64 m, .int .i64 c, .int .i64 t, .int .i64 ec, .bool sd, .bool ok, .bool sp, (.slice a rs.length cap)] 32)).alloc (.cells #[.int .i64 m', .int .i64 c', .int .i64 t', .int .i64 ec', .bool sd', .bool ok', .bool sp', (.slice a' rs'.length cap')] 32)).drew ∧ At ((w.alloc (.cells #[.int .i64 m, .int .i64 c, .int .i64 t, .int .i64 ec, .bool sd, .bool ok, .bool sp, (.slice a rs.length cap)] 32)).alloc (.cells #[.int .i64 m', .int .i64 c', .int .i64 t', .int .i64 ec', .bool sd', .bool ok', .bool sp', (.slice a' rs'.length cap')] 32)).drew w.heap.size #[.int .i64 m, .int .i64 c, .int .i64 t, .int .i64 ec, .bool sd, .bool ok, .bool sp, (.slice a rs.length cap)] ∧ At ((w.alloc (.cells #[.int .i64 m, .int .i64 c, .int .i64 t, .int .i64 ec, .bool sd, .bool ok, .bool sp, (.slice a rs.length cap)] 32)).alloc (.cells #[.int .i64 m', .int .i64 c', .int .i64 t', .int .i64 ec', .bool sd', .bool ok', .bool sp', (.slice a' rs'.length cap')] 32)).drew (w.heap.size + 1) #[.int .i64 m', .int .i64 c', .int .i64 t', .int .i64 ec', .bool sd', .bool ok', .bool sp', (.slice a' rs'.length cap')] ∧ Rgs ((w.alloc (.cells #[.int .i64 m, .int .i64 c, .int .i64 t, .int .i64 ec, .bool sd, .bool ok, .bool sp, (.slice a rs.length cap)] 32)).alloc (.cells #[.int .i64 m', .int .i64 c', .int .i64 t', .int .i64 ec', .bool sd', .bool ok', .bool sp', (.slice a' rs'.length cap')] 32)).drew (.slice a rs.length cap) rs ∧ Rgs ((w.alloc (.cells #[.int .i64 m, .int .i64 c, .int .i64 t, .int .i64 ec, .bool sd, .bool ok, .bool sp, (.slice a rs.length cap)] 32)).alloc (.cells #[.int .i64 m', .int .i64 c', .int .i64 t', .int .i64 ec', .bool sd', .bool ok', .bool sp', (.slice a' rs'.length cap')] 32)).drew (.slice a' rs'.length cap') rs') :=
    ⟨bt (bt hb1 hb2) hd, ((At.box w _ 32).later hb2).later hd, (At.box2 w _ _ 32).later hd, ((hv.later hb1).later hb2).later hd, ((hv'.later hb1).later hb2).later hd⟩
  have H1 : Hid (decide (m = m' ∧ c = c' ∧ t = t' ∧ ec = ec') = true) := h1
  have H2 : Hid (decide (sd = sd' ∧ ok = ok' ∧ sp = sp') = false) := h2
  clear h2
  have HN : Hid (rs.length ≤ 17592186044416) := hn
  have HN' : Hid (rs'.length ≤ 17592186044416) := hn'
  clear hb1 hb2 hd hv hv' hn hn' h1
  go_enter Tryz.func52, Tryz.ntmps52
  go_wp2
  refine wp_region_any (by kernel_rfl) ?_
  refine region_facts (fun W => Below w.heap.size w W ∧ At W w.heap.size #[.int .i64 m, .int .i64 c, .int .i64 t, .int .i64 ec, .bool sd, .bool ok, .bool sp, (.slice a rs.length cap)] ∧ At W (w.heap.size + 1) #[.int .i64 m', .int .i64 c', .int .i64 t', .int .i64 ec', .bool sd', .bool ok', .bool sp', (.slice a' rs'.length cap')] ∧ Rgs W (.slice a rs.length cap) rs ∧ Rgs W (.slice a' rs'.length cap') rs') (GV (fun i => match i with | 0 => .agg #[.int .i64 m, .int .i64 c, .int .i64 t, .int .i64 ec, .bool sd, .bool ok, .bool sp, (.slice a rs.length cap)] | 1 => .agg #[.int .i64 m, .int .i64 c, .int .i64 t, .int .i64 ec] | 2 => .agg #[.int .i64 m', .int .i64 c', .int .i64 t', .int .i64 ec', .bool sd', .bool ok', .bool sp', (.slice a' rs'.length cap')] | 3 => .agg #[.int .i64 m', .int .i64 c', .int .i64 t', .int .i64 ec'] | 4 => .bool true | 5 => .bool true | 6 => .agg #[.int .i64 m, .int .i64 c, .int .i64 t, .int .i64 ec, .bool sd, .bool ok, .bool sp, (.slice a rs.length cap)] | 7 => .agg #[.bool sd, .bool ok, .bool sp] | 8 => .agg #[.int .i64 m', .int .i64 c', .int .i64 t', .int .i64 ec', .bool sd', .bool ok', .bool sp', (.slice a' rs'.length cap')] | 9 => .agg #[.bool sd', .bool ok', .bool sp'] | 10 => .bool false | 11 => .bool false | 12 => .bool false | 18 => .bool false | 19 => .bool false | _ => undef) (fun _ => none)) (n := 24) (by kernel_rfl) rfl (by kernel_rfl) (GV_later _ _) ?_ ?_ HS0.out (Nat.le_refl _)
  · clear HS0
    refine ⟨?_, ?_, ?_, ?_, ?_, ?_, ?_, ?_, ?_, ?_, ?_, ?_, ?_, ?_, ?_, ?_, ?_, ?_, ?_, ?_, trivial⟩
    · intro ac w1 hS hT hB hD K hK
      rw [if_pos (by rfl)]
      have d2 : ac.tmps.getD 2 undef = .pointer (some ⟨w.heap.size, 0, none⟩) := hB 2 (by kernel_rfl)
      clear hB hD hT
      have hc := hS.2.1.eight.1
      go_simp
      exact hK _ _ hS (Below.refl _ _) rfl
    · intro ac w1 hS hT hB hD K hK
      rw [if_pos (by rfl)]
      have d5 : ac.tmps.getD 5 undef = .agg #[.int .i64 m, .int .i64 c, .int .i64 t, .int .i64 ec, .bool sd, .bool ok, .bool sp, (.slice a rs.length cap)] := hD ⟨0, .data⟩ (by simp) rfl _ 5 rfl rfl
      clear hB hD hT
      go_simp
      refine (numbers_any _ _ _ _ _ _ _ _ _).mono ?_
      rintro e w' ⟨rfl, hb⟩
      exact hK _ _ (keepS hb hS) hb rfl
    · intro ac w1 hS hT hB hD K hK
      rw [if_pos (by rfl)]
      have d3 : ac.tmps.getD 3 undef = .pointer (some ⟨w.heap.size + 1, 0, none⟩) := hB 3 (by kernel_rfl)
      clear hB hD hT
      have hc := hS.2.2.1.eight.1
      go_simp
      exact hK _ _ hS (Below.refl _ _) rfl
    · intro ac w1 hS hT hB hD K hK
      rw [if_pos (by rfl)]
      have d7 : ac.tmps.getD 7 undef = .agg #[.int .i64 m', .int .i64 c', .int .i64 t', .int .i64 ec', .bool sd', .bool ok', .bool sp', (.slice a' rs'.length cap')] := hD ⟨2, .data⟩ (by simp) rfl _ 7 rfl rfl
      clear hB hD hT
      go_simp
      refine (numbers_any _ _ _ _ _ _ _ _ _).mono ?_
      rintro e w' ⟨rfl, hb⟩
      exact hK _ _ (keepS hb hS) hb rfl
    · intro ac w1 hS hT hB hD K hK
      rw [if_pos (by rfl)]
      have d6 : ac.tmps.getD 6 undef = .agg #[.int .i64 m, .int .i64 c, .int .i64 t, .int .i64 ec] := hD ⟨1, .data⟩ (by simp) rfl _ 6 rfl rfl
      have d8 : ac.tmps.getD 8 undef = .agg #[.int .i64 m', .int .i64 c', .int .i64 t', .int .i64 ec'] := hD ⟨3, .data⟩ (by simp) rfl _ 8 rfl rfl
      clear hB hD hT
      have hq := eq57 m c t ec m' c' t' ec' w1
      rw [H1.out] at hq
      go_simp
      exact hK _ _ hS (Below.refl _ _) rfl
    · intro ac w1 hS hT hB hD K hK
      rw [if_pos (by rfl)]
      have d9 : ac.tmps.getD 9 undef = .bool true := hD ⟨4, .data⟩ (by simp) rfl _ 9 rfl rfl
      clear hB hD hT
      go_simp
      exact hK _ _ hS (Below.refl _ _) rfl
    · intro ac w1 hS hT hB hD K hK
      have g10 : ac.tmps.getD 10 undef = .bool true := hD ⟨5, .guard⟩ (by simp) rfl _ 10 rfl rfl
      rw [if_pos (want_t (j := 5) (d := 10) rfl rfl g10)]
      clear g10
      have d2 : ac.tmps.getD 2 undef = .pointer (some ⟨w.heap.size, 0, none⟩) := hB 2 (by kernel_rfl)
      clear hB hD hT
      have hc := hS.2.1.eight.1
      go_simp
      exact hK _ _ hS (Below.refl _ _) rfl
    · intro ac w1 hS hT hB hD K hK
      have g10 : ac.tmps.getD 10 undef = .bool true := hD ⟨5, .guard⟩ (by simp) rfl _ 10 rfl rfl
      rw [if_pos (want_t (j := 5) (d := 10) rfl rfl g10)]
      clear g10
      have d11 : ac.tmps.getD 11 undef = .agg #[.int .i64 m, .int .i64 c, .int .i64 t, .int .i64 ec, .bool sd, .bool ok, .bool sp, (.slice a rs.length cap)] := hD ⟨6, .data⟩ (by simp) rfl _ 11 rfl rfl
      clear hB hD hT
      go_simp
      refine (marks_any _ _ _ _ _ _ _ _ _).mono ?_
      rintro e w' ⟨rfl, hb⟩
      exact hK _ _ (keepS hb hS) hb rfl
    · intro ac w1 hS hT hB hD K hK
      have g10 : ac.tmps.getD 10 undef = .bool true := hD ⟨5, .guard⟩ (by simp) rfl _ 10 rfl rfl
      rw [if_pos (want_t (j := 5) (d := 10) rfl rfl g10)]
      clear g10
      have d3 : ac.tmps.getD 3 undef = .pointer (some ⟨w.heap.size + 1, 0, none⟩) := hB 3 (by kernel_rfl)
      clear hB hD hT
      have hc := hS.2.2.1.eight.1
      go_simp
      exact hK _ _ hS (Below.refl _ _) rfl
    · intro ac w1 hS hT hB hD K hK
      have g10 : ac.tmps.getD 10 undef = .bool true := hD ⟨5, .guard⟩ (by simp) rfl _ 10 rfl rfl
      rw [if_pos (want_t (j := 5) (d := 10) rfl rfl g10)]
      clear g10
      have d13 : ac.tmps.getD 13 undef = .agg #[.int .i64 m', .int .i64 c', .int .i64 t', .int .i64 ec', .bool sd', .bool ok', .bool sp', (.slice a' rs'.length cap')] := hD ⟨8, .data⟩ (by simp) rfl _ 13 rfl rfl
      clear hB hD hT
      go_simp
      refine (marks_any _ _ _ _ _ _ _ _ _).mono ?_
      rintro e w' ⟨rfl, hb⟩
      exact hK _ _ (keepS hb hS) hb rfl
    · intro ac w1 hS hT hB hD K hK
      have g10 : ac.tmps.getD 10 undef = .bool true := hD ⟨5, .guard⟩ (by simp) rfl _ 10 rfl rfl
      rw [if_pos (want_t (j := 5) (d := 10) rfl rfl g10)]
      clear g10
      have d12 : ac.tmps.getD 12 undef = .agg #[.bool sd, .bool ok, .bool sp] := hD ⟨7, .data⟩ (by simp) rfl _ 12 rfl rfl
      have d14 : ac.tmps.getD 14 undef = .agg #[.bool sd', .bool ok', .bool sp'] := hD ⟨9, .data⟩ (by simp) rfl _ 14 rfl rfl
      clear hB hD hT
      have hq := eq59 sd ok sp sd' ok' sp' w1
      rw [H2.out] at hq
      go_simp
      exact hK _ _ hS (Below.refl _ _) rfl
    · intro ac w1 hS hT hB hD K hK
      rw [if_pos (by rfl)]
      have d10 : ac.tmps.getD 10 undef = .bool true := hD ⟨5, .data⟩ (by simp) rfl _ 10 rfl rfl
      have d15 : ac.tmps.getD 15 undef = .bool false := hD ⟨10, .data⟩ (by simp) rfl _ 15 rfl rfl
      clear hB hD hT
      go_simp
      exact hK _ _ hS (Below.refl _ _) rfl
    · intro ac w1 hS hT hB hD K hK
      rw [if_pos (by rfl)]
      have d16 : ac.tmps.getD 16 undef = .bool false := hD ⟨11, .data⟩ (by simp) rfl _ 16 rfl rfl
      clear hB hD hT
      go_simp
      exact hK _ _ hS (Below.refl _ _) rfl
    · intro ac w1 hS hT hB hD K hK
      have g17 : ac.tmps.getD 17 undef = .bool false := hD ⟨12, .guard⟩ (by simp) rfl _ 17 rfl rfl
      rw [if_neg (by rw [want_f (j := 12) (d := 17) rfl rfl g17 (by decide)]; simp)]
      exact hK _ _ hS (Below.refl _ _) rfl
    · intro ac w1 hS hT hB hD K hK
      have g17 : ac.tmps.getD 17 undef = .bool false := hD ⟨12, .guard⟩ (by simp) rfl _ 17 rfl rfl
      rw [if_neg (by rw [want_f (j := 12) (d := 17) rfl rfl g17 (by decide)]; simp)]
      exact hK _ _ hS (Below.refl _ _) rfl
    · intro ac w1 hS hT hB hD K hK
      have g17 : ac.tmps.getD 17 undef = .bool false := hD ⟨12, .guard⟩ (by simp) rfl _ 17 rfl rfl
      rw [if_neg (by rw [want_f (j := 12) (d := 17) rfl rfl g17 (by decide)]; simp)]
      exact hK _ _ hS (Below.refl _ _) rfl
    · intro ac w1 hS hT hB hD K hK
      have g17 : ac.tmps.getD 17 undef = .bool false := hD ⟨12, .guard⟩ (by simp) rfl _ 17 rfl rfl
      rw [if_neg (by rw [want_f (j := 12) (d := 17) rfl rfl g17 (by decide)]; simp)]
      exact hK _ _ hS (Below.refl _ _) rfl
    · intro ac w1 hS hT hB hD K hK
      have g17 : ac.tmps.getD 17 undef = .bool false := hD ⟨12, .guard⟩ (by simp) rfl _ 17 rfl rfl
      rw [if_neg (by rw [want_f (j := 12) (d := 17) rfl rfl g17 (by decide)]; simp)]
      exact hK _ _ hS (Below.refl _ _) rfl
    · intro ac w1 hS hT hB hD K hK
      rw [if_pos (by rfl)]
      have d17 : ac.tmps.getD 17 undef = .bool false := hD ⟨12, .data⟩ (by simp) rfl _ 17 rfl rfl
      have d22 : ac.tmps.getD 22 undef = undef := hD ⟨17, .data⟩ (by simp) rfl _ 22 rfl rfl
      clear hB hD hT
      go_simp
      exact hK _ _ hS (Below.refl _ _) rfl
    · intro ac w1 hS hT hB hD K hK
      rw [if_pos (by rfl)]
      have d23 : ac.tmps.getD 23 undef = .bool false := hD ⟨18, .data⟩ (by simp) rfl _ 23 rfl rfl
      clear hB hD hT
      go_simp
      exact hK _ _ hS (Below.refl _ _) rfl
  · intro a1 w1 hS hT hdf hB hF
    clear HS0
    obtain ⟨⟨l⟩, df⟩ := a1
    match l, hT with
    | x0 :: x1 :: x2 :: x3 :: x4 :: x5 :: x6 :: x7 :: x8 :: x9 :: x10 :: x11 :: x12 :: x13 :: x14 :: x15 :: x16 :: x17 :: x18 :: x19 :: x20 :: x21 :: x22 :: x23 :: [], _ =>
      have s4 : x4 = .bool false := hF 19 _ 4 rfl rfl
      have sd : df = [] := hdf
      subst s4 sd
      clear hB hF
      go_wp2
      go_ret
      exact ⟨rfl, hS.1⟩
set_option maxRecDepth 100000 in
set_option maxHeartbeats 4000000 in
theorem same_nn (m c t ec : Int) (sd ok sp : Bool) (a : Option Addr) (cap : Nat) (rs : List (Int × Int)) (m' c' t' ec' : Int) (sd' ok' sp' : Bool) (a' : Option Addr) (cap' : Nat) (rs' : List (Int × Int)) (w : World) (hv : Rgs w (.slice a rs.length cap) rs) (hv' : Rgs w (.slice a' rs'.length cap') rs') (hn : rs.length ≤ 17592186044416) (hn' : rs'.length ≤ 17592186044416) (h1 : sameN m c t ec m' c' t' ec' = false) :
    Calls Tryz.prog 52 #[.agg #[.int .i64 m, .int .i64 c, .int .i64 t, .int .i64 ec, .bool sd, .bool ok, .bool sp, (.slice a rs.length cap)], .agg #[.int .i64 m', .int .i64 c', .int .i64 t', .int .i64 ec', .bool sd', .bool ok', .bool sp', (.slice a' rs'.length cap')]] w fun e w' => e = .returned (.bool false) ∧ Below w.heap.size w w' := by
  have hb1 := bel1 w (.cells #[.int .i64 m, .int .i64 c, .int .i64 t, .int .i64 ec, .bool sd, .bool ok, .bool sp, (.slice a rs.length cap)] 32)
  have hb2 := bel1 (w.alloc (.cells #[.int .i64 m, .int .i64 c, .int .i64 t, .int .i64 ec, .bool sd, .bool ok, .bool sp, (.slice a rs.length cap)] 32)) (.cells #[.int .i64 m', .int .i64 c', .int .i64 t', .int .i64 ec', .bool sd', .bool ok', .bool sp', (.slice a' rs'.length cap')] 32)
  have hd : Below ((w.alloc (.cells #[.int .i64 m, .int .i64 c, .int .i64 t, .int .i64 ec, .bool sd, .bool ok, .bool sp, (.slice a rs.length cap)] 32)).alloc (.cells #[.int .i64 m', .int .i64 c', .int .i64 t', .int .i64 ec', .bool sd', .bool ok', .bool sp', (.slice a' rs'.length cap')] 32)).heap.size ((w.alloc (.cells #[.int .i64 m, .int .i64 c, .int .i64 t, .int .i64 ec, .bool sd, .bool ok, .bool sp, (.slice a rs.length cap)] 32)).alloc (.cells #[.int .i64 m', .int .i64 c', .int .i64 t', .int .i64 ec', .bool sd', .bool ok', .bool sp', (.slice a' rs'.length cap')] 32)) ((w.alloc (.cells #[.int .i64 m, .int .i64 c, .int .i64 t, .int .i64 ec, .bool sd, .bool ok, .bool sp, (.slice a rs.length cap)] 32)).alloc (.cells #[.int .i64 m', .int .i64 c', .int .i64 t', .int .i64 ec', .bool sd', .bool ok', .bool sp', (.slice a' rs'.length cap')] 32)).drew := (Below.refl _ _).drew
  have HS0 : Hid (Below w.heap.size w ((w.alloc (.cells #[.int .i64 m, .int .i64 c, .int .i64 t, .int .i64 ec, .bool sd, .bool ok, .bool sp, (.slice a rs.length cap)] 32)).alloc (.cells #[.int .i64 m', .int .i64 c', .int .i64 t', .int .i64 ec', .bool sd', .bool ok', .bool sp', (.slice a' rs'.length cap')] 32)).drew ∧ At ((w.alloc (.cells #[.int .i64 m, .int .i64 c, .int .i64 t, .int .i64 ec, .bool sd, .bool ok, .bool sp, (.slice a rs.length cap)] 32)).alloc (.cells #[.int .i64 m', .int .i64 c', .int .i64 t', .int .i64 ec', .bool sd', .bool ok', .bool sp', (.slice a' rs'.length cap')] 32)).drew w.heap.size #[.int .i64 m, .int .i64 c, .int .i64 t, .int .i64 ec, .bool sd, .bool ok, .bool sp, (.slice a rs.length cap)] ∧ At ((w.alloc (.cells #[.int .i64 m, .int .i64 c, .int .i64 t, .int .i64 ec, .bool sd, .bool ok, .bool sp, (.slice a rs.length cap)] 32)).alloc (.cells #[.int .i64 m', .int .i64 c', .int .i64 t', .int .i64 ec', .bool sd', .bool ok', .bool sp', (.slice a' rs'.length cap')] 32)).drew (w.heap.size + 1) #[.int .i64 m', .int .i64 c', .int .i64 t', .int .i64 ec', .bool sd', .bool ok', .bool sp', (.slice a' rs'.length cap')] ∧ Rgs ((w.alloc (.cells #[.int .i64 m, .int .i64 c, .int .i64 t, .int .i64 ec, .bool sd, .bool ok, .bool sp, (.slice a rs.length cap)] 32)).alloc (.cells #[.int .i64 m', .int .i64 c', .int .i64 t', .int .i64 ec', .bool sd', .bool ok', .bool sp', (.slice a' rs'.length cap')] 32)).drew (.slice a rs.length cap) rs ∧ Rgs ((w.alloc (.cells #[.int .i64 m, .int .i64 c, .int .i64 t, .int .i64 ec, .bool sd, .bool ok, .bool sp, (.slice a rs.length cap)] 32)).alloc (.cells #[.int .i64 m', .int .i64 c', .int .i64 t', .int .i64 ec', .bool sd', .bool ok', .bool sp', (.slice a' rs'.length cap')] 32)).drew (.slice a' rs'.length cap') rs') :=
    ⟨bt (bt hb1 hb2) hd, ((At.box w _ 32).later hb2).later hd, (At.box2 w _ _ 32).later hd, ((hv.later hb1).later hb2).later hd, ((hv'.later hb1).later hb2).later hd⟩
  have H1 : Hid (decide (m = m' ∧ c = c' ∧ t = t' ∧ ec = ec') = false) := h1
  have HN : Hid (rs.length ≤ 17592186044416) := hn
  have HN' : Hid (rs'.length ≤ 17592186044416) := hn'
  clear hb1 hb2 hd hv hv' hn hn' h1
  go_enter Tryz.func52, Tryz.ntmps52
  go_wp2
  refine wp_region_any (by kernel_rfl) ?_
  refine region_facts (fun W => Below w.heap.size w W ∧ At W w.heap.size #[.int .i64 m, .int .i64 c, .int .i64 t, .int .i64 ec, .bool sd, .bool ok, .bool sp, (.slice a rs.length cap)] ∧ At W (w.heap.size + 1) #[.int .i64 m', .int .i64 c', .int .i64 t', .int .i64 ec', .bool sd', .bool ok', .bool sp', (.slice a' rs'.length cap')] ∧ Rgs W (.slice a rs.length cap) rs ∧ Rgs W (.slice a' rs'.length cap') rs') (GV (fun i => match i with | 0 => .agg #[.int .i64 m, .int .i64 c, .int .i64 t, .int .i64 ec, .bool sd, .bool ok, .bool sp, (.slice a rs.length cap)] | 1 => .agg #[.int .i64 m, .int .i64 c, .int .i64 t, .int .i64 ec] | 2 => .agg #[.int .i64 m', .int .i64 c', .int .i64 t', .int .i64 ec', .bool sd', .bool ok', .bool sp', (.slice a' rs'.length cap')] | 3 => .agg #[.int .i64 m', .int .i64 c', .int .i64 t', .int .i64 ec'] | 4 => .bool false | 5 => .bool false | 11 => .bool false | 12 => .bool false | 18 => .bool false | 19 => .bool false | _ => undef) (fun _ => none)) (n := 24) (by kernel_rfl) rfl (by kernel_rfl) (GV_later _ _) ?_ ?_ HS0.out (Nat.le_refl _)
  · clear HS0
    refine ⟨?_, ?_, ?_, ?_, ?_, ?_, ?_, ?_, ?_, ?_, ?_, ?_, ?_, ?_, ?_, ?_, ?_, ?_, ?_, ?_, trivial⟩
    · intro ac w1 hS hT hB hD K hK
      rw [if_pos (by rfl)]
      have d2 : ac.tmps.getD 2 undef = .pointer (some ⟨w.heap.size, 0, none⟩) := hB 2 (by kernel_rfl)
      clear hB hD hT
      have hc := hS.2.1.eight.1
      go_simp
      exact hK _ _ hS (Below.refl _ _) rfl
    · intro ac w1 hS hT hB hD K hK
      rw [if_pos (by rfl)]
      have d5 : ac.tmps.getD 5 undef = .agg #[.int .i64 m, .int .i64 c, .int .i64 t, .int .i64 ec, .bool sd, .bool ok, .bool sp, (.slice a rs.length cap)] := hD ⟨0, .data⟩ (by simp) rfl _ 5 rfl rfl
      clear hB hD hT
      go_simp
      refine (numbers_any _ _ _ _ _ _ _ _ _).mono ?_
      rintro e w' ⟨rfl, hb⟩
      exact hK _ _ (keepS hb hS) hb rfl
    · intro ac w1 hS hT hB hD K hK
      rw [if_pos (by rfl)]
      have d3 : ac.tmps.getD 3 undef = .pointer (some ⟨w.heap.size + 1, 0, none⟩) := hB 3 (by kernel_rfl)
      clear hB hD hT
      have hc := hS.2.2.1.eight.1
      go_simp
      exact hK _ _ hS (Below.refl _ _) rfl
    · intro ac w1 hS hT hB hD K hK
      rw [if_pos (by rfl)]
      have d7 : ac.tmps.getD 7 undef = .agg #[.int .i64 m', .int .i64 c', .int .i64 t', .int .i64 ec', .bool sd', .bool ok', .bool sp', (.slice a' rs'.length cap')] := hD ⟨2, .data⟩ (by simp) rfl _ 7 rfl rfl
      clear hB hD hT
      go_simp
      refine (numbers_any _ _ _ _ _ _ _ _ _).mono ?_
      rintro e w' ⟨rfl, hb⟩
      exact hK _ _ (keepS hb hS) hb rfl
    · intro ac w1 hS hT hB hD K hK
      rw [if_pos (by rfl)]
      have d6 : ac.tmps.getD 6 undef = .agg #[.int .i64 m, .int .i64 c, .int .i64 t, .int .i64 ec] := hD ⟨1, .data⟩ (by simp) rfl _ 6 rfl rfl
      have d8 : ac.tmps.getD 8 undef = .agg #[.int .i64 m', .int .i64 c', .int .i64 t', .int .i64 ec'] := hD ⟨3, .data⟩ (by simp) rfl _ 8 rfl rfl
      clear hB hD hT
      have hq := eq57 m c t ec m' c' t' ec' w1
      rw [H1.out] at hq
      go_simp
      exact hK _ _ hS (Below.refl _ _) rfl
    · intro ac w1 hS hT hB hD K hK
      rw [if_pos (by rfl)]
      have d9 : ac.tmps.getD 9 undef = .bool false := hD ⟨4, .data⟩ (by simp) rfl _ 9 rfl rfl
      clear hB hD hT
      go_simp
      exact hK _ _ hS (Below.refl _ _) rfl
    · intro ac w1 hS hT hB hD K hK
      have g10 : ac.tmps.getD 10 undef = .bool false := hD ⟨5, .guard⟩ (by simp) rfl _ 10 rfl rfl
      rw [if_neg (by rw [want_f (j := 5) (d := 10) rfl rfl g10 (by decide)]; simp)]
      exact hK _ _ hS (Below.refl _ _) rfl
    · intro ac w1 hS hT hB hD K hK
      have g10 : ac.tmps.getD 10 undef = .bool false := hD ⟨5, .guard⟩ (by simp) rfl _ 10 rfl rfl
      rw [if_neg (by rw [want_f (j := 5) (d := 10) rfl rfl g10 (by decide)]; simp)]
      exact hK _ _ hS (Below.refl _ _) rfl
    · intro ac w1 hS hT hB hD K hK
      have g10 : ac.tmps.getD 10 undef = .bool false := hD ⟨5, .guard⟩ (by simp) rfl _ 10 rfl rfl
      rw [if_neg (by rw [want_f (j := 5) (d := 10) rfl rfl g10 (by decide)]; simp)]
      exact hK _ _ hS (Below.refl _ _) rfl
    · intro ac w1 hS hT hB hD K hK
      have g10 : ac.tmps.getD 10 undef = .bool false := hD ⟨5, .guard⟩ (by simp) rfl _ 10 rfl rfl
      rw [if_neg (by rw [want_f (j := 5) (d := 10) rfl rfl g10 (by decide)]; simp)]
      exact hK _ _ hS (Below.refl _ _) rfl
    · intro ac w1 hS hT hB hD K hK
      have g10 : ac.tmps.getD 10 undef = .bool false := hD ⟨5, .guard⟩ (by simp) rfl _ 10 rfl rfl
      rw [if_neg (by rw [want_f (j := 5) (d := 10) rfl rfl g10 (by decide)]; simp)]
      exact hK _ _ hS (Below.refl _ _) rfl
    · intro ac w1 hS hT hB hD K hK
      rw [if_pos (by rfl)]
      have d10 : ac.tmps.getD 10 undef = .bool false := hD ⟨5, .data⟩ (by simp) rfl _ 10 rfl rfl
      have d15 : ac.tmps.getD 15 undef = undef := hD ⟨10, .data⟩ (by simp) rfl _ 15 rfl rfl
      clear hB hD hT
      go_simp
      exact hK _ _ hS (Below.refl _ _) rfl
    · intro ac w1 hS hT hB hD K hK
      rw [if_pos (by rfl)]
      have d16 : ac.tmps.getD 16 undef = .bool false := hD ⟨11, .data⟩ (by simp) rfl _ 16 rfl rfl
      clear hB hD hT
      go_simp
      exact hK _ _ hS (Below.refl _ _) rfl
    · intro ac w1 hS hT hB hD K hK
      have g17 : ac.tmps.getD 17 undef = .bool false := hD ⟨12, .guard⟩ (by simp) rfl _ 17 rfl rfl
      rw [if_neg (by rw [want_f (j := 12) (d := 17) rfl rfl g17 (by decide)]; simp)]
      exact hK _ _ hS (Below.refl _ _) rfl
    · intro ac w1 hS hT hB hD K hK
      have g17 : ac.tmps.getD 17 undef = .bool false := hD ⟨12, .guard⟩ (by simp) rfl _ 17 rfl rfl
      rw [if_neg (by rw [want_f (j := 12) (d := 17) rfl rfl g17 (by decide)]; simp)]
      exact hK _ _ hS (Below.refl _ _) rfl
    · intro ac w1 hS hT hB hD K hK
      have g17 : ac.tmps.getD 17 undef = .bool false := hD ⟨12, .guard⟩ (by simp) rfl _ 17 rfl rfl
      rw [if_neg (by rw [want_f (j := 12) (d := 17) rfl rfl g17 (by decide)]; simp)]
      exact hK _ _ hS (Below.refl _ _) rfl
    · intro ac w1 hS hT hB hD K hK
      have g17 : ac.tmps.getD 17 undef = .bool false := hD ⟨12, .guard⟩ (by simp) rfl _ 17 rfl rfl
      rw [if_neg (by rw [want_f (j := 12) (d := 17) rfl rfl g17 (by decide)]; simp)]
      exact hK _ _ hS (Below.refl _ _) rfl
    · intro ac w1 hS hT hB hD K hK
      have g17 : ac.tmps.getD 17 undef = .bool false := hD ⟨12, .guard⟩ (by simp) rfl _ 17 rfl rfl
      rw [if_neg (by rw [want_f (j := 12) (d := 17) rfl rfl g17 (by decide)]; simp)]
      exact hK _ _ hS (Below.refl _ _) rfl
    · intro ac w1 hS hT hB hD K hK
      rw [if_pos (by rfl)]
      have d17 : ac.tmps.getD 17 undef = .bool false := hD ⟨12, .data⟩ (by simp) rfl _ 17 rfl rfl
      have d22 : ac.tmps.getD 22 undef = undef := hD ⟨17, .data⟩ (by simp) rfl _ 22 rfl rfl
      clear hB hD hT
      go_simp
      exact hK _ _ hS (Below.refl _ _) rfl
    · intro ac w1 hS hT hB hD K hK
      rw [if_pos (by rfl)]
      have d23 : ac.tmps.getD 23 undef = .bool false := hD ⟨18, .data⟩ (by simp) rfl _ 23 rfl rfl
      clear hB hD hT
      go_simp
      exact hK _ _ hS (Below.refl _ _) rfl
  · intro a1 w1 hS hT hdf hB hF
    clear HS0
    obtain ⟨⟨l⟩, df⟩ := a1
    match l, hT with
    | x0 :: x1 :: x2 :: x3 :: x4 :: x5 :: x6 :: x7 :: x8 :: x9 :: x10 :: x11 :: x12 :: x13 :: x14 :: x15 :: x16 :: x17 :: x18 :: x19 :: x20 :: x21 :: x22 :: x23 :: [], _ =>
      have s4 : x4 = .bool false := hF 19 _ 4 rfl rfl
      have sd : df = [] := hdf
      subst s4 sd
      clear hB hF
      go_wp2
      go_ret
      exact ⟨rfl, hS.1⟩
theorem same_any (m c t ec : Int) (sd ok sp : Bool) (v : Value) (rs : List (Int × Int)) (m' c' t' ec' : Int) (sd' ok' sp' : Bool) (v' : Value) (rs' : List (Int × Int)) (w : World) (hv : Rgs w v rs) (hv' : Rgs w v' rs') (hn : rs.length ≤ 17592186044416) (hn' : rs'.length ≤ 17592186044416) :
    Calls Tryz.prog 52 #[.agg #[.int .i64 m, .int .i64 c, .int .i64 t, .int .i64 ec, .bool sd, .bool ok, .bool sp, v], .agg #[.int .i64 m', .int .i64 c', .int .i64 t', .int .i64 ec', .bool sd', .bool ok', .bool sp', v']] w fun e w' => e = .returned (.bool (sameO m c t ec sd ok sp rs m' c' t' ec' sd' ok' sp' rs')) ∧ Below w.heap.size w w' := by
  obtain ⟨a, cap, e1, -⟩ := id hv
  obtain ⟨a', cap', e2, -⟩ := id hv'
  subst e1 e2
  unfold sameO
  rcases Bool.eq_false_or_eq_true (sameN m c t ec m' c' t' ec') with h1 | h1
  · rcases Bool.eq_false_or_eq_true (sameM sd ok sp sd' ok' sp') with h2 | h2
    · rw [h1, h2, Bool.true_and, Bool.true_and]
      exact same_yy _ _ _ _ _ _ _ _ _ _ _ _ _ _ _ _ _ _ _ _ w hv hv' hn hn' h1 h2
    · rw [h1, h2]
      exact same_yn _ _ _ _ _ _ _ _ _ _ _ _ _ _ _ _ _ _ _ _ w hv hv' hn hn' h1 h2
  · rw [h1]
    exact same_nn _ _ _ _ _ _ _ _ _ _ _ _ _ _ _ _ _ _ _ _ w hv hv' hn hn' h1
end Go.Proofs.YtkpdmgoldngdaaaGreatDoor
